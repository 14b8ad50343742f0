package push_test

import (
	"slices"
	"testing"

	"bolide/api"
	"bolide/push"
)

// failing is a campaign of missions of which so many may fail.
func failing(fails int, l ...api.Mission) api.Campaign {
	return but(campaign(l...), func(c *api.Campaign) { c.Fails = fails })
}

func TestP8_3Failures(t *testing.T) {
	i, c, r := impactor(), charge(), reserve(impactor())
	for name, x := range map[string]struct {
		c    api.Campaign
		want [][]int
	}{
		"of the chapter":    {failing(2, i, c, r), lists(nil, list(0), list(1), list(0, 1), list(0, 2), list(1, 2))},
		"no fails":          {failing(0, i, c, r), lists(nil)},
		"no missions":       {failing(3), lists(nil)},
		"one fails":         {failing(1, i, c, r), lists(nil, list(0), list(1))},
		"three":             {failing(3, i, c, r), lists(nil, list(0), list(1), list(0, 1), list(0, 2), list(1, 2), list(0, 1, 2))},
		"a reserve first":   {failing(3, r, i), lists(nil, list(1))},                                     // nothing is before it
		"in between":        {failing(2, i, r, c), lists(nil, list(0), list(2), list(0, 1), list(0, 2))}, // not 1 2: before 1 nothing fails
		"after a reserve":   {failing(3, i, r, r), lists(nil, list(0), list(0, 1), list(0, 2), list(0, 1, 2))},
		"reserves alone":    {failing(3, r, r, r), lists(nil)},
		"one":               {failing(3, i), lists(nil, list(0))},
		"not valid":         {failing(4, i), nil},
		"mission not valid": {failing(1, i, api.Mission{}), nil},
		"body not valid":    {but(failing(1, i), func(c *api.Campaign) { c.Body = of(2, 1) }), nil},
		"many missions":     {failing(1, append(make6(), i)...), nil},
	} {
		if l := push.Failures(x.c); !equal(l, x.want) {
			t.Error(name, l)
		}
	}
	if l := push.Failures(failing(3, i, i, i, i, i, i)); len(l) != 1+6+15+20 {
		t.Error(len(l))
	}
}

func TestP8_3Working(t *testing.T) {
	i, c, r := impactor(), charge(), reserve(impactor())
	chapter := failing(2, i, c, r)
	for name, x := range map[string]struct {
		c      api.Campaign
		failed []int
		want   []int
	}{
		"none": {chapter, nil, list(0, 1)}, "0": {chapter, list(0), list(1, 2)}, "0 2": {chapter, list(0, 2), list(1)}, "1 2": {chapter, list(1, 2), list(0)}, "0 1": {chapter, list(0, 1), list(2)}, "1": {chapter, list(1), list(0, 2)},
		"empty list":        {chapter, list(), list(0, 1)},
		"does not fly":      {chapter, list(2), nil},
		"not ascending":     {chapter, list(1, 0), nil},
		"twice":             {chapter, list(1, 1), nil},
		"no mission":        {chapter, list(3), nil},
		"below 0":           {chapter, list(-1), nil},
		"too many":          {chapter, list(0, 1, 2), nil},
		"no fails":          {failing(0, i, c, r), list(0), nil},
		"nothing fails":     {failing(0, i, c, r), nil, list(0, 1)},
		"first reserve":     {failing(3, r, i, r), nil, list(1)},
		"reserve before":    {failing(3, r, i, r), list(1), list(2)},
		"reserve fails":     {failing(3, r, i, r), list(1, 2), nil},
		"all reserves":      {failing(3, i, r, r), list(0), list(1, 2)},
		"not valid":         {failing(4, i), nil, nil},
		"mission not valid": {failing(1, i, api.Mission{}), nil, nil},
	} {
		if l := push.Working(x.c, x.failed); !slices.Equal(l, x.want) {
			t.Error(name, l)
		}
	}
}

// TestP8_3Any compares failure sets, and the missions that work with them, with the chapter's words.
func TestP8_3Any(t *testing.T) {
	d := draw(83)
	reserves := 0
	for range 5000 {
		s := d.scene(0, 6)
		l, want := push.Failures(s.c), failuresOf(s.c)
		if !equal(l, want) {
			t.Fatal(s.c, l, want)
		}
		for _, failed := range l {
			if n := push.Working(s.c, failed); !slices.Equal(n, workingOf(s.c, failed)) {
				t.Fatal(s.c, failed, n)
			}
		}
		for range 5 {
			var any []int
			for range d.below(4) {
				any = append(any, int(d.upTo(6)))
			}
			counts := slices.ContainsFunc(want, func(failed []int) bool { return slices.Equal(failed, any) })
			if n := push.Working(s.c, any); !counts && len(n) > 0 {
				t.Fatal(s.c, any, n)
			}
			if counts && len(any) > 0 {
				reserves++
			}
		}
	}
	if reserves < 100 {
		t.Error("too few cases", reserves)
	}
}

// TestP8_9Counts looks at what each failure set that counts is said to be.
func TestP8_9Counts(t *testing.T) {
	d := draw(89)
	for range 5000 {
		c := d.scene(0, 6).c
		l := push.Failures(c)
		if len(l) == 0 || len(l[0]) != 0 {
			t.Fatal("the empty one is the first", c, l)
		}
		for i, failed := range l {
			if len(failed) > c.Fails || i > 0 && (len(failed) < len(l[i-1]) || len(failed) == len(l[i-1]) && slices.Compare(failed, l[i-1]) <= 0) {
				t.Fatal("order", c, l)
			}
			for _, n := range append(push.Working(c, failed), failed...) {
				before := slices.ContainsFunc(failed, func(i int) bool { return i < n })
				if c.Missions[n].Reserve && !before {
					t.Fatal("a reserve flies", c, failed, n)
				}
			}
		}
	}
}
