package blast_test

import (
	"testing"

	"bolide/api"
	"bolide/blast"
)

func TestP7_1CheckStone(t *testing.T) {
	if e := blast.CheckStone(stone()); e != api.OK {
		t.Error(e)
	}
	for i, b := range bounds() {
		for _, c := range []struct {
			n    int64
			want api.Errno
		}{
			{b.Lo, api.OK}, {b.Hi, api.OK}, {b.Lo + 1, api.OK}, {b.Hi - 1, api.OK},
			{b.Lo - 1, api.ErrRange}, {b.Hi + 1, api.ErrRange}, {least, api.ErrRange}, {most, api.ErrRange},
		} {
			for _, isPile := range []bool{false, true} {
				s := with(stone(), func(s *api.Stone) { *partsOf(s)[i], s.Pile = c.n, isPile })
				if e := blast.CheckStone(s); e != c.want {
					t.Error(i, c, e)
				}
			}
		}
	}
	if e := blast.CheckStone(api.Stone{}); e != api.ErrRange {
		t.Error(e)
	}
}

func TestP7_1CheckRock(t *testing.T) {
	for i, b := range bounds() {
		for _, c := range []struct {
			s    api.Span
			want api.Errno
		}{
			{b, api.OK}, {one(b.Lo), api.OK}, {one(b.Hi), api.OK}, {of(b.Lo+1, b.Hi-1), api.OK},
			{of(b.Lo-1, b.Hi), api.ErrRange}, {of(b.Lo, b.Hi+1), api.ErrRange}, {one(b.Lo - 1), api.ErrRange}, {one(b.Hi + 1), api.ErrRange},
			{of(least, most), api.ErrRange}, {of(b.Lo, num+1), api.ErrRange},
			{of(b.Hi, b.Lo), api.ErrOrder}, {of(b.Lo, b.Lo-1), api.ErrOrder}, {of(b.Hi+1, b.Hi), api.ErrOrder}, {of(b.Hi+2, b.Hi+1), api.ErrOrder},
			{of(b.Lo-1, b.Lo-2), api.ErrOrder}, {of(most, least), api.ErrOrder}, {of(num+2, num+1), api.ErrOrder},
		} {
			k := with(rock(), func(k *body) { *spansOf(k)[i] = c.s })
			if e := blast.CheckRock(k.rock, k.fall); e != c.want {
				t.Error(i, c, e)
			}
		}
	}
	if e := blast.CheckRock(api.Rock{}, api.Fall{}); e != api.ErrRange {
		t.Error(e)
	}
}

func TestP7_1CheckRockErrorOrder(t *testing.T) {
	for i := range bounds() {
		for j := range i {
			for _, c := range []struct {
				first, then api.Span
				want        api.Errno
			}{
				{of(2, 1), of(-2, -1), api.ErrOrder},
				{of(-2, -1), of(2, 1), api.ErrRange},
			} {
				k := with(rock(), func(k *body) { *spansOf(k)[j], *spansOf(k)[i] = c.first, c.then })
				if e := blast.CheckRock(k.rock, k.fall); e != c.want {
					t.Error(j, i, c, e)
				}
			}
		}
	}
}

func TestP7_1CheckAir(t *testing.T) {
	many := func(n int, last api.Layer) []api.Layer {
		var l []api.Layer
		for range n - 1 {
			l = append(l, layer(1, 1))
		}
		return append(l, last)
	}
	for i, c := range []struct {
		l    []api.Layer
		want api.Errno
	}{
		{nil, api.OK},
		{air(), api.OK},
		{twoLayers(), api.OK},
		{air(layer(1, 0)), api.OK},
		{air(layer(1000, 1000)), api.OK},
		{air(layer(0, 1)), api.ErrRange},
		{air(layer(-1, 1)), api.ErrRange},
		{air(layer(1001, 1)), api.ErrRange},
		{air(layer(1, -1)), api.ErrRange},
		{air(layer(1, 1001)), api.ErrRange},
		{air(layer(most, 1)), api.ErrRange},
		{air(layer(1, least)), api.ErrRange},
		{many(32, layer(1, 1)), api.OK},
		{many(32, layer(0, 1)), api.ErrRange},
		{many(33, layer(1, 1)), api.ErrFull},
		{many(33, layer(0, 1)), api.ErrFull},
		{many(1000, layer(1, 1)), api.ErrFull},
	} {
		if e := blast.CheckAir(c.l); e != c.want {
			t.Error(i, e)
		}
	}
}

func TestP7_1Of(t *testing.T) {
	wide := with(rock(), func(k *body) {
		for i, b := range bounds() {
			*spansOf(k)[i] = of(b.Lo+3, b.Hi-3)
		}
	})
	inside := stone()
	for i, p := range partsOf(&inside) {
		*p = bounds()[i].Lo + 5
	}
	if !blast.Of(stone(), rock().rock, rock().fall) || !blast.Of(inside, wide.rock, wide.fall) {
		t.Error("not of it")
	}
	for i, b := range bounds() {
		for _, c := range []struct {
			n    int64
			want bool
		}{
			{b.Lo + 3, true}, {b.Hi - 3, true}, {b.Lo + 2, false}, {b.Hi - 2, false}, {b.Lo - 1, false}, {b.Hi + 1, false}, {least, false}, {most, false},
		} {
			s := with(inside, func(s *api.Stone) { *partsOf(s)[i] = c.n })
			if got := blast.Of(s, wide.rock, wide.fall); got != c.want {
				t.Error(i, c, got)
			}
		}
		for _, s := range []api.Span{of(b.Lo-1, b.Hi), of(b.Lo, b.Hi+1), of(b.Hi, b.Lo), of(least, most)} { // not valid, though the stone would be in it
			k := with(wide, func(k *body) { *spansOf(k)[i] = s })
			if blast.Of(inside, k.rock, k.fall) {
				t.Error(i, s)
			}
		}
	}
}

func TestP7_1OfPile(t *testing.T) {
	for _, isPile := range []bool{false, true} {
		for _, isOther := range []bool{false, true} {
			s, k := stone(), rock()
			s.Pile, k.rock.Pile = isPile, isPile != isOther
			if got := blast.Of(s, k.rock, k.fall); got == isOther {
				t.Error(isPile, isOther, got)
			}
		}
	}
}

func TestP7_1Mass(t *testing.T) {
	for _, c := range []struct{ size, dens, want int64 }{
		{10, 1000, 1000}, {1, 1, 0}, {1, 999, 0}, {1, 1000, 1}, {1, 1999, 1}, {3, 100, 2}, {3, 37, 0}, {3, 38, 1}, {1000, 9000, 9000000000}, {1000, 1, 1000000},
		{0, 1000, 0}, {1001, 1000, 0}, {10, 0, 0}, {10, 9001, 0}, {-10, 1000, 0}, {most, most, 0},
	} {
		s := with(stone(), func(s *api.Stone) { s.Size, s.Dens = c.size, c.dens })
		if got := blast.Mass(s); got != c.want {
			t.Error(c, got)
		}
	}
	for i, b := range bounds() { // another number makes the stone invalid
		s := with(stone(), func(s *api.Stone) { *partsOf(s)[i] = b.Hi + 1 })
		if m, h := blast.Mass(s), blast.Holds(s); m != 0 || h != 0 {
			t.Error(i, m, h)
		}
	}
}

func TestP7_1Holds(t *testing.T) {
	for _, c := range []struct {
		strong, spin int64
		isPile       bool
		want         int64
	}{
		{1000000, 0, false, 1000000},
		{1000000, 250, true, 750000},
		{1000000, 250, false, 1000000},
		{1000000, 1000, false, 1000000},
		{1000000, 1000, true, 0},
		{1000000, 0, true, 1000000},
		{1999, 999, true, 1},
		{999, 999, true, 0},
		{7, 500, true, 3},
		{0, 0, false, 0},
		{0, 0, true, 0},
		{1 << 40, 0, true, 1 << 40},
		{1 << 40, 1, true, 1098412116148},
		{1 << 40, 999, true, 1099511627},
		{1<<40 + 1, 0, false, 0},
		{-1, 0, false, 0},
		{1000, 1001, true, 0},
		{1000, -1, true, 0},
		{1000, 1001, false, 0},
	} {
		s := with(stone(), func(s *api.Stone) { s.Strong, s.Spin, s.Pile = c.strong, c.spin, c.isPile })
		if got := blast.Holds(s); got != c.want {
			t.Error(c, got)
		}
	}
}
