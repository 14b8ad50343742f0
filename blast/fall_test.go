package blast_test

import (
	"slices"
	"testing"

	"bolide/api"
	"bolide/blast"
)

func TestP7_2Ends(t *testing.T) {
	type s = api.Stone
	for i, c := range []struct {
		l      []api.Layer
		change func(*s)
		layer  int
		energy int64
	}{
		{twoLayers(), func(*s) {}, 2, 8910000},
		{twoLayers(), func(s *s) { s.Strong = 99001 }, 2, 8910000},
		{twoLayers(), func(s *s) { s.Strong = 99000 }, 1, 9900000}, // 10 times 9900 is 99000
		{twoLayers(), func(s *s) { s.Strong = 10001 }, 1, 9900000},
		{twoLayers(), func(s *s) { s.Strong = 10000 }, 0, 10000000},
		{twoLayers(), func(s *s) { s.Strong = 0 }, 0, 10000000},
		{nil, func(*s) {}, 0, 10000000}, // the ground is at the top
		{nil, func(s *s) { s.Strong = 0 }, 0, 10000000},
		{air(layer(100, 0)), func(s *s) { s.Strong = 0 }, 1, 10000000},              // without air nothing bursts
		{air(layer(100, 0), layer(1, 1)), func(s *s) { s.Strong = 0 }, 1, 10000000}, // until there is some
		{twoLayers(), func(s *s) { s.Strong, s.Pile = 99000, true }, 1, 9900000},    // it does not spin
		{twoLayers(), func(s *s) { s.Strong, s.Spin = 100000, 10 }, 2, 8910000},     // it is no pile
		{twoLayers(), func(s *s) { s.Strong, s.Spin, s.Pile = 100000, 10, true }, 1, 9900000},
		{twoLayers(), func(s *s) { s.Spin, s.Pile = 1000, true }, 0, 10000000},
		{air(layer(1, 1)), func(s *s) { s.Slope = 999 }, 1, 9998000},                    // the way is 2 (1.001, rounded up): w loses 2
		{air(layer(1, 1)), func(*s) {}, 1, 9999000},                                     // the way is 1
		{air(layer(1, 1)), func(s *s) { s.Slope = 1 }, 1, 9000000},                      // the way is 1000
		{air(layer(1, 1)), func(s *s) { s.Speed = 99 }, 1, 9801000},                     // 0.98, rounded down
		{air(layer(1, 1)), func(s *s) { s.Speed, s.Shape = 99, 2000 }, 1, 9800000},      // 1.96, rounded down
		{air(layer(1000, 9)), func(s *s) { s.Strong = 1 << 40 }, 1, 1000000},            // 9 of 10 are lost
		{air(layer(1000, 10)), func(s *s) { s.Strong = 1 << 40 }, 1, 0},                 // as much as there is
		{air(layer(1000, 11)), func(s *s) { s.Strong = 1 << 40 }, 1, 0},                 // more than there is
		{air(layer(1000, 11), layer(1, 1000)), func(s *s) { s.Strong = 1 << 17 }, 2, 0}, // a stone that stopped does not burst
		{air(layer(1, 1)), func(s *s) { s.Size = 1 }, 1, 9990},                          // a small one of 1 loses 10
		{air(layer(1, 1)), func(s *s) { s.Size, s.Dens = 1, 1 }, 1, 0},                  // its mass is 0
		{air(layer(1, 1)), func(s *s) { s.Size, s.Dens, s.Strong = 1, 1, 1 }, 0, 0},
	} {
		stone := with(stone(), c.change)
		if n, energy, e := blast.Ends(c.l, stone); n != c.layer || energy != c.energy || e != api.OK {
			t.Error(i, n, energy, e)
		}
	}
}

// TestP7_2EndsGreatest follows a stone of which the products need more than 64 bits.
func TestP7_2EndsGreatest(t *testing.T) {
	s := api.Stone{Size: 1000, Dens: 9000, Strong: 1 << 40, Shape: 2000, Speed: 8000, Slope: 1}
	n, energy := endsOf(t, air(layer(1, 1)), s) // it takes 64000000 1 1000 2000 / (9000 1000 1000) = 14222
	if n != 1 || energy != 9000000000*(64000000-14222) {
		t.Error(n, energy)
	}
	if n, energy = endsOf(t, nil, s); n != 0 || energy != 576000000000000000 {
		t.Error(n, energy)
	}
	// 64000000 157 28572 2000 is 5.7 10^17.
	if n, energy = endsOf(t, air(layer(1000, 157)), with(s, func(s *api.Stone) { s.Slope = 35 })); n != 1 || energy != 9000000000*(64000000-63798101) {
		t.Error(n, energy)
	}
	// 64000000 dens 1000000 2000 is up to 1.28 10^20; divided by 9000000000, or by 1000, it is always more than there is.
	tiny := with(s, func(s *api.Stone) { s.Size, s.Dens = 1, 1 })
	heavy := with(tiny, func(s *api.Stone) { s.Dens = 1000 })
	for dens := range int64(1000) {
		if n, energy = endsOf(t, air(layer(1000, dens+1)), s); n != 1 || (energy == 0) != (dens >= 4) {
			t.Error(dens, n, energy)
		}
		if n, energy = endsOf(t, air(layer(1000, dens+1)), heavy); n != 1 || energy != 0 {
			t.Error(dens, n, energy)
		}
	}
}

func TestP7_2EndsErrors(t *testing.T) {
	bad := with(stone(), func(s *api.Stone) { s.Size = 0 })
	for i, c := range []struct {
		l    []api.Layer
		s    api.Stone
		want api.Errno
	}{
		{make([]api.Layer, 33), stone(), api.ErrFull},
		{make([]api.Layer, 33), bad, api.ErrFull},
		{air(layer(0, 1)), stone(), api.ErrRange},
		{nil, bad, api.ErrRange},
		{twoLayers(), bad, api.ErrRange},
	} {
		if n, energy, e := blast.Ends(c.l, c.s); n != 0 || energy != 0 || e != c.want {
			t.Error(i, n, energy, e)
		}
	}
}

// TestP7_2EndsWords holds Ends against the chapter's words, for stones and airs of all sizes.
func TestP7_2EndsWords(t *testing.T) {
	d := draw(72)
	inAir, onGround, stopped, slowed := 0, 0, 0, 0
	for range 40000 {
		l, s := d.air(32), d.stone()
		n, energy := endsOf(t, l, s)
		wantN, want := endOf(l, s)
		if n != wantN || energy != want {
			t.Fatal(l, s, n, energy, wantN, want)
		}
		switch free := blast.Mass(s) * s.Speed * s.Speed; {
		case n < len(l):
			inAir++
		case energy == 0 && free > 0:
			stopped++
		case energy < free:
			slowed++
		default:
			onGround++
		}
	}
	enough(t, inAir, onGround, stopped, slowed)
}

func TestP7_2Blows(t *testing.T) {
	for i, c := range []struct {
		l      []api.Layer
		change func(*body)
		want   []api.Blow
	}{
		{twoLayers(), func(*body) {}, blows(blow(1, 9900000, 9900000), blow(2, 8910000, 8910000))},
		{nil, func(*body) {}, blows(blow(0, 10000000, 10000000))},
		{twoLayers(), func(k *body) { k.rock.Strong = of(99001, 1000000) }, blows(blow(2, 8910000, 8910000))},
		{twoLayers(), func(k *body) { k.rock.Strong = of(99000, 99001) }, blows(blow(1, 9900000, 9900000), blow(2, 8910000, 8910000))},
		{twoLayers(), func(k *body) { k.rock.Strong = of(50000, 99000) }, blows(blow(1, 9900000, 9900000))}, // the last one surely bursts
		{twoLayers(), func(k *body) { k.rock.Strong = of(10000, 99000) }, blows(blow(0, 10000000, 10000000), blow(1, 9900000, 9900000))},
		{twoLayers(), func(k *body) { k.rock.Strong = of(0, 10000) }, blows(blow(0, 10000000, 10000000))},
		{twoLayers(), func(k *body) { k.rock.Strong = of(0, 1000000) }, blows(blow(0, 10000000, 10000000), blow(1, 9900000, 9900000), blow(2, 8910000, 8910000))},
		{air(layer(9, 0), layer(9, 0)), func(k *body) { k.rock.Strong = one(0) }, blows(blow(2, 10000000, 10000000))}, // without air nothing bursts
		{air(layer(9, 0), layer(9, 1)), func(k *body) { k.rock.Strong = one(0) }, blows(blow(1, 10000000, 10000000))},
		// What holds a pile is from 0 to 10010, as it spins; what holds another rock does not depend on its spin.
		{twoLayers(), func(k *body) { k.rock.Strong, k.rock.Spin, k.rock.Pile = one(10010), of(0, 1000), true }, blows(blow(0, 10000000, 10000000), blow(1, 9900000, 9900000))},
		{twoLayers(), func(k *body) { k.rock.Strong, k.rock.Spin, k.rock.Pile = one(10010), of(1, 1000), true }, blows(blow(0, 10000000, 10000000))},
		{twoLayers(), func(k *body) { k.rock.Strong, k.rock.Spin = one(10010), of(0, 1000) }, blows(blow(1, 9900000, 9900000))},
		// Energies are from the least mass and w to the greatest; w loses 200 of 10000, or 330 of 40000.
		{twoLayers()[:1], func(k *body) { k.rock.Size, k.rock.Shape = of(5, 10), of(500, 1000) }, blows(blow(1, 1225000, 9950000))},
		{twoLayers()[:1], func(k *body) { k.rock.Dens, k.fall.Speed = of(500, 1000), of(100, 200) }, blows(blow(1, 4900000, 39600000))},
		{twoLayers()[:1], func(k *body) { k.rock.Dens, k.fall.Speed, k.rock.Strong = of(500, 1000), of(100, 200), one(40001) }, blows(blow(1, 4900000, 39600000))},
		{twoLayers()[:1], func(k *body) { k.fall.Slope = of(500, 1000) }, blows(blow(1, 9800000, 9900000))},
		{air(layer(1000, 10)), func(k *body) { k.rock.Strong, k.rock.Shape = of(0, 1<<40), of(500, 1000) }, blows(blow(0, 10000000, 10000000), blow(1, 0, 5000000))},
		// The slowest stones stopped in the first layer, so that not all of them burst in the second one.
		{air(layer(1000, 10), layer(1, 1)), func(k *body) {
			k.rock.Strong, k.rock.Shape, k.rock.Pile, k.rock.Spin = one(1<<40), of(500, 1000), true, one(1000)
		}, blows(blow(0, 10000000, 10000000))},
		{air(layer(1000, 10), layer(1, 1000)), func(k *body) { k.rock.Strong, k.rock.Shape = one(4000000), of(500, 1000) }, blows(blow(1, 0, 5000000), blow(2, 0, 4750000))},
	} {
		k := with(rock(), c.change)
		if got, e := blast.Blows(c.l, k.rock, k.fall); !slices.Equal(got, c.want) || e != api.OK {
			t.Error(i, got, e)
		}
	}
}

func TestP7_2BlowsErrors(t *testing.T) {
	wrongWay := with(rock(), func(k *body) { k.fall.Slope = of(2, 1) })
	tooBig := with(rock(), func(k *body) { k.rock.Size = of(1, 1001) })
	for i, c := range []struct {
		l    []api.Layer
		k    body
		want api.Errno
	}{
		{make([]api.Layer, 33), rock(), api.ErrFull},
		{make([]api.Layer, 33), wrongWay, api.ErrFull},
		{air(layer(0, 1)), wrongWay, api.ErrRange},
		{nil, wrongWay, api.ErrOrder},
		{twoLayers(), wrongWay, api.ErrOrder},
		{twoLayers(), tooBig, api.ErrRange},
	} {
		if got, e := blast.Blows(c.l, c.k.rock, c.k.fall); len(got) > 0 || e != c.want {
			t.Error(i, got, e)
		}
	}
}

// TestP7_2BlowsWords holds Blows against the chapter's words, for rocks and airs of all sizes.
func TestP7_2BlowsWords(t *testing.T) {
	d := draw(722)
	sure, ground, several, none := 0, 0, 0, 0
	for range 40000 {
		l := d.air(32)
		k := d.rock(d.stone())
		got, want := allBlows(t, l, k), blowsOf(l, k)
		if !slices.Equal(got, want) {
			t.Fatal(l, k, got, want)
		}
		switch last := got[len(got)-1].Layer; {
		case len(l) == 0:
			none++
		case last < len(l):
			sure++
		default:
			ground++
		}
		if len(got) > 2 {
			several++
		}
	}
	enough(t, sure, ground, several, none)
}

func TestP7_2Crater(t *testing.T) {
	for _, c := range []struct{ energy, want int64 }{
		{8910000, 54}, {0, 0}, {1, 1}, {15, 1}, {16, 2}, {80, 2}, {81, 3}, {9999, 9}, {10000, 10},
		{num - 1, 32767}, {num, 32768}, {576000000000000000, 27548},
		{most, 55108}, {9223372036854775807 - 1<<40, 55108},
		{-1, 0}, {-16, 0}, {least, 0},
	} {
		if got := blast.Crater(c.energy); got != c.want {
			t.Error(c, got)
		}
	}
}
