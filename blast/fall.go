package blast

import (
	"iter"

	"bolide/api"
	"bolide/span"
)

// CheckAir reports what is wrong with the layers of the air: ErrFull, or ErrRange because of a number.
func CheckAir(l []api.Layer) api.Errno {
	if len(l) > api.MaxLayers {
		return api.ErrFull
	}
	for _, a := range l {
		if a.Thick < 1 || a.Thick > api.MaxThick || a.Dens < 0 || a.Dens > api.MaxAir {
			return api.ErrRange
		}
	}
	return api.OK
}

// fall is a stone on its way down: the number of the layer that it comes to, and the square of its speed there.
type fall struct {
	air   []api.Layer
	stone api.Stone
	layer int
	w     int64
}

// fallOf returns the fall of a valid stone at the top of valid air.
func fallOf(l []api.Layer, s api.Stone) fall {
	return fall{air: l, stone: s, w: s.Speed * s.Speed}
}

// bursts reports whether the stone bursts in its layer.
func (f *fall) bursts() bool {
	press := f.air[f.layer].Dens * f.w
	return press > 0 && press >= Holds(f.stone)
}

// lost returns by how much w gets less in the layer, at most all of it.
func (f *fall) lost() int64 {
	a, s := f.air[f.layer], f.stone
	// MulDiv has no error for valid numbers, and has a product between them that needs more than 64 bits.
	_, way, _ := span.MulDiv(a.Thick, 1000, s.Slope)
	lost, _, _ := span.MulDiv(f.w*a.Dens, way*s.Shape, s.Dens*s.Size*1000)
	return min(lost, f.w)
}

// pass takes the stone through its layer, whether or not it bursts there.
func (f *fall) pass() {
	f.w -= f.lost()
	f.layer++
}

// goesOn takes the stone through its layer, and reports whether it went on: it does not if it bursts, and on the ground.
func (f *fall) goesOn() bool {
	if f.layer == len(f.air) || f.bursts() {
		return false
	}
	f.pass()
	return true
}

// energy returns the energy of the stone if it ends here.
func (f *fall) energy() int64 {
	return Mass(f.stone) * f.w
}

// Ends returns in which layer a stone ends (how many there are: on the ground), and with how much energy.
func Ends(l []api.Layer, s api.Stone) (layer int, energy int64, e api.Errno) {
	if e := CheckAir(l); e != api.OK {
		return 0, 0, e
	}
	if e := CheckStone(s); e != api.OK {
		return 0, 0, e
	}
	f := fallOf(l, s)
	for goesOn := f.goesOn; goesOn(); {
	}
	return f.layer, f.energy(), api.OK
}

// blowsOf hands out the blows of a valid rock with a fall, by their layers, and with each whether all stones have ended by then; it goes on after such a one.
func blowsOf(l []api.Layer, k api.Rock, f api.Fall) iter.Seq2[api.Blow, bool] {
	return func(yield func(api.Blow, bool) bool) {
		// The bounds of w, hold and mass are those of two stones: all others are between them.
		early, late := fallOf(l, first(k, f)), fallOf(l, last(k, f))
		blow := func() api.Blow {
			return api.Blow{Layer: early.layer, Energy: api.Span{Lo: late.energy(), Hi: early.energy()}}
		}
		for range l {
			if early.bursts() && !yield(blow(), late.bursts()) {
				return
			}
			early.pass()
			late.pass()
		}
		yield(blow(), true)
	}
}

// Blows returns the blows of a rock with a fall, by their layers.
func Blows(l []api.Layer, k api.Rock, f api.Fall) ([]api.Blow, api.Errno) {
	if e := CheckAir(l); e != api.OK {
		return nil, e
	}
	if e := CheckRock(k, f); e != api.OK {
		return nil, e
	}
	var list []api.Blow
	for b, all := range blowsOf(l, k, f) {
		list = append(list, b)
		if all {
			break
		}
	}
	return list, api.OK
}

// Crater returns the greatest whole number whose fourth power is at most the energy; 0 for an energy below 0.
func Crater(energy int64) int64 {
	return span.Root(span.Root(max(energy, 0)))
}
