package cubeset

import (
	"slices"

	"patchbay/api"
	"patchbay/ternary"
)

// byFreeBits answers the places of the cubes in l, those of the cubes with k free bits in piece k.
func byFreeBits(l []api.Cube) [maxWidth + 1][]int {
	var size [maxWidth + 1]int
	for _, c := range l {
		size[ternary.FreeBits(c, maxWidth)]++
	}
	var pieces [maxWidth + 1][]int
	places := make([]int, len(l))
	start := 0
	for k, n := range size {
		// Each piece has room for its own places, so that none is written over those of the next piece.
		pieces[k] = places[start : start : start+n]
		start += n
	}
	for i, c := range l {
		k := ternary.FreeBits(c, maxWidth)
		pieces[k] = append(pieces[k], i)
	}
	return pieces
}

// cover holds canonical cubes. It lists their masks, as one look for each mask tells whether a cube is a subset of one
// of those that have it, be they ever so many.
type cover struct {
	masks []uint64
	cubes map[api.Cube]bool
}

// includes reports whether c is a subset of a cube that v holds.
func (v *cover) includes(c api.Cube) bool {
	for _, m := range v.masks {
		if m&^c.Mask == 0 && v.cubes[api.Cube{Value: c.Value & m, Mask: m}] {
			return true
		}
	}
	return false
}

func (v *cover) add(c api.Cube) {
	v.cubes[c] = true
	if !slices.Contains(v.masks, c.Mask) {
		v.masks = append(v.masks, c.Mask)
	}
}

// canonical answers a copy of s in which no value has a bit outside its mask.
func canonical(s []api.Cube) []api.Cube {
	l := slices.Clone(s)
	for i := range l {
		l[i].Value &= l[i].Mask
	}
	return l
}

// simplified answers the simplified list and true, or false if it has more than most cubes.
func simplified(s []api.Cube, most int) ([]api.Cube, bool) {
	l := canonical(s)
	stays := make([]bool, len(l))
	kept := cover{cubes: make(map[api.Cube]bool, min(len(l), most))}
	// A cube is a subset only of cubes with more free bits and of its equals. So none that is kept goes again, and the
	// first of several equal ones stays.
	pieces := byFreeBits(l)
	for k := maxWidth; k >= 0; k-- {
		for _, i := range pieces[k] {
			if kept.includes(l[i]) {
				continue
			}
			if len(kept.cubes) == most {
				return nil, false
			}
			kept.add(l[i])
			stays[i] = true
		}
	}
	result := make([]api.Cube, 0, len(kept.cubes))
	for i, c := range l {
		if stays[i] {
			result = append(result, c)
		}
	}
	return result, true
}

// Simplify is specified by P8.1.
func Simplify(a []api.Cube) []api.Cube {
	l, _ := simplified(a, len(a))
	return l
}
