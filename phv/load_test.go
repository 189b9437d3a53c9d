package phv_test

import (
	"math"
	"slices"
	"testing"

	"patchbay/api"
	"patchbay/env"
	"patchbay/phv"
)

// wantLoad is P36.2, word by word and bit by bit.
func wantLoad(p api.Program, l []api.Slot, e api.Env, bits []bool) phv.Containers {
	count := map[int]int{}
	for _, s := range l {
		if isValid(s) {
			count[s.Size] = max(count[s.Size], s.Index+1)
		}
	}
	held := map[int][]uint32{}
	for _, size := range []int{8, 16, 32} {
		held[size] = make([]uint32, count[size])
	}
	cells := cellsOf(p)
	for i, s := range l {
		if !isValid(s) {
			continue
		}
		var v uint32
		switch {
		case i >= len(cells):
			if i-len(cells) < len(bits) && bits[i-len(cells)] {
				v = 1
			}
		case cells[i].validity:
			if h := cells[i].header; h < len(e.Valid) && e.Valid[h] {
				v = 1
			}
		default:
			v = env.Get(e, cells[i].ref())
		}
		for b := range s.Width {
			held[s.Size][s.Index] &^= 1 << (s.Offset + b)
			held[s.Size][s.Index] |= v >> b & 1 << (s.Offset + b)
		}
	}
	return phv.Containers{C8: held[8], C16: held[16], C32: held[32]}
}

func expectLoad(t *testing.T, what string, p api.Program, l []api.Slot, e api.Env, bits []bool, want phv.Containers) {
	t.Helper()
	l, bits, e.Valid = spare(l, slot(8, 20, 0, 8), slot(16, 20, 0, 16)), spare(bits, true, true), spare(e.Valid, true, true)
	before := text(p, l, e, bits)
	for range 2 {
		w := phv.Load(p, l, e, bits)
		if !sameContainers(w, want) {
			t.Errorf("%s: Load with %v of %+v and %v = %v, want %v", what, l, e, bits, w, want)
		}
		expectApart(t, what, []any{w}, p, l, e, bits)
	}
	if text(p, l, e, bits) != before {
		t.Errorf("%s: Load changes its arguments", what)
	}
	if own := wantLoad(p, l, e, bits); !sameContainers(own, want) {
		t.Errorf("%s: the tests' own answer: %v, want %v", what, own, want)
	}
}

func in8(l ...uint32) phv.Containers { return phv.Containers{C8: l} }

// two answers a program with two headers of two fields each, and three metadata fields.
func two() api.Program {
	return api.Program{Headers: []api.Header{header(8, 4), header(16, 32)}, Metadata: fields(8, 3, 1), Registers: make([]api.Register, 2)}
}

// full answers an environment of two's shape in which all values are different.
func full() api.Env {
	return api.Env{Valid: []bool{true, true}, Fields: [][]uint32{{0xa1, 0xb}, {0xc2c3, 0xd4d5d6d7}}, Meta: []uint32{0xe8, 5, 1}, Payload: []byte{9}}
}

// roomy answers slots for two's values and two result bits.
func roomy() []api.Slot {
	return slots(slot(8, 0, 0, 8), slot(8, 1, 0, 4), slot(16, 0, 0, 16), slot(32, 0, 0, 32), slot(8, 1, 4, 1), slot(8, 1, 5, 1), slot(8, 3, 0, 8), slot(16, 2, 2, 3), slot(8, 1, 6, 1), slot(8, 1, 7, 1), slot(32, 1, 31, 1))
}

// P36.2: each value in its slot
func TestLoad(t *testing.T) {
	p, l := two(), roomy()
	expectLoad(t, "all values", p, l, full(), []bool{true, true}, phv.Containers{C8: []uint32{0xa1, 0xfb, 0, 0xe8}, C16: []uint32{0xc2c3, 0, 5 << 2}, C32: []uint32{0xd4d5d6d7, 1 << 31}})
	expectLoad(t, "result bits that are false", p, l, full(), []bool{false, false}, phv.Containers{C8: []uint32{0xa1, 0x7b, 0, 0xe8}, C16: []uint32{0xc2c3, 0, 5 << 2}, C32: []uint32{0xd4d5d6d7, 0}})
	expectLoad(t, "one result bit", p, l, full(), []bool{false, true}, phv.Containers{C8: []uint32{0xa1, 0x7b, 0, 0xe8}, C16: []uint32{0xc2c3, 0, 5 << 2}, C32: []uint32{0xd4d5d6d7, 1 << 31}})
	e := full()
	e.Valid[0] = false
	expectLoad(t, "the first header not valid", p, l, e, []bool{true, true}, phv.Containers{C8: []uint32{0, 0xe0, 0, 0xe8}, C16: []uint32{0xc2c3, 0, 5 << 2}, C32: []uint32{0xd4d5d6d7, 1 << 31}})
	e.Valid = []bool{true, false}
	expectLoad(t, "the second header not valid", p, l, e, []bool{true, true}, phv.Containers{C8: []uint32{0xa1, 0xdb, 0, 0xe8}, C16: []uint32{0, 0, 5 << 2}, C32: []uint32{0, 1 << 31}})
	e.Meta[2] = 0
	expectLoad(t, "a metadata field that is 0", p, l, e, []bool{true, true}, phv.Containers{C8: []uint32{0xa1, 0x9b, 0, 0xe8}, C16: []uint32{0, 0, 5 << 2}, C32: []uint32{0, 1 << 31}})
	expectLoad(t, "an empty environment", p, l, env.New(p), nil, phv.Containers{C8: make([]uint32, 4), C16: make([]uint32, 3), C32: make([]uint32, 2)})
}

// P36.2: values that are missing, and such as there are too many of
func TestLoadOfMissingValues(t *testing.T) {
	p, l, none := two(), roomy(), phv.Containers{C8: make([]uint32, 4), C16: make([]uint32, 3), C32: make([]uint32, 2)}
	expectLoad(t, "no environment", p, l, api.Env{}, nil, none)
	expectLoad(t, "no validity", p, l, api.Env{Fields: full().Fields}, []bool{}, none)
	expectLoad(t, "no fields", p, l, api.Env{Valid: []bool{true, true}}, nil, phv.Containers{C8: []uint32{0, 0x30, 0, 0}, C16: make([]uint32, 3), C32: make([]uint32, 2)})
	e := full()
	e.Valid, e.Fields, e.Meta = e.Valid[:1], e.Fields[:1], e.Meta[:1]
	e.Fields[0] = e.Fields[0][:1]
	expectLoad(t, "short lists", p, l, e, []bool{true}, phv.Containers{C8: []uint32{0xa1, 0x90, 0, 0xe8}, C16: make([]uint32, 3), C32: make([]uint32, 2)})
	e = full()
	e.Valid, e.Fields, e.Meta = append(e.Valid, true), append(e.Fields, []uint32{1}), append(e.Meta, 7)
	e.Fields[0] = append(e.Fields[0], 8)
	want := phv.Containers{C8: []uint32{0xa1, 0xfb, 0, 0xe8}, C16: []uint32{0xc2c3, 0, 5 << 2}, C32: []uint32{0xd4d5d6d7, 0}}
	expectLoad(t, "long lists", p, l, e, []bool{true, false, true, true}, want)
	want.C8, want.C32 = append(want.C8, 0, 0, 0, 0, 1), []uint32{0xd4d5d6d7, 0x80000000}
	expectLoad(t, "more slots for bits", p, append(roomy(), slot(8, 6, 0, 8), slot(8, 8, 0, 1)), full(), []bool{true, true, false, true}, want)
	want.C8[8] = 0
	expectLoad(t, "more slots than bits", p, append(roomy(), slot(8, 6, 0, 8), slot(8, 8, 0, 1)), full(), []bool{true, true}, want)
	expectLoad(t, "fewer slots than values", p, l[:7], full(), []bool{true, true}, phv.Containers{C8: []uint32{0xa1, 0x3b, 0, 0xe8}, C16: []uint32{0xc2c3}, C32: []uint32{0xd4d5d6d7}})
	expectLoad(t, "one slot", p, l[:1], full(), []bool{true, true}, in8(0xa1))
	expectLoad(t, "no slots", p, nil, full(), []bool{true}, phv.Containers{})
	expectLoad(t, "no program", api.Program{}, slots(slot(8, 1, 3, 1), slot(16, 0, 0, 2)), full(), []bool{true, true}, phv.Containers{C8: []uint32{0, 8}, C16: []uint32{1}})
}

// P36.2: a value modulo 2 to the power of the slot's width, for each slot there may be
func TestLoadOfWidths(t *testing.T) {
	p := api.Program{Metadata: fields(32)}
	for _, size := range []int{8, 16, 32} {
		for w := 1; w <= size; w++ {
			for at := 0; at+w <= size; at++ {
				for _, v := range []uint32{0, 1, 0x12345678, 0x89abcdef, math.MaxUint32} {
					want := map[int][]uint32{size: {0, 0, uint32(uint64(v) % (1 << w) << at)}}
					expectLoad(t, "a value of 32 bits", p, slots(slot(size, 2, at, w)), api.Env{Meta: []uint32{v}}, nil, phv.Containers{C8: want[8], C16: want[16], C32: want[32]})
				}
			}
		}
	}
	for _, size := range []int{8, 16, 32} { // one bit in a wide slot
		wide := map[int][]uint32{size: {1}}
		expectLoad(t, "a result bit", api.Program{}, slots(slot(size, 0, 0, size)), api.Env{}, []bool{true}, phv.Containers{C8: wide[8], C16: wide[16], C32: wide[32]})
	}
}

// P36.2: slots that overlap hold the later value
func TestLoadOfOverlappingSlots(t *testing.T) {
	p := api.Program{Metadata: fields(8, 8, 8)}
	e := api.Env{Meta: []uint32{0xff, 0, 0xff}}
	expectLoad(t, "a value over another", p, slots(slot(8, 0, 0, 8), slot(8, 0, 2, 3)), e, nil, in8(0xe3))
	expectLoad(t, "a wide value over a narrow one", p, slots(slot(8, 0, 2, 3), slot(8, 0, 0, 8)), e, nil, in8(0))
	expectLoad(t, "three values", p, slots(slot(8, 0, 0, 8), slot(8, 0, 1, 6), slot(8, 0, 3, 2)), e, nil, in8(0x99))
	expectLoad(t, "bits that are missing over a value", p, slots(slot(8, 0, 0, 8), slot(16, 0, 0, 8), slot(8, 1, 0, 8), slot(8, 0, 4, 1), slot(8, 1, 7, 1)), e, nil, phv.Containers{C8: []uint32{0xef, 0x7f}, C16: []uint32{0}})
	expectLoad(t, "the same index of other sizes", p, slots(slot(8, 1, 0, 8), slot(16, 1, 0, 8), slot(32, 1, 0, 8)), e, nil, phv.Containers{C8: []uint32{0, 0xff}, C16: []uint32{0, 0}, C32: []uint32{0, 0xff}})
}

// P36.2: slots that are not valid are left out, and count for nothing
func TestLoadOfWrongSlots(t *testing.T) {
	p := api.Program{Metadata: fields(8, 8, 8)}
	e := api.Env{Meta: []uint32{0x11, 0x22, 0x33}}
	for _, s := range wrongSlots() {
		expectLoad(t, "a slot that is not valid", p, slots(slot(8, 0, 0, 8), s, slot(8, 1, 0, 8)), e, []bool{true}, in8(0x11, 0x33))
		expectLoad(t, "slots that are not valid", p, slots(s, s, s, s), e, []bool{true}, phv.Containers{})
	}
	for _, i := range []int{0, 1, 62, 63} {
		expectLoad(t, "an index", p, slots(slot(8, i, 0, 8)), e, nil, in8(append(make([]uint32, i), 0x11)...))
	}
}

// P36.2: random programs, slots and environments, held against the words of the promise
func TestRandomLoad(t *testing.T) {
	r := random(362)
	for i := range 10000 {
		p := anyProgram(&r)
		if i%4 == 0 {
			p = randomProgram(&r)
		}
		l := randomSlots(&r, len(cellsOf(p)))
		e := anyEnv(&r, p)
		if i%3 == 0 {
			e = goodEnv(&r, p)
		}
		bits := randomBits(&r, r.below(5))
		expectLoad(t, "a random program", p, l, e, bits, wantLoad(p, l, e, bits))
		if t.Failed() {
			t.Logf("the program is %+v", p)
			return
		}
	}
}

// P36.2, P36.3: far more values than a program has
func TestManyValues(t *testing.T) {
	const n = 1 << 17
	var p api.Program
	p.Metadata = slices.Repeat(fields(5), n)
	p.Headers = slices.Repeat([]api.Header{header(3), header()}, n/2)
	l := slices.Repeat(slots(slot(16, 3, 3, 5)), n/2+n+n+n)
	e := api.Env{Valid: slices.Repeat([]bool{true, false}, n/2), Fields: slices.Repeat([][]uint32{{7}, nil}, n/2), Meta: slices.Repeat([]uint32{21}, n)}
	if w := phv.Load(p, l[:len(l)-n], e, nil); !sameContainers(w, phv.Containers{C16: []uint32{0, 0, 0, 21 << 3}}) {
		t.Errorf("Load = %v", w)
	}
	x, bits := phv.Store(p, l, phv.Containers{C16: []uint32{0, 0, 0, 21 << 3}}, make([]byte, n))
	if len(x.Valid) != n || !x.Valid[0] || !x.Valid[n-1] || x.Fields[n-2][0] != 5 || x.Meta[n-1] != 21 || len(x.Payload) != n || len(bits) != n || !bits[n-1] {
		t.Errorf("Store answers %d headers, %d bytes, %d bits", len(x.Valid), len(x.Payload), len(bits))
	}
}
