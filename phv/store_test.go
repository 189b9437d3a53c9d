package phv_test

import (
	"bytes"
	"math"
	"slices"
	"testing"

	"patchbay/api"
	"patchbay/env"
	"patchbay/phv"
)

// heldBy is the number in slot i: bit by bit, 0 if the slot or its container is missing or the slot is not valid.
func heldBy(l []api.Slot, w phv.Containers, i int) uint32 {
	if i >= len(l) || !isValid(l[i]) {
		return 0
	}
	s := l[i]
	list := map[int][]uint32{8: w.C8, 16: w.C16, 32: w.C32}[s.Size]
	var v uint32
	for b := range s.Width {
		if s.Index < len(list) && list[s.Index]>>(s.Offset+b)&1 == 1 {
			v |= 1 << b
		}
	}
	return v
}

// wantStore is P36.3, word by word.
func wantStore(p api.Program, l []api.Slot, w phv.Containers, payload []byte) (api.Env, []bool) {
	e := env.New(p)
	e.Payload = bytes.Clone(payload)
	cells := cellsOf(p)
	for i, c := range cells {
		if c.validity && heldBy(l, w, i) != 0 {
			e.Valid[c.header] = true
		}
	}
	for i, c := range cells {
		if !c.validity {
			e = env.Set(p, e, c.ref(), heldBy(l, w, i))
		}
	}
	var bits []bool
	for i := len(cells); i < len(l); i++ {
		bits = append(bits, heldBy(l, w, i) != 0)
	}
	return e, bits
}

func expectStore(t *testing.T, what string, p api.Program, l []api.Slot, w phv.Containers, payload []byte, want api.Env, wantBits []bool) {
	t.Helper()
	l, payload = spare(l, slot(8, 0, 0, 8), slot(16, 0, 0, 16)), spare(payload, 77)
	w = phv.Containers{C8: spare(w.C8, 255, 255), C16: spare(w.C16, 255, 255), C32: spare(w.C32, 255, 255)}
	before := text(p, l, w, payload)
	for range 2 {
		e, bits := phv.Store(p, l, w, payload)
		if !env.Equal(e, want) || !slices.Equal(bits, wantBits) {
			t.Errorf("%s: Store of %v with %v = %+v, %v, want %+v, %v", what, w, l, e, bits, want, wantBits)
		}
		expectApart(t, what, []any{e, bits}, p, l, w, payload)
	}
	if text(p, l, w, payload) != before {
		t.Errorf("%s: Store changes its arguments", what)
	}
	if own, bits := wantStore(p, l, w, payload); !env.Equal(own, want) || !slices.Equal(bits, wantBits) {
		t.Errorf("%s: the tests' own answer: %+v, %v, want %+v, %v", what, own, bits, want, wantBits)
	}
}

func loaded() phv.Containers {
	return phv.Containers{C8: []uint32{0xa1, 0xfb, 0, 0xe8}, C16: []uint32{0xc2c3, 0, 5 << 2}, C32: []uint32{0xd4d5d6d7, 1 << 31}}
}

// P36.3: each value from its slot
func TestStore(t *testing.T) {
	p, l := two(), roomy()
	expectStore(t, "all values", p, l, loaded(), []byte{9}, full(), []bool{true, true})
	w, e := loaded(), full()
	w.C8[1], w.C32[1] = 0x7b, 0
	expectStore(t, "result bits that are false", p, l, w, []byte{9}, e, []bool{false, false})
	w.C32[1] = 1 << 31
	expectStore(t, "one result bit", p, l, w, []byte{9}, e, []bool{false, true})
	w.C8[1] = 0xeb // of a header that is not valid the fields stay 0
	e.Valid, e.Fields = []bool{false, true}, [][]uint32{{0, 0}, {0xc2c3, 0xd4d5d6d7}}
	expectStore(t, "the first header not valid", p, l, w, []byte{9}, e, []bool{true, true})
	w.C8[1] = 0xdb
	e.Valid, e.Fields = []bool{true, false}, [][]uint32{{0xa1, 0xb}, {0, 0}}
	expectStore(t, "the second header not valid", p, l, w, []byte{9}, e, []bool{true, true})
	w.C8[1], e.Valid, e.Fields[0] = 0xcb, []bool{false, false}, []uint32{0, 0}
	expectStore(t, "no header valid", p, l, w, []byte{9}, e, []bool{true, true})
	ones := slices.Repeat([]uint32{math.MaxUint32}, 4)
	e = api.Env{Valid: []bool{true, true}, Fields: [][]uint32{{0xff, 0xf}, {0xffff, math.MaxUint32}}, Meta: []uint32{0xff, 7, 1}}
	expectStore(t, "containers of more bits than they have", p, l, phv.Containers{C8: ones, C16: ones, C32: ones}, nil, e, []bool{true, true})
}

// P36.3: containers and slots that are missing
func TestStoreOfMissingSlots(t *testing.T) {
	p, l, none := two(), roomy(), env.New(two())
	expectStore(t, "no containers", p, l, phv.Containers{}, nil, none, []bool{false, false})
	expectStore(t, "no slots", p, nil, loaded(), nil, none, nil)
	e := none
	e.Payload = []byte{1, 2, 3}
	expectStore(t, "a payload", p, nil, loaded(), []byte{1, 2, 3}, e, nil)
	w := loaded()
	w.C8, w.C32 = w.C8[:2], w.C32[:1]
	e = full()
	e.Meta = []uint32{0, 5, 1}
	expectStore(t, "the last containers missing", p, l, w, []byte{9}, e, []bool{true, false})
	w.C16 = nil
	e.Fields[1][0], e.Meta[1] = 0, 0
	expectStore(t, "the containers of a size missing", p, l, w, []byte{9}, e, []bool{true, false})
	e = full()
	e.Meta = []uint32{0xe8, 0, 0}
	expectStore(t, "slots missing behind the metadata's first", p, l[:7], loaded(), []byte{9}, e, nil)
	e.Valid[1], e.Fields[1], e.Meta = false, []uint32{0, 0}, []uint32{0, 0, 0}
	expectStore(t, "slots missing behind the first validity", p, l[:5], loaded(), []byte{9}, e, nil)
	expectStore(t, "slots missing behind the fields", p, l[:4], loaded(), nil, none, nil)
	expectStore(t, "a slot missing at the end", p, l[:10], loaded(), []byte{9}, full(), []bool{true})
	expectStore(t, "no program", api.Program{}, l, loaded(), []byte{9}, api.Env{Payload: []byte{9}}, slices.Repeat([]bool{true}, 11))
	expectStore(t, "nothing at all", api.Program{}, nil, phv.Containers{}, nil, api.Env{}, nil)
}

// P36.3: any number other than 0 counts as a bit, and a number is reduced modulo 2 to the power of the field's width
func TestStoreOfWidths(t *testing.T) {
	p := api.Program{Headers: []api.Header{header(), header()}}
	wide := slots(slot(8, 0, 2, 4), slot(32, 0, 0, 32), slot(16, 0, 4, 12), slot(8, 0, 1, 5))
	for v := range uint32(256) {
		want := v>>2&15 != 0
		e := api.Env{Valid: []bool{want, true}, Fields: [][]uint32{nil, nil}}
		expectStore(t, "wide slots", p, wide, phv.Containers{C8: []uint32{v}, C32: []uint32{1 << (v % 32)}}, nil, e, []bool{false, v>>1&31 != 0})
	}
	for declared := -1; declared <= 34; declared++ {
		q := api.Program{Headers: []api.Header{header(declared)}, Metadata: fields(declared)}
		for held := 1; held <= 32; held++ {
			l := slots(slot(32, 0, 0, held), slot(8, 0, 0, 1), slot(32, 1, 32-held, held))
			w := phv.Containers{C8: []uint32{1}, C32: []uint32{0x9b3df597, 0x76b0e2c8}}
			e := api.Env{Valid: []bool{true}, Fields: [][]uint32{{0}}, Meta: []uint32{0}}
			if declared >= 1 && declared <= 32 {
				n := min(held, declared)
				e.Fields[0][0], e.Meta[0] = uint32(uint64(0x9b3df597)%(1<<n)), uint32(uint64(0x76b0e2c8)>>(32-held)%(1<<n))
			}
			expectStore(t, "a field", q, l, w, nil, e, nil)
		}
	}
	for _, w := range wrongNumbers {
		q := api.Program{Headers: []api.Header{header(w, 8)}, Metadata: fields(w, 8)}
		e := api.Env{Valid: []bool{true}, Fields: [][]uint32{{0, 0xff}}, Meta: []uint32{0, 0xff}}
		expectStore(t, "a field without a valid width", q, slices.Repeat(slots(slot(8, 0, 0, 8)), 6), in8(0xff), nil, e, []bool{true})
	}
}

// P36.3: slots that are not valid hold 0
func TestStoreOfWrongSlots(t *testing.T) {
	p := api.Program{Headers: []api.Header{header(8), header(8)}, Metadata: fields(8, 8)}
	ones := slices.Repeat([]uint32{math.MaxUint32}, 70)
	w := phv.Containers{C8: ones, C16: ones, C32: ones}
	good := slot(8, 0, 0, 8)
	for _, s := range wrongSlots() {
		e := api.Env{Valid: []bool{true, false}, Fields: [][]uint32{{255}, {0}}, Meta: []uint32{0, 255}}
		expectStore(t, "slots that are not valid", p, slots(good, good, good, s, s, good, s, good), w, nil, e, []bool{false, true})
		e = api.Env{Valid: []bool{true, true}, Fields: [][]uint32{{0}, {255}}, Meta: []uint32{255, 255}}
		expectStore(t, "a slot that is not valid", p, slots(s, good, good, good, good, good, good, s), w, nil, e, []bool{true, false})
	}
	for _, size := range []int{8, 16, 32} {
		last := slot(size, 63, size-1, 1)
		expectStore(t, "the last bit", api.Program{}, slots(last, slot(size, 63, 0, size)), w, nil, api.Env{}, []bool{true, true})
		short := phv.Containers{C8: ones[:63], C16: ones[:63], C32: ones[:63]}
		expectStore(t, "the last container missing", api.Program{}, slots(last, slot(size, 62, 0, size)), short, nil, api.Env{}, []bool{false, true})
	}
}

// P36.3: random programs, slots and containers, held against the words of the promise
func TestRandomStore(t *testing.T) {
	r := random(363)
	for i := range 10000 {
		p := anyProgram(&r)
		if i%8 == 0 {
			p = randomProgram(&r)
		}
		l, w := randomSlots(&r, len(cellsOf(p))), randomContainers(&r)
		payload := make([]byte, r.below(4))
		e, bits := wantStore(p, l, w, payload)
		expectStore(t, "a random program", p, l, w, payload, e, bits)
		if t.Failed() {
			t.Logf("the program is %+v", p)
			return
		}
	}
}

// P36.5: the slots of Allocate don't overlap, and Store of Load answers what was loaded
func TestRoundTrip(t *testing.T) {
	r := random(365)
	for range 2000 {
		p, units := randomProgram(&r), r.below(25)
		c := all()
		if r.chance(2) {
			c = containers(r.below(65), r.below(65), 64)
		}
		l, e := phv.Allocate(p, units, c)
		if e != api.OK {
			continue
		}
		taken := map[containerID]uint64{}
		for _, s := range l {
			id, bits := containerID{s.Size, s.Index}, uint64(1)<<(s.Offset+s.Width)-1<<s.Offset
			if !isValid(s) || taken[id]&bits != 0 {
				t.Errorf("slot %+v of %v", s, l)
			}
			taken[id] |= bits
		}
		for range 3 {
			state, bits := goodEnv(&r, p), randomBits(&r, units)
			if env.Check(p, state) != api.OK {
				t.Fatalf("%+v: %v", state, env.Check(p, state))
			}
			got, gotBits := phv.Store(p, l, phv.Load(p, l, state, bits), state.Payload)
			if !env.Equal(got, state) || !slices.Equal(gotBits, bits) {
				t.Errorf("%+v, %v come back as %+v, %v", state, bits, got, gotBits)
			}
		}
		if t.Failed() {
			t.Logf("the program is %+v", p)
			return
		}
	}
}
