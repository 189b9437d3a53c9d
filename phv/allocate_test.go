package phv_test

import (
	"slices"
	"testing"

	"patchbay/api"
	"patchbay/phv"
	"patchbay/placement"
	"patchbay/program"
)

// containerID is a container of a size.
type containerID struct{ size, index int }

// wantAllocate is P36.1, word by word.
func wantAllocate(p api.Program, units int, c api.Chip) ([]api.Slot, api.Errno) {
	if d := program.Check(p); d.Code != api.OK {
		return nil, d.Code
	}
	if e := placement.CheckChip(c); e != api.OK {
		return nil, e
	}
	if units < 0 || units > 24 {
		return nil, api.ErrRange
	}
	used := map[containerID]bool{}
	find := func(w int) (containerID, bool) { // the smallest index of the smallest size
		for _, x := range []containerID{{8, c.C8}, {16, c.C16}, {32, c.C32}} {
			for i := range x.index {
				id := containerID{x.size, i}
				if x.size >= w && !used[id] {
					used[id] = true
					return id, true
				}
			}
		}
		return containerID{}, false
	}
	var l []api.Slot
	var opened containerID
	free := 0
	for _, x := range append(cellsOf(p), slices.Repeat([]cell{{width: 1}}, units)...) {
		id, offset := opened, opened.size-free
		if x.width > 1 || free == 0 {
			var ok bool
			if id, ok = find(x.width); !ok {
				return nil, api.ErrWidth
			}
			offset = 0
		}
		if x.width == 1 {
			opened, free = id, id.size-offset-1
		}
		l = append(l, slot(id.size, id.index, offset, x.width))
	}
	return l, api.OK
}

func expectAllocate(t *testing.T, what string, p api.Program, units int, c api.Chip, want []api.Slot, wantErr api.Errno) {
	t.Helper()
	p.Headers = spare(p.Headers, header(32, 32))
	p.Metadata = spare(p.Metadata, fields(32, 32)...)
	before := text(p)
	for range 2 {
		l, e := phv.Allocate(p, units, c)
		if !slices.Equal(l, want) || e != wantErr {
			t.Errorf("%s: Allocate for %d units on %+v = %v, %v, want %v, %v", what, units, c, l, e, want, wantErr)
		}
		for i := range l[:cap(l)] { // what is done with an answer shows nowhere else
			l[:cap(l)][i] = slot(7, 7, 7, 7)
		}
	}
	if text(p) != before {
		t.Errorf("%s: Allocate changes the program", what)
	}
	if own, e := wantAllocate(p, units, c); !slices.Equal(own, want) || e != wantErr {
		t.Errorf("%s: the tests' own answer: %v, %v, want %v, %v", what, own, e, want, wantErr)
	}
}

func expectSlots(t *testing.T, what string, p api.Program, units int, c api.Chip, want ...api.Slot) {
	t.Helper()
	expectAllocate(t, what, p, units, c, want, api.OK)
}

func expectNoSlots(t *testing.T, what string, p api.Program, units int, c api.Chip, want api.Errno) {
	t.Helper()
	expectAllocate(t, what, p, units, c, nil, want)
}

// P36.1: the chapter's example, with the cells that each program has behind it
func TestExample(t *testing.T) {
	p := sample(nil, header(8, 1, 12, 1, 2))
	expectSlots(t, "the example", p, 2, all(),
		slot(8, 0, 0, 8), slot(8, 1, 0, 1), slot(16, 0, 0, 12), slot(8, 1, 1, 1), slot(8, 2, 0, 2), // the fields of the header
		slot(8, 1, 2, 1), slot(8, 3, 0, 8), slot(8, 4, 0, 8), slot(8, 1, 3, 1), // its validity, in, out and drop
		slot(8, 1, 4, 1), slot(8, 1, 5, 1)) // the result bits
}

// P36.1: the order of the values, without registers
func TestOrder(t *testing.T) {
	p := sample(widths(3, 20), header(8), header(16, 24), header(5, 3))
	expectSlots(t, "three headers", p, 1, all(),
		slot(8, 0, 0, 8), slot(16, 0, 0, 16), slot(32, 0, 0, 24), slot(8, 1, 0, 5), slot(8, 2, 0, 3),
		slot(8, 3, 0, 1), slot(8, 3, 1, 1), slot(8, 3, 2, 1),
		slot(8, 4, 0, 8), slot(8, 5, 0, 8), slot(8, 3, 3, 1), slot(8, 6, 0, 3), slot(32, 1, 0, 20),
		slot(8, 3, 4, 1))
	for _, registers := range [][]api.Register{nil, p.Registers[:1], slices.Repeat(p.Registers[1:], 1)} {
		q := sample(nil)
		q.Registers = registers
		expectSlots(t, "registers", q, 0, all(), slot(8, 0, 0, 8), slot(8, 1, 0, 8), slot(8, 2, 0, 1))
	}
}

// P36.1: the smallest size that a value fits and that has an unused container
func TestSizes(t *testing.T) {
	for w := 2; w <= 32; w++ {
		p := sample(widths(w))
		for _, x := range []struct{ c8, c16, c32 int }{{64, 64, 64}, {3, 64, 64}, {3, 1, 64}, {3, 0, 64}, {3, 64, 0}, {64, 0, 64}, {64, 0, 0}, {3, 0, 1}, {3, 0, 0}, {4, 0, 0}, {3, 1, 0}} {
			c := containers(x.c8, x.c16, x.c32)
			l := slots(slot(8, 0, 0, 8), slot(8, 1, 0, 8), slot(8, 2, 0, 1))
			switch {
			case w <= 8 && x.c8 > 3:
				expectSlots(t, "a container of 8 bits", p, 0, c, append(l, slot(8, 3, 0, w))...)
			case w <= 16 && x.c16 > 0:
				expectSlots(t, "a container of 16 bits", p, 0, c, append(l, slot(16, 0, 0, w))...)
			case x.c32 > 0:
				expectSlots(t, "a container of 32 bits", p, 0, c, append(l, slot(32, 0, 0, w))...)
			default:
				expectNoSlots(t, "no container", p, 0, c, api.ErrWidth)
			}
		}
	}
	five := sample(widths(8, 16, 8, 16, 8, 16, 8))
	expectSlots(t, "values that go into greater containers than need be", five, 0, containers(4, 4, 4),
		slot(8, 0, 0, 8), slot(8, 1, 0, 8), slot(8, 2, 0, 1), slot(8, 3, 0, 8), slot(16, 0, 0, 16), slot(16, 1, 0, 8),
		slot(16, 2, 0, 16), slot(16, 3, 0, 8), slot(32, 0, 0, 16), slot(32, 1, 0, 8))
	expectSlots(t, "nothing but great containers", sample(widths(1, 2)), 0, containers(0, 0, 4),
		slot(32, 0, 0, 8), slot(32, 1, 0, 8), slot(32, 2, 0, 1), slot(32, 2, 1, 1), slot(32, 3, 0, 2))
	expectSlots(t, "nothing but middling containers", sample(widths(1, 2)), 0, containers(0, 4, 0),
		slot(16, 0, 0, 8), slot(16, 1, 0, 8), slot(16, 2, 0, 1), slot(16, 2, 1, 1), slot(16, 3, 0, 2))
}

// bitSlots answers slots of one bit each that fill a container from the given bit on, as many as n.
func bitSlots(size, index, from, n int) []api.Slot {
	var l []api.Slot
	for i := range n {
		l = append(l, slot(size, index, from+i, 1))
	}
	return l
}

// P36.1: values of one bit share containers, which are opened as the last one is full
func TestBits(t *testing.T) {
	in := slots(slot(8, 0, 0, 8), slot(8, 1, 0, 8))
	for n := range api.MaxControl + 1 {
		bits := slices.Concat(bitSlots(8, 2, 0, 8), bitSlots(8, 3, 0, 8), bitSlots(8, 4, 0, 8), bitSlots(8, 5, 0, 8))
		expectSlots(t, "containers of 8 bits", sample(nil), n, all(), slices.Concat(in, bits[:1+n])...)
		bits = slices.Concat(bitSlots(16, 0, 0, 16), bitSlots(16, 1, 0, 16))
		expectSlots(t, "containers of 16 bits", sample(nil), n, containers(2, 64, 64), slices.Concat(in, bits[:1+n])...)
		expectSlots(t, "a container of 32 bits", sample(nil), n, containers(2, 0, 1), slices.Concat(in, bitSlots(32, 0, 0, 1+n))...)
		bits = slices.Concat(bitSlots(8, 2, 0, 8), bitSlots(16, 0, 0, 16), bitSlots(32, 0, 0, 1))
		expectSlots(t, "a container of each size", sample(nil), n, containers(3, 1, 1), slices.Concat(in, bits[:1+n])...)
		bits = slices.Concat(bitSlots(8, 2, 0, 8), bitSlots(32, 0, 0, 17))
		expectSlots(t, "none of 16 bits", sample(nil), n, containers(3, 0, 1), slices.Concat(in, bits[:1+n])...)
		if n >= 8 {
			expectNoSlots(t, "one container of 8 bits", sample(nil), n, containers(3, 0, 0), api.ErrWidth)
		}
		if n >= 16 {
			expectNoSlots(t, "one container of 16 bits", sample(nil), n, containers(2, 1, 0), api.ErrWidth)
		}
		expectNoSlots(t, "no container", sample(nil), n, containers(2, 0, 0), api.ErrWidth)
	}
	p := sample(nil, header(slices.Concat(slices.Repeat(widths(1), 8), widths(8, 7, 1))...))
	expectSlots(t, "a new container behind other values", p, 0, all(), slices.Concat(bitSlots(8, 0, 0, 8),
		slots(slot(8, 1, 0, 8), slot(8, 2, 0, 7), slot(8, 3, 0, 1), slot(8, 3, 1, 1), slot(8, 4, 0, 8), slot(8, 5, 0, 8), slot(8, 3, 2, 1)))...)
	ones := slices.Repeat(widths(1), 8)
	many := sample(ones, header(ones...), header(ones...), header(ones...), header(ones...))
	expectSlots(t, "33 bits and more in a row", many, 0, containers(0, 2, 4), slices.Concat(
		bitSlots(16, 0, 0, 16), bitSlots(16, 1, 0, 16), bitSlots(32, 0, 0, 4), slots(slot(32, 1, 0, 8), slot(32, 2, 0, 8)), bitSlots(32, 0, 4, 9))...)
	full := slices.Concat(bitSlots(32, 0, 0, 32), bitSlots(32, 1, 0, 4), slots(slot(32, 2, 0, 8), slot(32, 3, 0, 8)), bitSlots(32, 1, 4, 28))
	expectSlots(t, "two full containers of 32 bits", many, 19, containers(0, 0, 4), full...)
	expectNoSlots(t, "two full containers of 32 bits, and a bit", many, 20, containers(0, 0, 4), api.ErrWidth)
	expectSlots(t, "two full containers of 32 bits, and one more", many, 20, containers(0, 0, 5), append(full, slot(32, 4, 0, 1))...)
}

// P36.1: each error ahead of those behind it
func TestErrors(t *testing.T) {
	for faults := range 16 {
		p, c, units := sample(nil), all(), 0
		want, wantErr := slots(slot(8, 0, 0, 8), slot(8, 1, 0, 8), slot(8, 2, 0, 1)), api.OK
		for i, fault := range [4]func() api.Errno{ // the last ones first, so that the first one's answer stays
			func() api.Errno { c.C8, c.C16, c.C32 = 2, 0, 0; return api.ErrWidth },
			func() api.Errno { units = 25; return api.ErrRange },
			func() api.Errno { c.Stages = 0; return api.ErrRange },
			func() api.Errno { p.Name = ""; return api.ErrName },
		} {
			if faults>>i&1 == 1 {
				want, wantErr = nil, fault()
			}
		}
		expectAllocate(t, "faults", p, units, c, want, wantErr)
	}
}

// P36.1: programs, chips and numbers of units that are not valid
func TestInvalidArguments(t *testing.T) {
	for want, damage := range map[api.Errno]func(p *api.Program){
		api.ErrName:      func(p *api.Program) { p.Name = "1" },
		api.ErrLimit:     func(p *api.Program) { p.Metadata = append(p.Metadata, fields(slices.Repeat(widths(8), 12)...)...) },
		api.ErrWidth:     func(p *api.Program) { p.Headers[0].Fields[0].Width = 9 },
		api.ErrSyntax:    func(p *api.Program) { p.Metadata[1].Width = 9 },
		api.ErrNotFound:  func(p *api.Program) { p.Deparser = []int{1} },
		api.ErrDuplicate: func(p *api.Program) { p.Registers[1].Name = "r" },
		api.ErrKind:      func(p *api.Program) { p.Control = []api.ControlNode{{}} },
		api.ErrOrder:     func(p *api.Program) { p.States[0].Default = 0 },
	} {
		p := sample(nil, header(8))
		damage(&p)
		for _, c := range []api.Chip{all(), containers(0, 0, 0), {}} {
			for _, units := range []int{0, 24, 25, -1} {
				expectNoSlots(t, want.Error(), p, units, c, want)
			}
		}
	}
	expectNoSlots(t, "no program", api.Program{}, 0, all(), api.ErrName)
	for _, n := range append([]int{-1, 25, 26, 64}, wrongNumbers...) {
		expectNoSlots(t, "a wrong number of units", sample(nil), n, all(), api.ErrRange)
		expectNoSlots(t, "a wrong number of units, no containers", sample(nil), n, containers(0, 0, 0), api.ErrRange)
	}
	for _, n := range append([]int{-1, 65}, wrongNumbers...) {
		if n == 64 {
			continue
		}
		for _, c := range []api.Chip{containers(n, 64, 64), containers(64, n, 64), containers(64, 64, n), {Stages: 1, Tables: n, C8: 64}, {Stages: 1, Gates: n, C8: 64}} {
			expectNoSlots(t, "a chip that is not valid", sample(nil), 0, c, api.ErrRange)
		}
	}
	for _, c := range []api.Chip{{C8: 64}, {Stages: 17, C8: 64}, {Stages: 1, SRAM: 4097, C8: 64}, {Stages: 1, TCAM: -1, C8: 64}} {
		expectNoSlots(t, "a chip that is not valid", sample(nil), 0, c, api.ErrRange)
	}
	expectSlots(t, "a chip without tables", sample(nil), 0, api.Chip{Stages: 16, C8: 3}, slot(8, 0, 0, 8), slot(8, 1, 0, 8), slot(8, 2, 0, 1))
}

// P36.1: as many containers as a chip may have
func TestManyContainers(t *testing.T) {
	for _, w := range []int{8, 16, 32} {
		var h []api.Header
		for range api.MaxHeaders {
			h = append(h, header(slices.Repeat(widths(w), api.MaxFields)...))
		}
		var want []api.Slot
		for i := range 96 {
			s := slot(w, i, 0, w)
			if i >= 64 {
				s = slot(2*w, i-64, 0, w)
			}
			want = append(want, s)
		}
		switch w {
		case 8:
			want = append(append(want, bitSlots(16, 32, 0, 8)...), slot(16, 33, 0, 8), slot(16, 34, 0, 8), slot(16, 32, 8, 1))
		case 16:
			want = append(append(want, bitSlots(8, 0, 0, 8)...), slot(8, 1, 0, 8), slot(8, 2, 0, 8), slot(8, 3, 0, 1))
		case 32:
			expectNoSlots(t, "96 values of 32 bits", sample(nil, h...), 0, all(), api.ErrWidth)
			continue
		}
		expectSlots(t, "96 values of one width", sample(nil, h...), 0, all(), want...)
	}
	var h []api.Header
	for range 6 {
		h = append(h, header(slices.Repeat(widths(32), 10)...))
	}
	for n := range 9 { // the metadata of 32 bits, behind 60 values of as many
		p := sample(slices.Repeat(widths(32), n), h...)
		if _, e := phv.Allocate(p, 24, all()); e != api.OK && n <= 4 || e != api.ErrWidth && n > 4 {
			t.Errorf("%d values of 32 bits: %v", 60+n, e)
		}
	}
}

// P36.1: random programs and chips, held against the words of the promise
func TestRandomAllocate(t *testing.T) {
	r := random(361)
	count := map[api.Errno]int{}
	sizes := map[int]int{}
	for range 6000 {
		p, units := randomProgram(&r), r.below(25)
		some := func() int { return pick(&r, []int{0, 64, r.below(65), r.below(20)}) }
		c := containers(some(), some(), some())
		if r.chance(20) {
			units = pick(&r, []int{-1, 25})
		}
		if r.chance(20) {
			c.Stages = 0
		}
		if r.chance(20) {
			p.Headers = append(p.Headers, api.Header{})
		}
		want, e := wantAllocate(p, units, c)
		count[e]++
		for _, s := range want {
			sizes[s.Size]++
		}
		expectAllocate(t, "a random program", p, units, c, want, e)
		if t.Failed() {
			t.Logf("the program is %+v", p)
			return
		}
	}
	if count[api.OK] < 1500 || count[api.ErrWidth] < 1000 || count[api.ErrRange] < 200 || sizes[8] < 10000 || sizes[16] < 10000 || sizes[32] < 10000 {
		t.Errorf("the errors are %v, the sizes %v", count, sizes)
	}
}
