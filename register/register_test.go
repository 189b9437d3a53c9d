package register_test

import (
	"math"
	"slices"
	"strconv"
	"testing"

	"patchbay/api"
	"patchbay/register"
)

var wrongWidths = []int{math.MinInt, -32, -1, 0, 33, 64, 1 << 32, 1<<32 + 8, math.MaxInt}

var wrongSizes = []int{math.MinInt, -64, -1, 0, 65, 1000, 1 << 32, 1<<32 + 1, math.MaxInt}

var wrongNames = []string{"", "1", "1a", "_", "_a", "a-b", "a b", " a", "a ", "a.b", "a\n", "a\x00", "\xff", "é", "aé", "seventeen_letters"}

var values = []uint32{0, 1, 2, 3, 7, 8, 0x15, 0x1f, 0x7f, 0x80, 0xff, 0x100, 0xffff, 0x10000, 1<<31 - 1, 1 << 31, 0xdeadbeef, math.MaxUint32 - 1, math.MaxUint32}

// random is a row of numbers that look like no rule, the same ones for the same seed.
type random uint64

func (r *random) bits() uint32 {
	*r = *r*6364136223846793005 + 1442695040888963407
	return uint32(*r >> 32)
}

func (r *random) below(n int) int { return int(r.bits()>>4) % n }

func pick[T any](r *random, l []T) T { return l[r.below(len(l))] }

func reg(width, size int) api.Register { return api.Register{Name: "r", Width: width, Size: size} }

func program(l ...api.Register) api.Program { return api.Program{Registers: l} }

// contents answers lists of these sizes, each with all its capacity filled with values from at on.
func contents(at uint32, sizes ...int) [][]uint32 {
	rs := make([][]uint32, 0, len(sizes)+2)
	for _, n := range sizes {
		l := make([]uint32, n, n+3)
		for i := range l[:cap(l)] {
			l[:cap(l)][i] = at
			at++
		}
		rs = append(rs, l)
	}
	rs[:len(sizes)+1][len(sizes)] = []uint32{77, 77, 77, 77}
	return rs
}

// text writes contents with all that lies behind their lengths. A nil list is written as an empty one.
func text(rs [][]uint32) string {
	s := strconv.Itoa(len(rs))
	for _, l := range rs[:cap(rs)] {
		s += " [" + strconv.Itoa(len(l)) + ":"
		for _, v := range l[:cap(l)] {
			s += " " + strconv.FormatUint(uint64(v), 16)
		}
		s += "]"
	}
	return s
}

func equal(a, b [][]uint32) bool {
	if len(a) != len(b) {
		return false
	}
	for i := range a {
		if !slices.Equal(a[i], b[i]) {
			return false
		}
	}
	return true
}

func clone(rs [][]uint32) [][]uint32 {
	var c [][]uint32
	for _, l := range rs {
		c = append(c, slices.Clone(l))
	}
	return c
}

// expectOwnLists tells if two lists of rs share memory.
func expectOwnLists(t *testing.T, rs [][]uint32) {
	t.Helper()
	for i, l := range rs {
		for j := range l[:cap(l)] {
			l[:cap(l)][j] = uint32(i)
		}
	}
	for i, l := range rs {
		for _, v := range l[:cap(l)] {
			if v != uint32(i) {
				t.Fatalf("the lists %d and %d share memory", i, v)
			}
		}
	}
}

// P15.1
func TestCheckOfValid(t *testing.T) {
	for _, name := range []string{"r", "R", "a_1", "sixteen_letters_", "z9999999999999999"[:16]} {
		for width := 1; width <= 32; width++ {
			for size := 1; size <= api.MaxRegSize; size++ {
				if e := register.Check(api.Register{Name: name, Width: width, Size: size}); e != api.OK {
					t.Errorf("Check(%q, %d, %d) = %v", name, width, size, e)
				}
			}
		}
	}
}

// P15.1: each error, and their order
func TestCheckOfInvalid(t *testing.T) {
	widths := append([]int{1, 8, 32}, wrongWidths...)
	sizes := append([]int{1, 7, 64}, wrongSizes...)
	for _, name := range append([]string{"r"}, wrongNames...) {
		for i, width := range widths {
			for j, size := range sizes {
				want := api.OK
				switch {
				case name != "r":
					want = api.ErrName
				case i >= 3:
					want = api.ErrWidth
				case j >= 3:
					want = api.ErrRange
				}
				if e := register.Check(api.Register{Name: name, Width: width, Size: size}); e != want {
					t.Errorf("Check(%q, %d, %d) = %v, want %v", name, width, size, e, want)
				}
			}
		}
	}
}

// P15.2: a list of Size zeros each, whatever the name and the width
func TestNew(t *testing.T) {
	var l []api.Register
	for size := 1; size <= api.MaxRegSize; size++ {
		l = append(l, reg(size-16, size), api.Register{Width: wrongWidths[size%len(wrongWidths)], Size: size})
	}
	for _, size := range wrongSizes {
		l = append(l, reg(8, size))
	}
	for range 2 {
		rs := register.New(program(l...))
		if len(rs) != len(l) {
			t.Fatalf("New of %d registers has %d lists", len(l), len(rs))
		}
		for i, r := range l {
			var want []uint32
			if r.Size >= 1 && r.Size <= 64 {
				want = make([]uint32, r.Size)
			}
			if !slices.Equal(rs[i], want) {
				t.Errorf("New of size %d = %v", r.Size, rs[i])
			}
		}
		expectOwnLists(t, rs) // and what it writes isn't there in the next round
	}
	if rs := register.New(api.Program{}); len(rs) != 0 {
		t.Errorf("New of no register = %v", rs)
	}
}

// P15.2: what lies behind the length of the list of registers doesn't count.
func TestBehindLength(t *testing.T) {
	p := program(reg(8, 2), reg(8, 3))
	p.Registers = p.Registers[:1]
	if rs := register.New(p); len(rs) != 1 {
		t.Errorf("New = %v", rs)
	}
	rs := contents(1, 2, 3)
	if e := register.CheckContents(p, rs[:1]); e != api.OK {
		t.Errorf("CheckContents = %v", e)
	}
	if v := register.Read(p, rs, 1, 0); v != 0 {
		t.Errorf("Read of register 1 = %d", v)
	}
	if got := register.Write(p, rs, 1, 0, 9); !equal(got, rs) {
		t.Errorf("Write of register 1 = %v", got)
	}
	two := program(reg(8, 9), reg(8, 9))
	if v := register.Read(two, rs[:1], 1, 0); v != 0 {
		t.Errorf("Read of list 1 = %d", v)
	}
	if v := register.Read(two, rs, 0, 2); v != 0 {
		t.Errorf("Read of cell 2 = %d", v)
	}
}

func expectContents(t *testing.T, p api.Program, rs [][]uint32, want api.Errno) {
	t.Helper()
	before := text(rs)
	if e := register.CheckContents(p, rs); e != want {
		t.Errorf("CheckContents(%v, %v) = %v, want %v", p.Registers, rs, e, want)
	}
	if text(rs) != before {
		t.Errorf("CheckContents changes %s to %s", before, text(rs))
	}
}

// P15.3: the sizes of the lists, also where Check would reject the registers
func TestCheckContentsShape(t *testing.T) {
	expectContents(t, api.Program{}, nil, api.OK)
	expectContents(t, api.Program{}, [][]uint32{}, api.OK)
	expectContents(t, api.Program{}, [][]uint32{nil}, api.ErrArg)
	expectContents(t, program(reg(8, 1)), nil, api.ErrArg)
	expectContents(t, program(reg(8, 0)), [][]uint32{nil}, api.OK)
	expectContents(t, program(reg(8, 0)), [][]uint32{{}}, api.OK)
	expectContents(t, program(reg(8, 0)), nil, api.ErrArg)
	expectContents(t, program(reg(8, 0)), [][]uint32{{0}}, api.ErrArg)
	expectContents(t, program(reg(8, 1000)), [][]uint32{make([]uint32, 1000)}, api.OK)
	for _, size := range wrongSizes {
		if size != 0 && size != 65 && size != 1000 {
			expectContents(t, program(reg(8, size)), [][]uint32{nil}, api.ErrArg)
			expectContents(t, program(reg(8, size)), [][]uint32{{0}}, api.ErrArg)
		}
	}
	p := program(reg(8, 2), reg(8, 64), reg(8, 1))
	for a := range 4 {
		for b := 62; b < 67; b++ {
			for c := range 3 {
				want := api.ErrArg
				if a == 2 && b == 64 && c == 1 {
					want = api.OK
				}
				rs := contents(0, a, b, c)
				expectContents(t, p, rs, want)
				expectContents(t, p, rs[:2], api.ErrArg)
				expectContents(t, p, rs[:4], api.ErrArg)
			}
		}
	}
}

// P15.3: the values of the cells
func TestCheckContentsValues(t *testing.T) {
	for w := 1; w <= 32; w++ {
		for at := range 3 {
			for _, v := range append([]uint32{uint32(uint64(1)<<w - 1), uint32(uint64(1) << w)}, values...) {
				want := api.OK
				if uint64(v) >= 1<<w {
					want = api.ErrRange
				}
				rs := [][]uint32{{0, 255}, {0, 0, 0}, {1}}
				rs[1][at] = v
				expectContents(t, program(reg(8, 2), reg(w, 3), reg(1, 1)), rs, want)
			}
		}
	}
	for _, w := range wrongWidths {
		expectContents(t, program(reg(8, 1), reg(w, 2)), [][]uint32{{9}, {0, 0}}, api.OK)
		for _, v := range values[1:] {
			expectContents(t, program(reg(8, 1), reg(w, 2)), [][]uint32{{9}, {0, v}}, api.ErrRange)
			expectContents(t, program(reg(w, 2), reg(8, 1)), [][]uint32{{v, 0}, {9}}, api.ErrRange)
		}
	}
}

// P15.3: a size at fault comes ahead of a value at fault, wherever they stand.
func TestCheckContentsOrder(t *testing.T) {
	p := program(reg(1, 1), reg(8, 1))
	expectContents(t, p, [][]uint32{{2}, {1}}, api.ErrRange)
	expectContents(t, p, [][]uint32{{1}, {256}}, api.ErrRange)
	expectContents(t, p, [][]uint32{{2}, {}}, api.ErrArg)
	expectContents(t, p, [][]uint32{{2}, {1, 1}}, api.ErrArg)
	expectContents(t, p, [][]uint32{{2}}, api.ErrArg)
	expectContents(t, p, [][]uint32{{2}, {1}, {1}}, api.ErrArg)
}

// hasCell tells by the words of P15.4 whether Read answers a cell.
func hasCell(p api.Program, rs [][]uint32, r int, i uint32) bool {
	for n := range min(len(p.Registers), len(rs)) {
		for k := range rs[n] {
			if n == r && uint32(k) == i && k < p.Registers[n].Size {
				return true
			}
		}
	}
	return false
}

// expectCell holds Read and Write of one cell against the words of P15.4 and P15.5.
func expectCell(t *testing.T, p api.Program, rs [][]uint32, r int, i, v uint32) {
	t.Helper()
	before, has := text(rs), hasCell(p, rs, r, i)
	read, want := uint32(0), clone(rs)
	if has {
		read = rs[r][i]
	}
	if got := register.Read(p, rs, r, i); got != read {
		t.Fatalf("%v: Read of cell %d of register %d of %v = %d, want %d", p.Registers, i, r, rs, got, read)
	}
	if has && p.Registers[r].Width >= 1 && p.Registers[r].Width <= 32 {
		want[r][i] = uint32(uint64(v) % (1 << p.Registers[r].Width))
	}
	got := register.Write(p, rs, r, i, v)
	if !equal(got, want) {
		t.Fatalf("%v: Write of %d to cell %d of register %d of %v = %v, want %v", p.Registers, v, i, r, rs, got, want)
	}
	expectOwnLists(t, got)
	if text(rs) != before {
		t.Fatalf("the contents %s are changed to %s", before, text(rs))
	}
}

// P15.4, P15.5: programs and contents of any shape, all cells and such as don't exist
func TestReadAndWrite(t *testing.T) {
	programs := []api.Program{
		{},
		program(reg(8, 3)),
		program(reg(4, 3), reg(32, 2), reg(1, 1)),
		program(reg(4, 0), reg(32, -1), reg(31, math.MinInt), reg(16, math.MaxInt), reg(16, 1<<32), reg(16, 1<<32+1)),
		program(reg(0, 3), reg(33, 3), reg(-1, 3), reg(math.MinInt, 3), reg(math.MaxInt, 3), reg(1<<32+8, 3)),
		program(reg(32, 65), reg(7, 1000), reg(5, 64)),
	}
	shapes := [][][]uint32{nil, {}, contents(0xfffffff0), contents(20, 3), contents(20, 3, 2, 1), contents(20, 0, 2, 2), contents(20, 3, 3, 3, 3, 3, 3), contents(20, 66, 66, 66), contents(20, 1, 1), {nil, {5}, nil, {6, 7}}}
	registers := []int{math.MinInt, -1 << 32, -1, 0, 1, 2, 3, 4, 5, 6, 7, 1 << 32, math.MaxInt}
	cells := []uint32{0, 1, 2, 3, 4, 63, 64, 65, 66, 67, 1 << 16, 1<<31 - 1, 1 << 31, math.MaxUint32 - 1, math.MaxUint32}
	for _, p := range programs {
		for _, rs := range shapes {
			for _, r := range registers {
				for _, i := range cells {
					expectCell(t, p, rs, r, i, 0xdeadbeef)
				}
			}
		}
	}
}

// P15.4: Read reduces nothing: it answers what is there.
func TestReadOfTooGreat(t *testing.T) {
	for _, w := range append([]int{1, 8, 31}, wrongWidths...) {
		for _, v := range values {
			if got := register.Read(program(reg(w, 2)), [][]uint32{{5, v}}, 0, 1); got != v {
				t.Errorf("width %d: Read = %#x, want %#x", w, got, v)
			}
		}
	}
}

// P15.5: the value modulo 2^Width, for each width
func TestWriteModulo(t *testing.T) {
	for w := 1; w <= 32; w++ {
		for _, v := range values {
			expectCell(t, program(reg(8, 1), reg(w, 3)), contents(0xfffffff0, 1, 3), 1, 2, v)
			if got := register.Write(program(reg(w, 1)), [][]uint32{{9}}, 0, 0, v); got[0][0] != v<<(32-w)>>(32-w) {
				t.Errorf("width %d: Write of %#x = %#x", w, v, got[0][0])
			}
		}
	}
}

// P15.4, P15.5: example 1
func TestExample(t *testing.T) {
	p := program(reg(4, 3))
	rs := register.New(p)
	if !equal(rs, [][]uint32{{0, 0, 0}}) {
		t.Errorf("New = %v", rs)
	}
	rs = register.Write(p, rs, 0, 1, 0x1f)
	if !equal(rs, [][]uint32{{0, 15, 0}}) {
		t.Errorf("Write = %v", rs)
	}
	if v := register.Read(p, rs, 0, 3); v != 0 {
		t.Errorf("Read of cell 3 = %d", v)
	}
	if got := register.Write(p, rs, 0, 3, 1); !equal(got, [][]uint32{{0, 15, 0}}) {
		t.Errorf("Write of cell 3 = %v", got)
	}
}

// P15.6
func TestEqual(t *testing.T) {
	l := [][][]uint32{
		{}, {{}}, {{}, {}}, {{0}}, {{1}}, {{0, 0}}, {{0}, {0}}, {{0}, {1}}, {{1}, {0}}, {{0, 1}}, {{1, 0}}, {{}, {0}}, {{0}, {}},
		{{1, 2, 3}, {4}}, {{1, 2}, {3, 4}}, {{1, 2, 3, 4}}, {{1, 2, 3}, {5}}, {{math.MaxUint32}}, {{math.MaxInt32}}, {{}, {}, {}},
	}
	for i, a := range l {
		for j, b := range l {
			if got := register.Equal(a, clone(b)); got != (i == j) {
				t.Errorf("Equal(%v, %v) = %v", a, b, got)
			}
		}
	}
	for _, c := range [][2][][]uint32{{nil, {}}, {{nil}, {{}}}, {{{1}, nil, {2}}, {{1}, {}, {2}}}} {
		if !register.Equal(c[0], c[1]) || !register.Equal(c[1], c[0]) {
			t.Errorf("Equal(%v, %v) = false", c[0], c[1])
		}
	}
	if register.Equal([][]uint32{nil}, nil) || register.Equal(nil, [][]uint32{nil}) {
		t.Error("one empty list equals no list")
	}
	if !register.Equal(contents(5, 2)[:1], contents(5, 2, 3)[:1]) || !register.Equal(contents(5, 3), [][]uint32{{5, 6, 7}}) {
		t.Error("what lies behind the length counts")
	}
}

// P15.7: CheckContents accepts New, and what Write makes of contents that it accepts; no other cell changes.
func TestConsequences(t *testing.T) {
	r := random(1)
	for range 300 {
		var l []api.Register
		for range r.below(api.MaxRegisters + 1) {
			l = append(l, reg(1+r.below(32), 1+r.below(api.MaxRegSize)))
			if e := register.Check(l[len(l)-1]); e != api.OK {
				t.Fatal(e)
			}
		}
		p := program(l...)
		rs := register.New(p)
		for range 60 {
			if e := register.CheckContents(p, rs); e != api.OK {
				t.Fatalf("CheckContents(%v, %v) = %v", l, rs, e)
			}
			n, i, v := r.below(len(l)+2)-1, uint32(r.below(api.MaxRegSize+3)), pick(&r, values)
			expectCell(t, p, rs, n, i, v)
			rs = register.Write(p, rs, n, i, v)
			if n >= 0 && n < len(l) && int(i) < l[n].Size {
				if got := register.Read(p, rs, n, i); got != uint32(uint64(v)%(1<<l[n].Width)) {
					t.Fatalf("Read after Write of %d to a cell of width %d = %d", v, l[n].Width, got)
				}
			}
		}
	}
}
