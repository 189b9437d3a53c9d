package access_test

import (
	"math"
	"testing"

	"patchbay/access"
	"patchbay/api"
)

// expectCells expects what P31.1, P31.2 and P31.5 tell of all cells of a program, and of what is none.
func expectCells(t *testing.T, what string, p api.Program) {
	t.Helper()
	before := text(p)
	numbers := map[string]int{}
	for c, name := range cellsOf(p) {
		numbers[name] = c
	}
	number := func(name string) int {
		if c, ok := numbers[name]; ok {
			return c
		}
		return -1
	}
	if n := access.Cells(p); n != len(numbers) {
		t.Errorf("%s: Cells = %d, want %d", what, n, len(numbers))
	}
	indices := append([]int{-1}, wrongNumbers...)
	for i := range 8 {
		indices = append(indices, i)
	}
	expected := map[int]bool{}
	for _, i := range indices {
		if c := access.ValidCell(p, i); c != number(validName(i)) {
			t.Errorf("%s: ValidCell of %d = %d, want %d", what, i, c, number(validName(i)))
		}
		if c := access.RegisterCell(p, i); c != number(registerName(i)) {
			t.Errorf("%s: RegisterCell of %d = %d, want %d", what, i, c, number(registerName(i)))
		}
		for _, f := range indices {
			if c := access.FieldCell(p, ref(i, f)); c != number(nameOf(ref(i, f))) {
				t.Errorf("%s: FieldCell of %d, %d = %d, want %d", what, i, f, c, number(nameOf(ref(i, f))))
			}
			expected[access.FieldCell(p, ref(i, f))] = true
		}
		expected[access.ValidCell(p, i)], expected[access.RegisterCell(p, i)] = true, true
	}
	for c := range len(numbers) {
		if !expected[c] {
			t.Errorf("%s: nothing has the cell %d", what, c)
		}
	}
	if text(p) != before {
		t.Errorf("%s: the program is changed", what)
	}
}

// validWidth answers w if values have it, and else 0.
func validWidth(w int) int {
	if w < 1 || w > 32 {
		return 0
	}
	return w
}

// wantWidths is P31.2, word by word.
func wantWidths(p api.Program) []int {
	var l []int
	for _, h := range p.Headers {
		for _, f := range h.Fields {
			l = append(l, validWidth(f.Width))
		}
	}
	for range p.Headers {
		l = append(l, 1)
	}
	for _, f := range p.Metadata {
		l = append(l, validWidth(f.Width))
	}
	return append(l, make([]int, len(p.Registers))...)
}

func expectWidths(t *testing.T, what string, p api.Program) {
	t.Helper()
	before := text(p)
	l := wantWidths(p)
	for c, w := range l {
		if got := access.CellWidth(p, c); got != w {
			t.Errorf("%s: CellWidth of %d = %d, want %d", what, c, got, w)
		}
	}
	for _, c := range []int{len(l), len(l) + 1, len(l) + 100, -1, -2, -len(l), math.MinInt, -1 << 32, 1 << 32, 1<<32 + 1, math.MaxInt} {
		if got := access.CellWidth(p, c); got != 0 {
			t.Errorf("%s: CellWidth of %d = %d, want 0", what, c, got)
		}
	}
	if text(p) != before {
		t.Errorf("%s: CellWidth changes the program", what)
	}
}

// P31.1, P31.2: the chapter's example
func TestExample(t *testing.T) {
	p := api.Program{
		Headers:   []api.Header{{Name: "g", Fields: widths(5)}, {Name: "h", Fields: widths(6, 7)}},
		Metadata:  widths(8, 8, 1),
		Registers: []api.Register{{Name: "r", Width: 9, Size: 3}},
	}
	for _, x := range []struct {
		what      string
		got, want int
	}{
		{"Cells", access.Cells(p), 9},
		{"FieldCell of {0, 0}", access.FieldCell(p, ref(0, 0)), 0},
		{"FieldCell of {1, 0}", access.FieldCell(p, ref(1, 0)), 1},
		{"FieldCell of {1, 1}", access.FieldCell(p, ref(1, 1)), 2},
		{"FieldCell of {0, 1}", access.FieldCell(p, ref(0, 1)), -1},
		{"FieldCell of {1, 2}", access.FieldCell(p, ref(1, 2)), -1},
		{"FieldCell of {2, 0}", access.FieldCell(p, ref(2, 0)), -1},
		{"FieldCell of {-2, 0}", access.FieldCell(p, ref(-2, 0)), -1},
		{"ValidCell of 0", access.ValidCell(p, 0), 3},
		{"ValidCell of 1", access.ValidCell(p, 1), 4},
		{"ValidCell of 2", access.ValidCell(p, 2), -1},
		{"ValidCell of -1", access.ValidCell(p, -1), -1},
		{"FieldCell of {Metadata, 0}", access.FieldCell(p, meta(0)), 5},
		{"FieldCell of {Metadata, 2}", access.FieldCell(p, meta(2)), 7},
		{"FieldCell of {Metadata, 3}", access.FieldCell(p, meta(3)), -1},
		{"FieldCell of {Metadata, -1}", access.FieldCell(p, meta(-1)), -1},
		{"RegisterCell of 0", access.RegisterCell(p, 0), 8},
		{"RegisterCell of 1", access.RegisterCell(p, 1), -1},
		{"RegisterCell of -1", access.RegisterCell(p, -1), -1},
		{"CellWidth of 0", access.CellWidth(p, 0), 5},
		{"CellWidth of 1", access.CellWidth(p, 1), 6},
		{"CellWidth of 2", access.CellWidth(p, 2), 7},
		{"CellWidth of 3", access.CellWidth(p, 3), 1},
		{"CellWidth of 4", access.CellWidth(p, 4), 1},
		{"CellWidth of 5", access.CellWidth(p, 5), 8},
		{"CellWidth of 7", access.CellWidth(p, 7), 1},
		{"CellWidth of 8", access.CellWidth(p, 8), 0},
		{"CellWidth of 9", access.CellWidth(p, 9), 0},
		{"CellWidth of -1", access.CellWidth(p, -1), 0},
	} {
		if x.got != x.want {
			t.Errorf("%s: %d, want %d", x.what, x.got, x.want)
		}
	}
}

// P31.1, P31.2: programs in which something is missing
func TestPartsMissing(t *testing.T) {
	for what, p := range map[string]api.Program{
		"an empty program":        {},
		"no fields":               {Headers: make([]api.Header, 3), Registers: make([]api.Register, 2)},
		"metadata alone":          {Metadata: widths(8, 8, 1)},
		"registers alone":         {Registers: make([]api.Register, 4)},
		"a header alone":          {Headers: []api.Header{{Fields: widths(1, 32)}}},
		"headers without fields":  {Headers: []api.Header{{}, {Fields: widths(3, 4)}, {}, {}, {Fields: widths(5)}, {}}, Metadata: widths(2)},
		"no registers":            {Headers: []api.Header{{Fields: widths(1)}}, Metadata: widths(9)},
		"no metadata":             {Headers: []api.Header{{Fields: widths(1)}}, Registers: make([]api.Register, 1)},
		"the sample":              sample(),
		"more of all than may be": {Headers: make([]api.Header, 7), Metadata: widths(1, 2, 3, 4, 5, 6, 7), Registers: make([]api.Register, 7)},
	} {
		expectCells(t, what, p)
		expectWidths(t, what, p)
		c := copied(p) // with lists that end ahead of their memory
		expectCells(t, what, c)
		expectWidths(t, what, c)
	}
}

// P31.2: every width, also such as no value has; a register has none, whatever its own is
func TestWidths(t *testing.T) {
	all := append([]int{}, wrongWidths...)
	for w := range 34 {
		all = append(all, w)
	}
	for _, w := range all {
		p := sample()
		p.Headers[0].Fields[1].Width, p.Headers[2].Fields[1].Width, p.Metadata[0].Width, p.Metadata[4].Width = w, w, w, w
		p.Registers[0].Width, p.Registers[1].Size = w, w
		expectWidths(t, "a width", p)
		expectCells(t, "a width", p) // a field of any width has a cell
		for _, c := range []int{1, 4, 8, 12} {
			if got := access.CellWidth(p, c); got != validWidth(w) {
				t.Errorf("CellWidth of a field of width %d: %d", w, got)
			}
		}
	}
}

// randomFields answers fields of all widths.
func randomFields(r *random, n int) []api.Field {
	var l []api.Field
	for range n {
		l = append(l, api.Field{Width: pick(r, append([]int{1, 2, 8, 31, 32}, wrongWidths...))})
	}
	return l
}

// P31.1, P31.2, P31.5: random programs
func TestRandomCells(t *testing.T) {
	r := random(31)
	for range 400 {
		p := api.Program{Metadata: randomFields(&r, r.below(6)), Registers: make([]api.Register, r.below(6))}
		for range r.below(7) {
			p.Headers = append(p.Headers, api.Header{Fields: randomFields(&r, r.below(7))})
		}
		expectCells(t, "a random program", p)
		expectWidths(t, "a random program", p)
	}
}

// P31.1, P31.2: as much of all as a program may have, and far more
func TestManyCells(t *testing.T) {
	for _, n := range []struct{ headers, fields, metadata, registers int }{
		{api.MaxHeaders, api.MaxFields, api.MaxFields, api.MaxRegisters},
		{1000, 100, 5000, 3000},
		{2, 100000, 3, 1},
	} {
		p := api.Program{Metadata: make([]api.Field, n.metadata), Registers: make([]api.Register, n.registers)}
		for h := range n.headers {
			fields := make([]api.Field, n.fields)
			fields[n.fields-1].Width = 1 + h%32
			p.Headers = append(p.Headers, api.Header{Fields: fields})
		}
		all := n.headers * n.fields
		for _, x := range []struct {
			what      string
			got, want int
		}{
			{"Cells", access.Cells(p), all + n.headers + n.metadata + n.registers},
			{"FieldCell of the last field", access.FieldCell(p, ref(n.headers-1, n.fields-1)), all - 1},
			{"FieldCell of the last header's first field", access.FieldCell(p, ref(n.headers-1, 0)), all - n.fields},
			{"ValidCell of the last header", access.ValidCell(p, n.headers-1), all + n.headers - 1},
			{"FieldCell of the last metadata field", access.FieldCell(p, meta(n.metadata-1)), all + n.headers + n.metadata - 1},
			{"RegisterCell of the last register", access.RegisterCell(p, n.registers-1), all + n.headers + n.metadata + n.registers - 1},
			{"CellWidth of the last field", access.CellWidth(p, all-1), 1 + (n.headers-1)%32},
			{"CellWidth of the first header's last field", access.CellWidth(p, n.fields-1), 1},
			{"CellWidth of a field without width", access.CellWidth(p, 0), 0},
		} {
			if x.got != x.want {
				t.Errorf("%+v: %s: %d, want %d", n, x.what, x.got, x.want)
			}
		}
	}
}
