package phv_test

import (
	"fmt"
	"math"
	"reflect"
	"slices"
	"strings"
	"testing"

	"patchbay/access"
	"patchbay/api"
	"patchbay/env"
	"patchbay/phv"
	"patchbay/program"
)

var wrongNumbers = []int{math.MinInt, math.MinInt + 1, -1 << 32, -9, -8, -2, -1, 64, 65, 99, 1 << 32, 1<<32 + 1, 1<<32 + 8, math.MaxInt - 8, math.MaxInt}

// random is a row of numbers that look like no rule, the same ones for the same seed.
type random uint64

func (r *random) bits() uint32 {
	*r = *r*6364136223846793005 + 1442695040888963407
	return uint32(*r >> 32)
}

func (r *random) below(n int) int { return int(r.bits()>>4) % n }

func (r *random) chance(n int) bool { return r.below(n) == 0 }

func pick[T any](r *random, l []T) T { return l[r.below(len(l))] }

// text writes values with all that lies behind the lengths of their lists.
func text(l ...any) string {
	var s strings.Builder
	for _, x := range l {
		writeText(&s, reflect.ValueOf(x))
	}
	return s.String()
}

func writeText(s *strings.Builder, v reflect.Value) {
	switch v.Kind() {
	case reflect.Struct:
		for i := range v.NumField() {
			writeText(s, v.Field(i))
		}
	case reflect.Slice:
		fmt.Fprintf(s, "[%d:", v.Len())
		for i := range v.Cap() {
			writeText(s, v.Slice(0, v.Cap()).Index(i))
		}
		s.WriteString("]")
	default:
		fmt.Fprintf(s, "%#v ", v)
	}
}

// block is the memory of a list, with what lies behind its length.
type block struct{ start, end uintptr }

func blocks(v reflect.Value) []block {
	var l []block
	switch v.Kind() {
	case reflect.Struct:
		for i := range v.NumField() {
			l = append(l, blocks(v.Field(i))...)
		}
	case reflect.Slice:
		if v.Cap() > 0 {
			l = append(l, block{v.Pointer(), v.Pointer() + uintptr(v.Cap())*v.Type().Elem().Size()})
		}
		for i := range v.Len() {
			l = append(l, blocks(v.Index(i))...)
		}
	}
	return l
}

// expectApart expects that no two lists of answers share memory, and that they share none with an argument.
func expectApart(t *testing.T, what string, answers []any, arguments ...any) {
	t.Helper()
	var own []block
	for _, x := range answers {
		own = append(own, blocks(reflect.ValueOf(x))...)
	}
	all := slices.Clone(own)
	for _, x := range arguments {
		all = append(all, blocks(reflect.ValueOf(x))...)
	}
	for i, a := range own {
		for _, b := range all[i+1:] {
			if a.start < b.end && b.start < a.end {
				t.Errorf("%s: lists share memory", what)
				return
			}
		}
	}
}

// spare answers a copy of a list in which the given elements lie behind its length.
func spare[T any](l []T, behind ...T) []T { return slices.Concat(l, behind)[:len(l)] }

func fields(widths ...int) []api.Field {
	var l []api.Field
	for i, w := range widths {
		l = append(l, api.Field{Name: fmt.Sprint("f", i), Width: w})
	}
	return l
}

func header(widths ...int) api.Header { return api.Header{Fields: fields(widths...)} }

// sample answers a program with two registers, whose metadata have the widths 8, 8 and 1 and then the given ones. It is
// valid if all widths are, each header is of whole bytes, and there are not too many of anything.
func sample(metadata []int, headers ...api.Header) api.Program {
	p := api.Program{
		Name:      "p",
		Headers:   headers,
		Metadata:  fields(slices.Concat([]int{8, 8, 1}, metadata)...),
		Registers: []api.Register{{Name: "r", Width: 8, Size: 4}, {Name: "s", Width: 1, Size: 1}},
		States:    []api.ParserState{{Name: "s", Default: api.Accept}},
	}
	for i, name := range []string{"in", "out", "drop"} {
		p.Metadata[i].Name = name
	}
	for i := range p.Headers {
		p.Headers[i].Name = fmt.Sprint("h", i)
	}
	return p
}

func widths(l ...int) []int { return l }

// cell answers what the cells of p hold but for the registers: their fields with their declared widths. The validity
// bit of a header has no field.
type cell struct {
	header, field, width int
	validity             bool
}

func cellsOf(p api.Program) []cell {
	var l []cell
	for h, x := range p.Headers {
		for f, y := range x.Fields {
			l = append(l, cell{header: h, field: f, width: y.Width})
		}
	}
	for h := range p.Headers {
		l = append(l, cell{header: h, width: 1, validity: true})
	}
	for f, y := range p.Metadata {
		l = append(l, cell{header: api.Metadata, field: f, width: y.Width})
	}
	return l
}

func (c cell) ref() api.FieldRef { return api.FieldRef{Header: c.header, Field: c.field} }

// containers answers a chip with the given numbers of containers.
func containers(c8, c16, c32 int) api.Chip { return api.Chip{Stages: 1, C8: c8, C16: c16, C32: c32} }

func all() api.Chip { return containers(64, 64, 64) }

func slot(size, index, offset, width int) api.Slot {
	return api.Slot{Size: size, Index: index, Offset: offset, Width: width}
}

func slots(l ...api.Slot) []api.Slot { return l }

// isValid is the chapter's definition of a valid slot. Numbers that are too great to be added are left out first.
func isValid(s api.Slot) bool {
	if s.Size != 8 && s.Size != 16 && s.Size != 32 || s.Index < 0 || s.Index > 63 || s.Offset < 0 || s.Width < 1 {
		return false
	}
	return s.Offset <= 32 && s.Width <= 32 && s.Offset+s.Width <= s.Size
}

// wrongSlots answers slots that are not valid, each for one reason alone.
func wrongSlots() []api.Slot {
	var l []api.Slot
	for _, size := range append([]int{0, 1, 4, 7, 9, 12, 15, 17, 24, 31, 33, 128}, wrongNumbers...) {
		l = append(l, slot(size, 0, 0, 1), slot(size, 1, 3, 2))
	}
	for _, size := range []int{8, 16, 32} {
		for _, n := range wrongNumbers {
			l = append(l, slot(size, n, 0, 1), slot(size, 0, n, 1), slot(size, 0, 0, n), slot(size, 0, n, size), slot(size, 1, size-1, n))
		}
		l = append(l, slot(size, 0, 0, 0), slot(size, 0, 3, 0), slot(size, 0, 0, -1), slot(size, 0, size, 1), slot(size, 0, -1, 2))
		l = append(l, slot(size, 0, 0, size+1), slot(size, 0, 1, size), slot(size, 0, size-1, 2), slot(size, 64, 0, size))
		l = append(l, slot(size, 0, math.MaxInt, math.MaxInt), slot(size, 0, math.MaxInt, 1), slot(size, 0, 1, math.MaxInt), slot(size, 0, 2, math.MaxInt-1))
	}
	return append(l, slot(0, 0, 0, 0), slot(8, 0, 0, 9), slot(8, 0, 0, 16), slot(16, 0, 8, 9), slot(16, 0, 0, 32), slot(32, 0, 31, 2))
}

// randomHeader answers a valid header of at most n fields.
func randomHeader(r *random, n int) api.Header {
	var l []int
	total := 0
	for range 1 + r.below(n) {
		w := pick(r, []int{1, 1, 2, 7, 8, 9, 15, 16, 17, 31, 32, 1 + r.below(32)})
		l = append(l, w)
		total += w
	}
	if rest := total % 8; rest != 0 {
		l = append(l, 8-rest)
	}
	return header(l...)
}

// randomProgram answers a valid program.
func randomProgram(r *random) api.Program {
	var h []api.Header
	few := 1 + r.below(3)
	for range r.below(9) / few {
		h = append(h, randomHeader(r, 10/few))
	}
	var m []int
	for range r.below(10) {
		m = append(m, pick(r, []int{1, 1, 1, 8, 12, 16, 20, 32, 1 + r.below(32)}))
	}
	p := sample(m, h...)
	p.Registers = p.Registers[:r.below(3)]
	return p
}

// anyProgram answers a program of any shape, its widths valid or not.
func anyProgram(r *random) api.Program {
	var p api.Program
	list := func() []api.Field {
		var l []int
		for range r.below(5) {
			w := 1 + r.below(32)
			if r.chance(5) {
				w = pick(r, append([]int{0, 33}, wrongNumbers...))
			}
			l = append(l, w)
		}
		return fields(l...)
	}
	for range r.below(4) {
		p.Headers = append(p.Headers, api.Header{Fields: list()})
	}
	p.Metadata = list()
	p.Registers = make([]api.Register, r.below(3))
	return p
}

// randomSlot answers a slot that is valid more often than not, in one of few containers.
func randomSlot(r *random) api.Slot {
	if r.chance(8) {
		return pick(r, wrongSlots())
	}
	size := pick(r, []int{8, 16, 32})
	s := slot(size, r.below(4), 0, 1+r.below(size))
	if r.chance(30) {
		s.Index = 60 + r.below(4)
	}
	s.Offset = r.below(size - s.Width + 1)
	return s
}

func randomSlots(r *random, n int) []api.Slot {
	var l []api.Slot
	for range max(0, n+r.below(6)-2) {
		l = append(l, randomSlot(r))
	}
	return l
}

// goodEnv answers an environment that env.Check accepts.
func goodEnv(r *random, p api.Program) api.Env {
	e := env.New(p)
	for h := range p.Headers {
		e.Valid[h] = r.chance(2)
	}
	for _, c := range cellsOf(p) {
		if !c.validity {
			e = env.Set(p, e, c.ref(), pick(r, []uint32{r.bits(), math.MaxUint32, 0, 1}))
		}
	}
	for range r.below(5) {
		e.Payload = append(e.Payload, byte(r.bits()))
	}
	return e
}

// anyEnv answers an environment of about the shape of p's, with values that needn't fit.
func anyEnv(r *random, p api.Program) api.Env {
	e := api.Env{Payload: []byte{1, 2}}
	for range max(0, len(p.Headers)+r.below(5)-2) {
		e.Valid = append(e.Valid, !r.chance(3))
	}
	values := func(n int) []uint32 {
		var l []uint32
		for range max(0, n+r.below(5)-2) {
			l = append(l, pick(r, []uint32{r.bits(), math.MaxUint32}))
		}
		return l
	}
	for h := range max(0, len(p.Headers)+r.below(5)-2) {
		n := 1
		if h < len(p.Headers) {
			n = len(p.Headers[h].Fields)
		}
		e.Fields = append(e.Fields, values(n))
	}
	e.Meta = values(len(p.Metadata))
	return e
}

func randomBits(r *random, n int) []bool {
	var l []bool
	for range n {
		l = append(l, r.chance(2))
	}
	return l
}

func randomContainers(r *random) phv.Containers {
	list := func() []uint32 {
		var l []uint32
		for range r.below(5) {
			l = append(l, pick(r, []uint32{r.bits(), math.MaxUint32, 0, 1 << r.below(32)}))
		}
		return l
	}
	return phv.Containers{C8: list(), C16: list(), C32: list()}
}

func sameContainers(a, b phv.Containers) bool {
	return slices.Equal(a.C8, b.C8) && slices.Equal(a.C16, b.C16) && slices.Equal(a.C32, b.C32)
}

// TestSample expects that random programs are valid, that the tests' cells are those of access, and that there are
// valid and other random slots.
func TestSample(t *testing.T) {
	r := random(1)
	counts := map[int]bool{}
	for i := range 2000 {
		p := randomProgram(&r)
		if d := program.Check(p); d.Code != api.OK {
			t.Fatalf("the program %+v: %v", p, d)
		}
		if i%2 == 0 {
			p = anyProgram(&r)
		}
		l := cellsOf(p)
		counts[len(l)] = true
		if n := access.Cells(p) - len(p.Registers); n != len(l) {
			t.Errorf("%d cells, want %d", len(l), n)
		}
		for i, c := range l {
			if c.validity && access.ValidCell(p, c.header) != i || !c.validity && access.FieldCell(p, c.ref()) != i {
				t.Errorf("cell %d is %+v", i, c)
			}
		}
	}
	valid := 0
	for range 1000 {
		if isValid(randomSlot(&r)) {
			valid++
		}
	}
	for _, s := range wrongSlots() {
		if isValid(s) {
			t.Errorf("%+v is valid", s)
		}
	}
	if len(counts) < 60 || valid < 800 || valid > 950 {
		t.Errorf("the numbers of cells are %v; of 1000 slots %d are valid", counts, valid)
	}
}
