package deps_test

import (
	"fmt"
	"math"
	"reflect"
	"slices"
	"strings"
	"testing"

	"patchbay/access"
	"patchbay/api"
)

var wrongNumbers = []int{math.MinInt, -1 << 32, -2, -1, 99, 1 << 32, 1<<32 + 1, math.MaxInt}

// wrongKinds are elements of a matrix that count as no dependency.
var wrongKinds = []int{math.MinInt, -1 << 32, -2, -1, 3, 4, 257, 258, 1 << 32, 1<<32 + 1, 1<<32 + 2, math.MaxInt}

// random is a row of numbers that look like no rule, the same ones for the same seed.
type random uint64

func (r *random) bits() uint32 {
	*r = *r*6364136223846793005 + 1442695040888963407
	return uint32(*r >> 32)
}

func (r *random) below(n int) int { return int(r.bits()>>4) % n }

func (r *random) chance(n int) bool { return r.below(n) == 0 }

func pick[T any](r *random, l []T) T { return l[r.below(len(l))] }

// text writes values with all that lies behind the lengths of their lists.
func text(l ...any) string {
	var s strings.Builder
	for _, x := range l {
		writeText(&s, reflect.ValueOf(x))
	}
	return s.String()
}

func writeText(s *strings.Builder, v reflect.Value) {
	switch v.Kind() {
	case reflect.Struct:
		for i := range v.NumField() {
			writeText(s, v.Field(i))
		}
	case reflect.Slice:
		fmt.Fprintf(s, "[%d:", v.Len())
		for i := range v.Cap() {
			writeText(s, v.Slice(0, v.Cap()).Index(i))
		}
		s.WriteString("]")
	default:
		fmt.Fprintf(s, "%#v ", v)
	}
}

// spare answers a copy of a list in which the given elements lie behind its length.
func spare[T any](l []T, behind ...T) []T { return slices.Concat(l, behind)[:len(l)] }

// sample is a program with two headers of two fields, six metadata fields, two registers and no tables.
func sample() api.Program {
	byteFields := func(names ...string) []api.Field {
		var l []api.Field
		for _, n := range names {
			l = append(l, api.Field{Name: n, Width: 8})
		}
		return l
	}
	p := api.Program{
		Headers:   []api.Header{{Name: "g", Fields: byteFields("a", "b")}, {Name: "h", Fields: byteFields("a", "b")}},
		Metadata:  byteFields("in", "out", "drop", "m3", "m4", "m5"),
		Registers: []api.Register{{Name: "r", Width: 8, Size: 4}, {Name: "s", Width: 8, Size: 4}},
	}
	p.Metadata[api.MetaDrop].Width = 1
	return p
}

func ref(header, field int) api.FieldRef { return api.FieldRef{Header: header, Field: field} }

func meta(field int) api.FieldRef { return ref(api.Metadata, field) }

func one() []api.ExprNode { return []api.ExprNode{{Op: api.ExprConst, N: 1, W: 8}} }

func field(r api.FieldRef) []api.ExprNode {
	return []api.ExprNode{{Op: api.ExprField, N: r.Header, W: r.Field}}
}

func set(dst api.FieldRef) api.Statement {
	return api.Statement{Kind: api.StmtAssign, Dst: dst, Value: one()}
}

func add(h int) api.Statement { return api.Statement{Kind: api.StmtAddHeader, Header: h} }

func remove(h int) api.Statement { return api.Statement{Kind: api.StmtRemoveHeader, Header: h} }

func load(dst api.FieldRef, register int) api.Statement {
	return api.Statement{Kind: api.StmtRead, Dst: dst, Register: register, Index: one()}
}

func keep(register int, value []api.ExprNode) api.Statement {
	return api.Statement{Kind: api.StmtWrite, Register: register, Index: one(), Value: value}
}

func keys(l ...api.FieldRef) []api.FieldRef { return l }

// with answers p with one more table, which has the given keys and one action of the given body.
func with(p api.Program, keys []api.FieldRef, body ...api.Statement) api.Program {
	n := len(p.Actions)
	x := api.Table{Name: fmt.Sprint("t", len(p.Tables)), Actions: []int{n}, Default: api.ActionCall{Action: n}, Size: 4}
	for _, r := range keys {
		x.Keys = append(x.Keys, api.TableKey{Field: r, Kind: api.MatchExact})
	}
	p.Actions = append(slices.Clip(p.Actions), api.Action{Name: fmt.Sprint("a", n), Body: body})
	p.Tables = append(slices.Clip(p.Tables), x)
	return p
}

func yes(unit int) api.Guard { return api.Guard{Unit: unit, Want: true} }

func no(unit int) api.Guard { return api.Guard{Unit: unit, Want: false} }

func table(t int, g ...api.Guard) api.Unit { return api.Unit{Table: t, Guards: g} }

func gate(cond []api.ExprNode, g ...api.Guard) api.Unit {
	return api.Unit{Table: -1, Cond: cond, Guards: g}
}

// isZero is a condition on a field.
func isZero(r api.FieldRef) []api.ExprNode {
	return slices.Concat([]api.ExprNode{{Op: api.ExprEqual}}, field(r), []api.ExprNode{{Op: api.ExprConst, N: 0, W: 8}})
}

// cell answers the number of a field's cell.
func cell(r api.FieldRef) int { return access.FieldCell(sample(), r) }

// lists answers a matrix of n rows, each as far as the last dependency that l tells: from, to, kind.
func lists(n int, l ...[3]int) [][]int {
	d := make([][]int, n)
	for _, x := range l {
		for len(d[x[0]]) <= x[1] {
			d[x[0]] = append(d[x[0]], 0)
		}
		d[x[0]][x[1]] = x[2]
	}
	return d
}

// follow answers the dependency LaterStage of j on i, beside answers SameStage.
func follow(i, j int) [3]int { return [3]int{i, j, 2} }

func beside(i, j int) [3]int { return [3]int{i, j, 1} }

// element is the chapter's definition of a dependency matrix, word by word.
func element(d [][]int, i, j int) int {
	if i >= j || j >= len(d) || j >= len(d[i]) {
		return 0
	}
	if d[i][j] != 1 && d[i][j] != 2 {
		return 0
	}
	return d[i][j]
}

// randomMatrix answers a matrix of at most n units, its rows of any length, with elements of any kind at any place.
func randomMatrix(r *random, n int) [][]int {
	d := make([][]int, r.below(n+1))
	often := 1 + r.below(6) // how seldom there is a dependency
	for i := range d {
		length := len(d)
		if r.chance(4) {
			length = r.below(len(d) + 4)
		}
		for range length {
			kind := 0
			switch {
			case r.chance(often):
				kind = 1 + r.below(2)
			case r.chance(4):
				kind = pick(r, wrongKinds)
			}
			d[i] = append(d[i], kind)
		}
		d[i] = spare(d[i], 2, 1, 2)
	}
	return spare(d, []int{2, 2}, []int{2, 2, 2})
}

// plain answers the matrix that means the same as d, without what is ignored.
func plain(d [][]int) [][]int {
	all := make([][]int, len(d))
	for i := range d {
		for j := range d {
			all[i] = append(all[i], element(d, i, j))
		}
	}
	return all
}

// expectList expects what f answers to a matrix, and that own, the tests' own words for it, answers the same.
func expectList(t *testing.T, what string, f, own func(d [][]int) []int, d [][]int, want []int) {
	t.Helper()
	before := text(d)
	l := f(d)
	if !slices.Equal(l, want) {
		t.Errorf("%s of %v answers %v, want %v", what, d, l, want)
	}
	for i := range l[:cap(l)] { // what is done with an answer shows nowhere else
		l[:cap(l)][i] = 7
	}
	if text(d) != before {
		t.Errorf("%s: the matrix is changed", what)
	}
	if again := f(d); !slices.Equal(again, want) {
		t.Errorf("%s: the second answer is %v, want %v", what, again, want)
	}
	if x := own(d); !slices.Equal(x, want) {
		t.Errorf("%s: the tests' own answer: %v, want %v", what, x, want)
	}
}

// TestSample expects that the elements of random matrices are of all kinds, and that the sample's cells are apart.
func TestSample(t *testing.T) {
	r := random(1)
	kinds := map[int]int{}
	for range 1000 {
		d := randomMatrix(&r, 7)
		for i := range d {
			for j := range d {
				kinds[element(d, i, j)]++
			}
		}
	}
	if len(kinds) != 3 || kinds[1] < 500 || kinds[2] < 500 {
		t.Errorf("the elements are %v", kinds)
	}
	if n := access.Cells(sample()); n != 14 || cell(ref(1, 1)) != 3 || cell(meta(5)) != 11 {
		t.Errorf("the sample has %d cells, {1, 1} is %d, {Metadata, 5} is %d", n, cell(ref(1, 1)), cell(meta(5)))
	}
}
