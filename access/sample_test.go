package access_test

import (
	"fmt"
	"math"
	"reflect"
	"slices"
	"strconv"
	"strings"
	"testing"

	"patchbay/action"
	"patchbay/api"
)

var wrongNumbers = []int{math.MinInt, -1 << 32, -3, -2, 99, 1 << 32, 1<<32 + 1, math.MaxInt}

var wrongWidths = []int{math.MinInt, -32, -1, 0, 33, 64, 1 << 32, 1<<32 + 8, math.MaxInt}

// random is a row of numbers that look like no rule, the same ones for the same seed.
type random uint64

func (r *random) bits() uint32 {
	*r = *r*6364136223846793005 + 1442695040888963407
	return uint32(*r >> 32)
}

func (r *random) below(n int) int { return int(r.bits()>>4) % n }

func (r *random) chance(n int) bool { return r.below(n) == 0 }

func pick[T any](r *random, l []T) T { return l[r.below(len(l))] }

func ref(header, field int) api.FieldRef { return api.FieldRef{Header: header, Field: field} }

func meta(field int) api.FieldRef { return ref(-1, field) }

func list(n ...api.ExprNode) []api.ExprNode { return n }

func con(n, w int) api.ExprNode { return api.ExprNode{Op: api.ExprConst, N: n, W: w} }

func fld(r api.FieldRef) api.ExprNode {
	return api.ExprNode{Op: api.ExprField, N: r.Header, W: r.Field}
}

func par(i int) api.ExprNode { return api.ExprNode{Op: api.ExprParam, N: i} }

func val(h int) api.ExprNode { return api.ExprNode{Op: api.ExprValid, N: h} }

func op(o int) api.ExprNode { return api.ExprNode{Op: o} }

func assign(dst api.FieldRef, value ...api.ExprNode) api.Statement {
	return api.Statement{Kind: api.StmtAssign, Dst: dst, Value: value}
}

func add(h int) api.Statement { return api.Statement{Kind: api.StmtAddHeader, Header: h} }

func remove(h int) api.Statement { return api.Statement{Kind: api.StmtRemoveHeader, Header: h} }

func read(dst api.FieldRef, r int, index ...api.ExprNode) api.Statement {
	return api.Statement{Kind: api.StmtRead, Dst: dst, Register: r, Index: index}
}

func write(r int, index []api.ExprNode, value ...api.ExprNode) api.Statement {
	return api.Statement{Kind: api.StmtWrite, Register: r, Index: index, Value: value}
}

func widths(l ...int) []api.Field {
	var fields []api.Field
	for i, w := range l {
		fields = append(fields, api.Field{Name: "f" + strconv.Itoa(i), Width: w})
	}
	return fields
}

// sample is a program whose table 0 has no keys and lists action 0, which has a parameter of 8 bits and the given body.
// Its cells: 0 to 2 the fields of header 0, 3 and 4 those of header 2 (header 1 has none), 5 to 7 the validity bits,
// 8 to 12 the metadata, 13 and 14 the registers.
func sample(body ...api.Statement) api.Program {
	return api.Program{
		Headers:   []api.Header{{Name: "a", Fields: widths(8, 4, 4)}, {Name: "b"}, {Name: "c", Fields: widths(16, 8)}},
		Metadata:  widths(8, 8, 1, 16, 3),
		Registers: []api.Register{{Name: "r", Width: 8, Size: 4}, {Name: "s", Width: 16, Size: 2}},
		Actions:   []api.Action{{Name: "act", Params: widths(8), Body: body}, {Name: "none"}},
		Tables:    []api.Table{{Name: "t", Actions: []int{0}}},
	}
}

// key answers a copy of p in which table 0 has the given keys.
func key(p api.Program, l ...api.FieldRef) api.Program {
	p = copied(p)
	for i, r := range l {
		p.Tables[0].Keys = append(p.Tables[0].Keys, api.TableKey{Field: r, Kind: 1 + i%3})
	}
	return p
}

// text writes values with all that lies behind the lengths of their lists.
func text(l ...any) string {
	var s strings.Builder
	for _, x := range l {
		writeText(&s, reflect.ValueOf(x))
	}
	return s.String()
}

func writeText(s *strings.Builder, v reflect.Value) {
	switch v.Kind() {
	case reflect.Struct:
		for i := range v.NumField() {
			writeText(s, v.Field(i))
		}
	case reflect.Slice:
		fmt.Fprintf(s, "[%d:", v.Len())
		for i := range v.Cap() {
			writeText(s, v.Slice(0, v.Cap()).Index(i))
		}
		s.WriteString("]")
	default:
		fmt.Fprintf(s, "%#v ", v)
	}
}

// copied answers a copy that shares no memory, with some spare memory behind each list.
func copied[T any](x T) T { return copyOf(reflect.ValueOf(x)).Interface().(T) }

func copyOf(v reflect.Value) reflect.Value {
	c := reflect.New(v.Type()).Elem()
	switch v.Kind() {
	case reflect.Struct:
		for i := range v.NumField() {
			c.Field(i).Set(copyOf(v.Field(i)))
		}
	case reflect.Slice:
		c.Set(reflect.MakeSlice(v.Type(), v.Len(), v.Len()+2))
		for i := range v.Len() {
			c.Index(i).Set(copyOf(v.Index(i)))
		}
	default:
		c.Set(v)
	}
	return c
}

// cellsOf names the cells of a program in the order of their numbers.
func cellsOf(p api.Program) []string {
	var l []string
	for h, x := range p.Headers {
		for f := range x.Fields {
			l = append(l, nameOf(ref(h, f)))
		}
	}
	for h := range p.Headers {
		l = append(l, validName(h))
	}
	for f := range p.Metadata {
		l = append(l, nameOf(meta(f)))
	}
	for r := range p.Registers {
		l = append(l, registerName(r))
	}
	return l
}

func nameOf(r api.FieldRef) string { return fmt.Sprintf("field %d %d", r.Header, r.Field) }

func validName(h int) string { return fmt.Sprintf("valid %d", h) }

func registerName(r int) string { return fmt.Sprintf("register %d", r) }

// numbersOf answers the numbers of the named cells, in order. Names of no cell are left out.
func numbersOf(p api.Program, names []string) []int {
	var l []int
	for c, name := range cellsOf(p) {
		if slices.Contains(names, name) {
			l = append(l, c)
		}
	}
	return l
}

// namesIn names the cells that an expression reads.
func namesIn(n []api.ExprNode) []string {
	var l []string
	for _, x := range n {
		switch x.Op {
		case api.ExprField:
			l = append(l, nameOf(ref(x.N, x.W)))
		case api.ExprValid:
			l = append(l, validName(x.N))
		}
	}
	return l
}

func ownerName(r api.FieldRef) string {
	if r.Header == api.Metadata {
		return ""
	}
	return validName(r.Header)
}

func headerNames(p api.Program, h int) []string {
	l := []string{validName(h)}
	for f := range p.Headers[h].Fields {
		l = append(l, nameOf(ref(h, f)))
	}
	return l
}

// touched names the cells that a statement reads, and those that it writes.
func touched(p api.Program, s api.Statement) (reads, writes []string) {
	switch s.Kind {
	case api.StmtAssign:
		return append(namesIn(s.Value), ownerName(s.Dst)), []string{nameOf(s.Dst)}
	case api.StmtAddHeader:
		return []string{validName(s.Header)}, headerNames(p, s.Header)
	case api.StmtRemoveHeader:
		return nil, headerNames(p, s.Header)
	case api.StmtRead:
		return append(namesIn(s.Index), ownerName(s.Dst), registerName(s.Register)), []string{nameOf(s.Dst)}
	}
	return append(namesIn(s.Index), namesIn(s.Value)...), []string{registerName(s.Register)}
}

// wantSets is P31.3 and P31.4 with P16.4, word by word.
func wantSets(p api.Program, u api.Unit) (reads, writes []int) {
	if u.Table == -1 {
		return numbersOf(p, namesIn(u.Cond)), nil
	}
	if u.Table < 0 || u.Table >= len(p.Tables) {
		return nil, nil
	}
	var r, w []string
	for _, k := range p.Tables[u.Table].Keys {
		r = append(r, nameOf(k.Field))
	}
	for _, i := range p.Tables[u.Table].Actions {
		if _, e := action.Check(p, i); e != api.OK {
			continue
		}
		for _, s := range p.Actions[i].Body {
			x, y := touched(p, s)
			r, w = append(r, x...), append(w, y...)
		}
	}
	return numbersOf(p, r), numbersOf(p, w)
}

// TestSample expects that the sample's cells are the ones that the other tests take them for.
func TestSample(t *testing.T) {
	want := []string{"field 0 0", "field 0 1", "field 0 2", "field 2 0", "field 2 1", "valid 0", "valid 1", "valid 2", "field -1 0", "field -1 1", "field -1 2", "field -1 3", "field -1 4", "register 0", "register 1"}
	if got := cellsOf(sample()); !slices.Equal(got, want) {
		t.Errorf("the cells are %v, want %v", got, want)
	}
}
