package units_test

import (
	"fmt"
	"math"
	"reflect"
	"slices"
	"strings"
	"testing"

	"patchbay/api"
	"patchbay/control"
)

var wrongNumbers = []int{math.MinInt, -1 << 32, -2, -1, 99, 1 << 32, 1<<32 + 1, math.MaxInt}

var wrongKinds = []int{math.MinInt, -1, 0, 4, 5, 257, 1 << 32, 1<<32 + 1, math.MaxInt}

// random is a row of numbers that look like no rule, the same ones for the same seed.
type random uint64

func (r *random) bits() uint32 {
	*r = *r*6364136223846793005 + 1442695040888963407
	return uint32(*r >> 32)
}

func (r *random) below(n int) int { return int(r.bits()>>4) % n }

func (r *random) chance(n int) bool { return r.below(n) == 0 }

func pick[T any](r *random, l []T) T { return l[r.below(len(l))] }

type nodes = []api.ControlNode

func list(l ...api.ControlNode) nodes { return l }

func apply(table int) api.ControlNode { return api.ControlNode{Kind: api.ControlApply, Table: table} }

func hit(table int, then, otherwise nodes) api.ControlNode {
	return api.ControlNode{Kind: api.ControlHit, Table: table, Then: then, Else: otherwise}
}

func when(cond []api.ExprNode, then, otherwise nodes) api.ControlNode {
	return api.ControlNode{Kind: api.ControlIf, Cond: cond, Then: then, Else: otherwise}
}

// cond answers a valid condition, another one for each number from 0 to 255.
func cond(i int) []api.ExprNode {
	return []api.ExprNode{{Op: api.ExprEqual}, {Op: api.ExprConst, N: i, W: 8}, {Op: api.ExprField, N: -1, W: 0}}
}

func guards(l ...api.Guard) []api.Guard { return l }

func yes(unit int) api.Guard { return api.Guard{Unit: unit, Want: true} }

func no(unit int) api.Guard { return api.Guard{Unit: unit, Want: false} }

func table(t int, g ...api.Guard) api.Unit { return api.Unit{Table: t, Guards: g} }

func gate(c []api.ExprNode, g ...api.Guard) api.Unit { return api.Unit{Table: -1, Cond: c, Guards: g} }

// sample is a program of which only the control flow is valid.
func sample(c ...api.ControlNode) api.Program {
	return api.Program{
		Headers:  []api.Header{{Name: "h", Fields: []api.Field{{Name: "a", Width: 8}}}},
		Metadata: []api.Field{{Name: "in", Width: 8}},
		Tables:   make([]api.Table, api.MaxControl),
		Control:  c,
	}
}

// nested answers a list of the given nesting, its branches Then and Else by turns.
func nested(depth int, innermost api.ControlNode) nodes {
	l := list(innermost)
	for i := range depth - 1 {
		if i%2 == 0 {
			l = list(when(cond(i), l, nil))
			continue
		}
		l = list(hit(i, nil, l))
	}
	return l
}

// randomList answers valid nodes, each table and each condition in one of them. left counts the nodes that there may yet be.
func randomList(r *random, left *int, depth int) nodes {
	var l nodes
	for range 1 + r.below(4) {
		if *left == 0 {
			return l
		}
		*left--
		n := api.ControlNode{Kind: 1 + r.below(3), Table: *left, Cond: cond(*left)}
		if n.Kind != api.ControlApply && depth < api.MaxNesting {
			if !r.chance(4) {
				n.Then = randomList(r, left, depth+1)
			}
			if !r.chance(4) {
				n.Else = randomList(r, left, depth+1)
			}
		}
		l = append(l, n)
	}
	return l
}

// randomProgram answers a program with a valid control flow.
func randomProgram(r *random) api.Program {
	left := r.below(api.MaxControl + 1)
	return sample(randomList(r, &left, 1)...)
}

// text writes values with all that lies behind the lengths of their lists.
func text(l ...any) string {
	var s strings.Builder
	for _, x := range l {
		write(&s, reflect.ValueOf(x))
	}
	return s.String()
}

func write(s *strings.Builder, v reflect.Value) {
	switch v.Kind() {
	case reflect.Struct:
		for i := range v.NumField() {
			write(s, v.Field(i))
		}
	case reflect.Slice:
		fmt.Fprintf(s, "[%d:", v.Len())
		for i := range v.Cap() {
			write(s, v.Slice(0, v.Cap()).Index(i))
		}
		s.WriteString("]")
	default:
		fmt.Fprintf(s, "%#v ", v)
	}
}

// copied answers a copy that shares no memory, with some spare memory behind each list.
func copied[T any](x T) T { return copyOf(reflect.ValueOf(x)).Interface().(T) }

func copyOf(v reflect.Value) reflect.Value {
	c := reflect.New(v.Type()).Elem()
	switch v.Kind() {
	case reflect.Struct:
		for i := range v.NumField() {
			c.Field(i).Set(copyOf(v.Field(i)))
		}
	case reflect.Slice:
		c.Set(reflect.MakeSlice(v.Type(), v.Len(), v.Len()+2))
		for i := range v.Len() {
			c.Index(i).Set(copyOf(v.Index(i)))
		}
	default:
		c.Set(v)
	}
	return c
}

// same tells whether two values are equal, where nil is an empty list.
func same[T any](a, b T) bool { return reflect.DeepEqual(copied(a), copied(b)) }

// block is the memory of a list, with what lies behind its length.
type block struct{ start, end uintptr }

func blocks(v reflect.Value) []block {
	var l []block
	switch v.Kind() {
	case reflect.Struct:
		for i := range v.NumField() {
			l = append(l, blocks(v.Field(i))...)
		}
	case reflect.Slice:
		if v.Cap() > 0 {
			l = append(l, block{v.Pointer(), v.Pointer() + uintptr(v.Cap())*v.Type().Elem().Size()})
		}
		for i := range v.Len() {
			l = append(l, blocks(v.Index(i))...)
		}
	}
	return l
}

// expectApart expects that no list of an answer shares memory with another one, or with one of p.
func expectApart(t *testing.T, what string, l []api.Unit, p api.Program) {
	t.Helper()
	own := blocks(reflect.ValueOf(l))
	all := slices.Concat(own, blocks(reflect.ValueOf(p)))
	for i, a := range own {
		for _, b := range all[i+1:] {
			if a.start < b.end && b.start < a.end {
				t.Errorf("%s: lists share memory", what)
				return
			}
		}
	}
}

// TestSample expects that the random control flows are valid, and of all sizes and nestings.
func TestSample(t *testing.T) {
	r := random(1)
	counts, nestings := map[int]bool{}, map[int]bool{}
	for range 2000 {
		p := randomProgram(&r)
		if at, e := control.Check(p); e != api.OK {
			t.Errorf("the control flow %+v: %d, %v", p.Control, at, e)
		}
		counts[control.Count(p.Control)], nestings[control.Nesting(p.Control)] = true, true
	}
	if len(counts) != api.MaxControl+1 || len(nestings) != api.MaxNesting+1 {
		t.Errorf("the counts are %v, the nestings %v", counts, nestings)
	}
}
