package program_test

import (
	"fmt"
	"math"
	"reflect"
	"slices"
	"strconv"
	"strings"

	"patchbay/api"
)

var wrongNumbers = []int{math.MinInt, -1 << 32, -3, -2, -1, 0, 1, 2, 3, 8, 33, 99, 257, 1 << 32, 1<<32 + 1, math.MaxInt}

const longName = "abcdefghijklmn_9" // of MaxName bytes

var wrongNames = []string{"", " ", "9", "_a", "a b", "a.b", "é", "aé", "a\xff", "a\x00", longName + "x", strings.Repeat("x", 1000)}

// random is a row of numbers that look like no rule, the same ones for the same seed.
type random uint64

func (r *random) bits() uint32 {
	*r = *r*6364136223846793005 + 1442695040888963407
	return uint32(*r >> 32)
}

func (r *random) below(n int) int { return int(r.bits()>>4) % n }

func pick[T any](r *random, l []T) T { return l[r.below(len(l))] }

type nodes = []api.ExprNode

func constant(n, w int) nodes { return nodes{{Op: api.ExprConst, N: n, W: w}} }

func field(header, field int) nodes { return nodes{{Op: api.ExprField, N: header, W: field}} }

func param(i int) nodes { return nodes{{Op: api.ExprParam, N: i}} }

func valid(header int) nodes { return nodes{{Op: api.ExprValid, N: header}} }

func at(header, field int) api.FieldRef { return api.FieldRef{Header: header, Field: field} }

func goodMetadata() []api.Field {
	return []api.Field{{Name: "in", Width: 8}, {Name: "out", Width: 8}, {Name: "drop", Width: 1}}
}

// sample answers a valid program with every kind of part, statement, key, transition and node.
func sample() api.Program {
	return api.Program{
		Name: "p",
		Headers: []api.Header{
			{Name: "h", Fields: []api.Field{{Name: "a", Width: 8}, {Name: "b", Width: 4}, {Name: "c", Width: 4}}},
			{Name: "g", Fields: []api.Field{{Name: "a", Width: 16}, {Name: "y", Width: 32}}},
			{Name: longName, Fields: []api.Field{{Name: "h", Width: 8}}},
		},
		Metadata:  append(goodMetadata(), api.Field{Name: "count", Width: 16}, api.Field{Name: "h", Width: 32}),
		Registers: []api.Register{{Name: "r", Width: 8, Size: 4}, {Name: "h", Width: 16, Size: api.MaxRegSize}},
		Actions: []api.Action{
			{Name: "nop"},
			{Name: "set", Params: []api.Field{{Name: "v", Width: 8}, {Name: "w", Width: 16}}, Body: []api.Statement{
				{Kind: api.StmtAssign, Dst: at(0, 0), Value: param(0)},
				{Kind: api.StmtAddHeader, Header: 1},
				{Kind: api.StmtRead, Dst: at(-1, 3), Register: 1, Index: append(nodes{{Op: api.ExprAdd}}, append(param(0), constant(1, 8)...)...)},
				{Kind: api.StmtWrite, Register: 0, Index: field(0, 1), Value: field(0, 0)},
				{Kind: api.StmtRemoveHeader, Header: 2},
			}},
			{Name: "h", Params: []api.Field{{Name: "h", Width: 1}}, Body: []api.Statement{{Kind: api.StmtAssign, Dst: at(-1, 2), Value: param(0)}}},
		},
		Tables: []api.Table{
			{Name: "t", Keys: []api.TableKey{{Field: at(0, 0), Kind: api.MatchExact}, {Field: at(1, 0), Kind: api.MatchLPM}, {Field: at(-1, 3), Kind: api.MatchTernary}},
				Actions: []int{1, 0}, Default: api.ActionCall{Action: 1, Args: []uint32{255, 65535}}, Size: 16},
			{Name: "u", Actions: []int{0}, Size: 1},
			{Name: "h", Keys: []api.TableKey{{Field: at(2, 0), Kind: api.MatchExact}}, Actions: []int{2}, Default: api.ActionCall{Action: 2, Args: []uint32{1}}, Size: api.MaxRows},
		},
		States: []api.ParserState{
			{Name: "start", Extract: []int{0}, Select: true, On: at(0, 0), Cases: []api.SelectCase{{Value: 1, Mask: 255, Next: 1}, {Value: 2, Mask: 2, Next: api.Accept}}, Default: api.Reject},
			{Name: "more", Extract: []int{1, 2}, Default: 2},
			{Name: "h", Select: true, On: at(-1, 4), Default: api.Accept},
		},
		Control: []api.ControlNode{
			{Kind: api.ControlIf, Cond: valid(1), Then: []api.ControlNode{{Kind: api.ControlApply, Table: 0}},
				Else: []api.ControlNode{{Kind: api.ControlHit, Table: 1, Then: []api.ControlNode{{Kind: api.ControlApply, Table: 2}}}}},
			{Kind: api.ControlIf, Cond: field(-1, 2)},
		},
		Deparser: []int{2, 0, 1},
	}
}

// text writes a program with all that lies behind the lengths of its lists.
func text(p api.Program) string {
	var s strings.Builder
	write(&s, reflect.ValueOf(p))
	return s.String()
}

func write(s *strings.Builder, v reflect.Value) {
	switch v.Kind() {
	case reflect.Struct:
		for i := range v.NumField() {
			write(s, v.Field(i))
		}
	case reflect.Slice:
		fmt.Fprintf(s, "[%d:", v.Len())
		for i := range v.Cap() {
			write(s, v.Slice(0, v.Cap()).Index(i))
		}
		s.WriteString("]")
	case reflect.String:
		s.WriteString(strconv.Quote(v.String()))
	default:
		fmt.Fprint(s, v, " ")
	}
}

// place is a number, text, bool or list of a program, with the way to it.
type place struct {
	way   string
	value reflect.Value
}

// places answers all places of a program, by way of which it can be changed.
func places(p *api.Program) []place {
	var l []place
	var visit func(way string, v reflect.Value)
	visit = func(way string, v reflect.Value) {
		switch v.Kind() {
		case reflect.Struct:
			for i := range v.NumField() {
				visit(way+"."+v.Type().Field(i).Name, v.Field(i))
			}
			return
		case reflect.Slice:
			for i := range v.Len() {
				visit(way+"["+strconv.Itoa(i)+"]", v.Index(i))
			}
		}
		l = append(l, place{way, v})
	}
	visit("p", reflect.ValueOf(p).Elem())
	return l
}

// deepCopy answers a copy that shares no memory, by way of reflection. Where it has no elements, a list of the copy is
// nil or not as empty says.
func deepCopy(p api.Program, empty bool) api.Program {
	return copied(reflect.ValueOf(p), empty).Interface().(api.Program)
}

func copied(v reflect.Value, empty bool) reflect.Value {
	c := reflect.New(v.Type()).Elem()
	switch v.Kind() {
	case reflect.Struct:
		for i := range v.NumField() {
			c.Field(i).Set(copied(v.Field(i), empty))
		}
	case reflect.Slice:
		if v.Len() > 0 || empty {
			c.Set(reflect.MakeSlice(v.Type(), v.Len(), v.Len()))
		}
		for i := range v.Len() {
			c.Index(i).Set(copied(v.Index(i), empty))
		}
	default:
		c.Set(v)
	}
	return c
}

// same tells whether two programs are equal, where nil is an empty list.
func same(a, b api.Program) bool {
	return reflect.DeepEqual(deepCopy(a, true), deepCopy(b, true))
}

// damage changes one place of a program in some way.
func damage(r *random, p *api.Program) {
	l := places(p)
	v := pick(r, l).value
	switch v.Kind() {
	case reflect.String:
		all := append(slices.Clone(wrongNames), "h", "g", "in", "out", "drop", "meta", "r", "t", "start", longName, "other")
		v.SetString(pick(r, all))
	case reflect.Int:
		v.SetInt(int64(pick(r, append(slices.Clone(wrongNumbers), int(v.Int())+1, int(v.Int())-1, 4, 5, 6, 7, 16))))
	case reflect.Uint32:
		v.SetUint(uint64(pick(r, []uint32{0, 1, 2, 255, 256, 1 << 16, 1<<32 - 1})))
	case reflect.Bool:
		v.SetBool(!v.Bool())
	case reflect.Slice:
		damageList(r, v)
	}
}

func damageList(r *random, v reflect.Value) {
	n := v.Len()
	switch r.below(5) {
	case 0:
		v.SetZero()
	case 1:
		v.Set(reflect.Append(v.Slice3(0, n, n), reflect.Zero(v.Type().Elem())))
	case 2:
		v.Set(v.Slice(0, max(0, n-1)))
	case 3: // as long as the limits, or longer
		for n > 0 && v.Len() < 30 && r.below(12) > 0 {
			v.Set(reflect.Append(v.Slice3(0, v.Len(), v.Len()), copied(v.Index(r.below(n)), false)))
		}
	case 4:
		if n > 1 {
			i, j := v.Index(r.below(n)), v.Index(r.below(n))
			old := copied(i, false)
			i.Set(j)
			j.Set(old)
		}
	}
}
