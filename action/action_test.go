package action_test

import (
	"fmt"
	"maps"
	"math"
	"slices"
	"strconv"
	"testing"

	"patchbay/action"
	"patchbay/api"
	"patchbay/env"
	"patchbay/expr"
	"patchbay/register"
)

var wrongWidths = []int{math.MinInt, -32, -1, 0, 33, 64, 1 << 32, 1<<32 + 8, math.MaxInt}

var wrongNames = []string{"", "1", "1a", "_", "_a", "a-b", "a b", " a", "a ", "a.b", "a\n", "a\x00", "\xff", "é", "aé", "seventeen_letters"}

var wrongKinds = []int{math.MinInt, -1, 0, 6, 7, 257, 1 << 32, 1<<32 + 1, math.MaxInt}

var wrongNumbers = []int{math.MinInt, -1 << 32, -2, 99, 1 << 32, math.MaxInt}

// random is a row of numbers that look like no rule, the same ones for the same seed.
type random uint64

func (r *random) bits() uint32 {
	*r = *r*6364136223846793005 + 1442695040888963407
	return uint32(*r >> 32)
}

func (r *random) below(n int) int { return int(r.bits()>>4) % n }

func pick[T any](r *random, l []T) T { return l[r.below(len(l))] }

func greatest(w int) uint32 { return uint32(uint64(1)<<w - 1) }

func ref(header, field int) api.FieldRef { return api.FieldRef{Header: header, Field: field} }

func meta(field int) api.FieldRef { return ref(-1, field) }

func list(n ...api.ExprNode) []api.ExprNode { return n }

func con(n, w int) api.ExprNode { return api.ExprNode{Op: api.ExprConst, N: n, W: w} }

func fld(r api.FieldRef) api.ExprNode {
	return api.ExprNode{Op: api.ExprField, N: r.Header, W: r.Field}
}

func par(i int) api.ExprNode { return api.ExprNode{Op: api.ExprParam, N: i} }

func val(h int) api.ExprNode { return api.ExprNode{Op: api.ExprValid, N: h} }

func op(o int) api.ExprNode { return api.ExprNode{Op: o} }

func assign(dst api.FieldRef, value ...api.ExprNode) api.Statement {
	return api.Statement{Kind: api.StmtAssign, Dst: dst, Value: value}
}

func add(h int) api.Statement { return api.Statement{Kind: api.StmtAddHeader, Header: h} }

func remove(h int) api.Statement { return api.Statement{Kind: api.StmtRemoveHeader, Header: h} }

func read(dst api.FieldRef, r int, index ...api.ExprNode) api.Statement {
	return api.Statement{Kind: api.StmtRead, Dst: dst, Register: r, Index: index}
}

func write(r int, index []api.ExprNode, value ...api.ExprNode) api.Statement {
	return api.Statement{Kind: api.StmtWrite, Register: r, Index: index, Value: value}
}

func widths(l ...int) []api.Field {
	var fields []api.Field
	for i, w := range l {
		fields = append(fields, api.Field{Name: "f" + strconv.Itoa(i), Width: w})
	}
	return fields
}

// sample is a program whose action 1 has parameters of 8, 4 and 32 bits and the given body. Metadata field 3 has the
// width of register 0, as has field 0 of header 1; metadata field 4 has that of register 1.
func sample(body ...api.Statement) api.Program {
	return api.Program{
		Headers:   []api.Header{{Name: "a", Fields: widths(8, 4, 4)}, {Name: "b", Fields: widths(16, 8)}, {Name: "c", Fields: widths(32)}},
		Metadata:  widths(8, 8, 1, 16, 3),
		Registers: []api.Register{{Name: "r", Width: 16, Size: 4}, {Name: "s", Width: 3, Size: 2}},
		Actions:   []api.Action{{Name: "none"}, {Name: "act", Params: widths(8, 4, 32), Body: body}, {Name: "1"}},
	}
}

// changedBy answers a program whose action 1 is changed.
func changedBy(change func(a *api.Action), body ...api.Statement) api.Program {
	p := sample(body...)
	change(&p.Actions[1])
	return p
}

// text writes any value with all that it points at, also behind the lengths of lists.
func text(v any) string {
	switch x := v.(type) {
	case api.Env:
		return fmt.Sprint(x.Valid[:cap(x.Valid)], wholeLists(x.Fields), x.Meta[:cap(x.Meta)], x.Payload[:cap(x.Payload)])
	case [][]uint32:
		return fmt.Sprint(wholeLists(x))
	case api.ActionCall:
		return fmt.Sprint(x.Action, x.Args[:cap(x.Args)])
	}
	return fmt.Sprintf("%+v", v)
}

func wholeLists(rs [][]uint32) [][]uint32 {
	var l [][]uint32
	for _, cells := range rs[:cap(rs)] {
		l = append(l, cells[:cap(cells)])
	}
	return l
}

func texts(l ...any) string {
	s := ""
	for _, v := range l {
		s += text(v) + "\n"
	}
	return s
}

func expectCheck(t *testing.T, p api.Program, i, at int, want api.Errno) {
	t.Helper()
	before := text(p)
	if n, e := action.Check(p, i); n != at || e != want {
		t.Errorf("Check(%+v, %d) = %d, %v, want %d, %v", p.Actions, i, n, e, at, want)
	}
	if text(p) != before {
		t.Error("Check changes the program")
	}
}

// P16.1: which actions there are
func TestCheckNumber(t *testing.T) {
	p := sample()
	expectCheck(t, p, 0, 0, api.OK)
	expectCheck(t, p, 1, 0, api.OK)
	expectCheck(t, p, 2, -1, api.ErrName)
	for _, i := range append([]int{-1, 3}, wrongNumbers...) {
		expectCheck(t, p, i, -1, api.ErrNotFound)
		expectCheck(t, api.Program{}, i, -1, api.ErrNotFound)
	}
	expectCheck(t, api.Program{}, 0, -1, api.ErrNotFound)
	p.Actions = p.Actions[:1]
	expectCheck(t, p, 1, -1, api.ErrNotFound)
}

// P16.1: the name of the action
func TestCheckName(t *testing.T) {
	wrong := add(99)
	for _, name := range wrongNames {
		expectCheck(t, changedBy(func(a *api.Action) { a.Name = name }), 1, -1, api.ErrName)
		expectCheck(t, changedBy(func(a *api.Action) { a.Name, a.Params = name, widths(0, 1, 1, 1, 1) }, wrong), 1, -1, api.ErrName)
	}
	for _, name := range []string{"a", "Z", "none", "f0", "sixteen_letters_"} {
		expectCheck(t, changedBy(func(a *api.Action) { a.Name = name }), 1, 0, api.OK)
	}
}

// P16.1: how many parameters and statements there may be
func TestCheckLimits(t *testing.T) {
	ones := slices.Repeat([]int{1}, 20)
	for params := range 8 {
		for _, size := range []int{0, 1, 11, 12, 13, 14, 500} {
			p := changedBy(func(a *api.Action) { a.Params = widths(ones[:params]...) }, slices.Repeat([]api.Statement{add(0)}, size)...)
			if params > 4 || size > 12 {
				expectCheck(t, p, 1, -1, api.ErrLimit)
				continue
			}
			expectCheck(t, p, 1, 0, api.OK)
		}
	}
	expectCheck(t, changedBy(func(a *api.Action) { a.Params = widths(0, 0, 0, 0, 0) }), 1, -1, api.ErrLimit)
	expectCheck(t, changedBy(func(a *api.Action) { a.Params = widths(0) }, slices.Repeat([]api.Statement{add(99)}, 13)...), 1, -1, api.ErrLimit)
	p := sample(slices.Repeat([]api.Statement{add(0)}, 13)...)
	p.Actions[1].Body = p.Actions[1].Body[:12]
	expectCheck(t, p, 1, 0, api.OK)
}

// P16.1: the parameters, in order
func TestCheckParams(t *testing.T) {
	param := func(name string, w int) api.Field { return api.Field{Name: name, Width: w} }
	for _, c := range []struct {
		params []api.Field
		want   api.Errno
	}{
		{[]api.Field{param("a", 1), param("b", 32), param("A", 1), param("sixteen_letters_", 1)}, api.OK},
		{[]api.Field{param("act", 8)}, api.OK},
		{[]api.Field{param("", 0)}, api.ErrName},
		{[]api.Field{param("a", 0), param("", 8)}, api.ErrWidth},
		{[]api.Field{param("", 8), param("a", 0)}, api.ErrName},
		{[]api.Field{param("a", 8), param("a", 8)}, api.ErrDuplicate},
		{[]api.Field{param("a", 8), param("a", 9)}, api.ErrDuplicate},
		{[]api.Field{param("a", 8), param("a", 0)}, api.ErrWidth},
		{[]api.Field{param("", 8), param("", 8)}, api.ErrName},
		{[]api.Field{param("a", 8), param("b", 8), param("c", 8), param("a", 8)}, api.ErrDuplicate},
		{[]api.Field{param("a", 8), param("b", 8), param("b", 8), param("", 8)}, api.ErrDuplicate},
		{[]api.Field{param("a", 8), param("b", 8), param("c", 33), param("b", 8)}, api.ErrWidth},
		{[]api.Field{param("a", 8), param("a", 8), param("c", 33)}, api.ErrDuplicate},
	} {
		at := -1
		if c.want == api.OK {
			at = 0
		}
		expectCheck(t, changedBy(func(a *api.Action) { a.Params = c.params }), 1, at, c.want)
		if c.want != api.OK {
			expectCheck(t, changedBy(func(a *api.Action) { a.Params = c.params }, add(99), op2()), 1, -1, c.want)
		}
	}
	for i := range 4 {
		for _, w := range wrongWidths {
			expectCheck(t, changedBy(func(a *api.Action) { a.Params = widths(8, 8, 8, 8); a.Params[i].Width = w }), 1, -1, api.ErrWidth)
		}
		for _, name := range wrongNames {
			expectCheck(t, changedBy(func(a *api.Action) { a.Params = widths(8, 8, 8, 8); a.Params[i].Name = name }), 1, -1, api.ErrName)
		}
		for j := range i {
			expectCheck(t, changedBy(func(a *api.Action) { a.Params = widths(8, 8, 8, 8); a.Params[i].Name = a.Params[j].Name }), 1, -1, api.ErrDuplicate)
		}
	}
	for w := 1; w <= 32; w++ {
		expectCheck(t, changedBy(func(a *api.Action) { a.Params = widths(w) }), 1, 0, api.OK)
	}
}

func op2() api.Statement { return api.Statement{Kind: 99} }

// expectStatement expects an error of a statement wherever in a body it stands, and whatever stands behind it.
func expectStatement(t *testing.T, change func(p *api.Program), s api.Statement, want api.Errno) {
	t.Helper()
	for size := range api.MaxBody {
		body := append(slices.Repeat([]api.Statement{add(0)}, size), s)
		if size == 4 {
			body = append(body, op2(), add(99), s)
			if want == api.OK {
				body = body[:5]
			}
		}
		p := sample(body...)
		change(&p)
		at := size
		if want == api.OK {
			at = 0
		}
		expectCheck(t, p, 1, at, want)
	}
}

func same(*api.Program) {}

// P16.1: the kinds
func TestCheckKinds(t *testing.T) {
	for _, k := range wrongKinds {
		expectStatement(t, same, api.Statement{Kind: k}, api.ErrKind)
		expectStatement(t, same, api.Statement{Kind: k, Dst: meta(0), Index: list(con(1, 8)), Value: list(con(1, 8))}, api.ErrKind)
	}
}

// faults is expressions with their errors, in the scope of sample's action 1.
func faults() []struct {
	n    []api.ExprNode
	want api.Errno
} {
	return []struct {
		n    []api.ExprNode
		want api.Errno
	}{
		{nil, api.ErrShort},
		{list(op(api.ExprNot)), api.ErrShort},
		{list(op(99)), api.ErrKind},
		{list(con(1, 0)), api.ErrWidth},
		{list(con(256, 8)), api.ErrRange},
		{list(par(3)), api.ErrNotFound},
		{list(par(-1)), api.ErrNotFound},
		{list(fld(ref(3, 0))), api.ErrNotFound},
		{list(fld(meta(5))), api.ErrNotFound},
		{list(val(3)), api.ErrNotFound},
		{list(op(api.ExprAdd), par(0), par(1)), api.ErrWidth},
		{list(con(1, 8), con(1, 8)), api.ErrLong},
		{slices.Repeat(list(con(1, 8)), 25), api.ErrLimit},
	}
}

// P16.1: StmtAssign
func TestCheckAssign(t *testing.T) {
	for _, r := range []api.FieldRef{ref(3, 0), ref(-2, 0), ref(0, 3), ref(0, -1), ref(1, 2), meta(5), meta(-1), ref(math.MinInt, 0), ref(math.MaxInt, 0), ref(1<<32, 0), ref(0, 1<<32), meta(math.MaxInt), meta(math.MinInt)} {
		expectStatement(t, same, assign(r, con(1, 8)), api.ErrNotFound)
		expectStatement(t, same, assign(r), api.ErrNotFound)
	}
	for _, f := range faults() {
		expectStatement(t, same, assign(ref(0, 0), f.n...), f.want)
		expectStatement(t, same, assign(meta(2), f.n...), f.want)
	}
	for _, c := range []struct {
		dst   api.FieldRef
		width int
	}{{ref(0, 0), 8}, {ref(0, 1), 4}, {ref(0, 2), 4}, {ref(1, 0), 16}, {ref(1, 1), 8}, {ref(2, 0), 32}, {meta(0), 8}, {meta(1), 8}, {meta(2), 1}, {meta(3), 16}, {meta(4), 3}} {
		for w := 1; w <= 32; w++ {
			want := api.ErrWidth
			if w == c.width {
				want = api.OK
			}
			expectStatement(t, same, assign(c.dst, con(1, w)), want)
		}
	}
	expectStatement(t, same, assign(ref(0, 0), par(0)), api.OK)
	expectStatement(t, same, assign(ref(0, 1), par(1)), api.OK)
	expectStatement(t, same, assign(ref(2, 0), par(2)), api.OK)
	expectStatement(t, same, assign(ref(0, 0), par(1)), api.ErrWidth)
	expectStatement(t, same, assign(meta(2), val(2)), api.OK)
}

// P16.1: StmtAssign to a field of a width that no value has
func TestCheckAssignToWrongWidth(t *testing.T) {
	for _, wrong := range wrongWidths {
		change := func(p *api.Program) { p.Headers[0].Fields[0].Width, p.Metadata[4].Width = wrong, wrong }
		for w := 1; w <= 32; w++ {
			expectStatement(t, change, assign(ref(0, 0), con(1, w)), api.ErrWidth)
			expectStatement(t, change, assign(meta(4), con(1, w)), api.ErrWidth)
		}
	}
}

// P16.1: StmtAddHeader, StmtRemoveHeader
func TestCheckHeaders(t *testing.T) {
	for h := range 3 {
		expectStatement(t, same, add(h), api.OK)
		expectStatement(t, same, remove(h), api.OK)
	}
	for _, h := range append([]int{-1, 3}, wrongNumbers...) {
		expectStatement(t, same, add(h), api.ErrNotFound)
		expectStatement(t, same, remove(h), api.ErrNotFound)
	}
	none := func(p *api.Program) { p.Headers[2] = api.Header{} }
	expectStatement(t, none, add(2), api.OK)
	expectStatement(t, none, remove(2), api.OK)
}

// P16.1: StmtRead
func TestCheckRead(t *testing.T) {
	for _, r := range []api.FieldRef{ref(3, 0), ref(-2, 0), ref(0, 3), ref(0, -1), meta(5), meta(-1), ref(math.MaxInt, 0), meta(math.MaxInt)} {
		expectStatement(t, same, read(r, 0, con(1, 8)), api.ErrNotFound)
		expectStatement(t, same, read(r, 99), api.ErrNotFound)
		expectStatement(t, same, read(r, 0, op(99)), api.ErrNotFound)
	}
	for _, i := range append([]int{-1, 2}, wrongNumbers...) {
		expectStatement(t, same, read(meta(3), i, con(1, 8)), api.ErrNotFound)
		expectStatement(t, same, read(meta(3), i), api.ErrNotFound)
	}
	for _, f := range faults() {
		expectStatement(t, same, read(meta(3), 0, f.n...), f.want)
		expectStatement(t, same, read(meta(0), 0, f.n...), f.want)
	}
	for w := 1; w <= 32; w++ {
		expectStatement(t, same, read(meta(3), 0, con(1, w)), api.OK)
		expectStatement(t, same, read(ref(1, 0), 0, con(1, w)), api.OK)
		expectStatement(t, same, read(meta(4), 1, con(1, w)), api.OK)
		for v := 1; v <= 32; v++ {
			want := api.ErrWidth
			if v == w {
				want = api.OK
			}
			change := func(p *api.Program) { p.Registers[1].Width, p.Headers[0].Fields[2].Width = w, v }
			expectStatement(t, change, read(ref(0, 2), 1, par(0)), want)
		}
	}
	for _, c := range []struct {
		dst api.FieldRef
		r   int
	}{{meta(0), 0}, {meta(3), 1}, {meta(4), 0}, {ref(1, 0), 1}, {ref(1, 1), 0}, {ref(2, 0), 0}} {
		expectStatement(t, same, read(c.dst, c.r, con(1, 8)), api.ErrWidth)
	}
}

// P16.1: the widths that StmtRead compares are the declared ones.
func TestCheckReadOfWrongWidth(t *testing.T) {
	all := append([]int{1, 32}, wrongWidths...)
	for _, a := range all {
		for _, b := range all {
			want := api.ErrWidth
			if a == b {
				want = api.OK
			}
			change := func(p *api.Program) { p.Registers[1].Width, p.Metadata[4].Width = a, b }
			expectStatement(t, change, read(meta(4), 1, con(1, 8)), want)
		}
	}
}

// P16.1: StmtWrite
func TestCheckWrite(t *testing.T) {
	one := list(con(1, 8))
	for _, i := range append([]int{-1, 2}, wrongNumbers...) {
		expectStatement(t, same, write(i, one, con(1, 16)), api.ErrNotFound)
		expectStatement(t, same, write(i, nil), api.ErrNotFound)
	}
	for _, f := range faults() {
		expectStatement(t, same, write(0, f.n, con(1, 16)), f.want)
		expectStatement(t, same, write(0, f.n, con(1, 8)), f.want)
		expectStatement(t, same, write(0, f.n), f.want)
		expectStatement(t, same, write(0, f.n, op(99)), f.want)
		expectStatement(t, same, write(0, one, f.n...), f.want)
	}
	for w := 1; w <= 32; w++ {
		expectStatement(t, same, write(0, list(con(1, w)), con(1, 16)), api.OK)
		for v := 1; v <= 32; v++ {
			want := api.ErrWidth
			if v == w {
				want = api.OK
			}
			change := func(p *api.Program) { p.Registers[1].Width = w }
			expectStatement(t, change, write(1, one, con(1, v)), want)
		}
	}
	for _, wrong := range wrongWidths {
		change := func(p *api.Program) { p.Registers[1].Width = wrong }
		for w := 1; w <= 32; w++ {
			expectStatement(t, change, write(1, one, con(1, w)), api.ErrWidth)
		}
	}
	size := func(p *api.Program) { p.Registers[1].Size = -1 }
	expectStatement(t, size, write(1, list(con(31, 5)), con(1, 3)), api.OK)
}

// P16.1: what a kind doesn't use is ignored.
func TestCheckIgnores(t *testing.T) {
	fill := func(s api.Statement, used string) api.Statement {
		x := api.Statement{Kind: s.Kind, Dst: ref(99, 99), Register: 99, Header: 99, Index: list(op(99)), Value: list(op(99))}
		for _, c := range used {
			switch c {
			case 'd':
				x.Dst = s.Dst
			case 'r':
				x.Register = s.Register
			case 'h':
				x.Header = s.Header
			case 'i':
				x.Index = s.Index
			case 'v':
				x.Value = s.Value
			}
		}
		return x
	}
	for _, c := range []struct {
		s    api.Statement
		used string
	}{{assign(meta(0), con(1, 8)), "dv"}, {add(1), "h"}, {remove(1), "h"}, {read(meta(3), 0, con(1, 8)), "dri"}, {write(0, list(con(1, 8)), con(1, 16)), "riv"}} {
		expectStatement(t, same, fill(c.s, c.used), api.OK)
		for i := range c.used {
			if _, e := action.Check(sample(fill(c.s, c.used[:i]+c.used[i+1:])), 1); e == api.OK {
				t.Errorf("%c of %v is not looked at", c.used[i], c.s)
			}
		}
	}
}

// P16.2
func TestCheckCall(t *testing.T) {
	p := sample(op2()) // Check rejects it, which CheckCall doesn't ask
	p.Actions = append(p.Actions, api.Action{Name: "", Params: widths(8, 0)}, api.Action{Params: widths(33)}, api.Action{Params: widths(1, 1, 1, 1, 1, 1)})
	for _, c := range []struct {
		i    int
		args []uint32
		want api.Errno
	}{
		{0, nil, api.OK}, {0, []uint32{}, api.OK}, {0, []uint32{0}, api.ErrArg}, {2, nil, api.OK},
		{1, []uint32{0, 0, 0}, api.OK}, {1, []uint32{255, 15, math.MaxUint32}, api.OK},
		{1, []uint32{256, 15, 0}, api.ErrRange}, {1, []uint32{255, 16, 0}, api.ErrRange}, {1, []uint32{math.MaxUint32, 0, 0}, api.ErrRange},
		{1, nil, api.ErrArg}, {1, []uint32{0, 0}, api.ErrArg}, {1, []uint32{0, 0, 0, 0}, api.ErrArg}, {1, []uint32{256}, api.ErrArg}, {1, []uint32{256, 16, 0, 0}, api.ErrArg},
		{1, []uint32{7, 8, 9, 10}[:3], api.OK}, {1, []uint32{7, 8, 9}[:2], api.ErrArg},
		{3, []uint32{0, 0}, api.ErrRange}, {3, []uint32{0}, api.ErrArg}, {4, []uint32{0}, api.ErrRange}, {5, []uint32{0, 1, 0, 1, 0, 1}, api.OK}, {5, []uint32{0, 1, 0, 1, 0, 2}, api.ErrRange},
		{-1, nil, api.ErrNotFound}, {6, nil, api.ErrNotFound}, {6, []uint32{1}, api.ErrNotFound}, {-1, []uint32{256}, api.ErrNotFound},
		{math.MinInt, nil, api.ErrNotFound}, {math.MaxInt, nil, api.ErrNotFound}, {1 << 32, nil, api.ErrNotFound},
	} {
		call := api.ActionCall{Action: c.i, Args: c.args}
		before := text(call)
		if e := action.CheckCall(p, call); e != c.want {
			t.Errorf("CheckCall(%v) = %v, want %v", call, e, c.want)
		}
		if text(call) != before {
			t.Errorf("CheckCall changes %s to %s", before, text(call))
		}
	}
	for w := 1; w <= 32; w++ {
		p := api.Program{Actions: []api.Action{{Params: widths(32, w)}}}
		for _, v := range []uint32{0, 1, greatest(w), uint32(uint64(1) << w), uint32(uint64(1)<<w + 1), math.MaxUint32} {
			want := api.OK
			if uint64(v) >= 1<<w {
				want = api.ErrRange
			}
			if e := action.CheckCall(p, api.ActionCall{Args: []uint32{math.MaxUint32, v}}); e != want {
				t.Errorf("CheckCall of %d for %d bits = %v", v, w, e)
			}
		}
	}
	p.Actions = p.Actions[:1]
	if e := action.CheckCall(p, api.ActionCall{Action: 1, Args: []uint32{0, 0, 0}}); e != api.ErrNotFound {
		t.Errorf("CheckCall behind the length = %v", e)
	}
}

// scribble writes over all that a packet and registers hold, and over what lies behind their lengths.
func scribble(e api.Env, rs [][]uint32) {
	for i := range e.Valid[:cap(e.Valid)] {
		e.Valid[:cap(e.Valid)][i] = !e.Valid[:cap(e.Valid)][i]
	}
	for i := range e.Payload[:cap(e.Payload)] {
		e.Payload[:cap(e.Payload)][i] ^= 0x5a
	}
	for i, l := range append(append([][]uint32{e.Meta}, e.Fields...), rs...) {
		for j := range l[:cap(l)] {
			l[:cap(l)][j] = uint32(i)
		}
	}
	clear(e.Fields[:cap(e.Fields)])
	clear(rs[:cap(rs)])
}

// expectOwnLists tells if two lists of an answer share memory. It writes over them.
func expectOwnLists(t *testing.T, e api.Env, rs [][]uint32) {
	t.Helper()
	lists := append(append([][]uint32{e.Meta}, e.Fields...), rs...)
	for i, l := range lists {
		for j := range l[:cap(l)] {
			l[:cap(l)][j] = uint32(i)
		}
	}
	for i, l := range lists {
		for _, v := range l[:cap(l)] {
			if v != uint32(i) {
				t.Fatalf("the lists %d and %d share memory", i, v)
			}
		}
	}
}

// expectExecute expects what a call makes of e and rs, which it must leave as they are.
func expectExecute(t *testing.T, p api.Program, c api.ActionCall, e api.Env, rs [][]uint32, wantEnv api.Env, want [][]uint32) {
	t.Helper()
	before := texts(p, c, e, rs)
	gotEnv, got := action.Execute(p, c, e, rs)
	if !env.Equal(gotEnv, wantEnv) || !register.Equal(got, want) {
		t.Fatalf("Execute(%+v, %v, %v, %v) = %v, %v, want %v, %v", p.Actions, c, e, rs, gotEnv, got, wantEnv, want)
	}
	expectOwnLists(t, gotEnv, got)
	scribble(gotEnv, got)
	if after := texts(p, c, e, rs); after != before {
		t.Fatalf("Execute changes %s to %s", before, after)
	}
}

// packet is a packet of sample: the headers 0 and 2 are valid.
func packet() api.Env {
	return api.Env{Valid: []bool{true, false, true}, Fields: [][]uint32{{1, 2, 3}, {0, 0}, {4}}, Meta: []uint32{5, 6, 1, 7, 2}, Payload: []byte{8, 9}}
}

func cells() [][]uint32 { return [][]uint32{{10, 11, 12, 13}, {5, 6}} }

func call(args ...uint32) api.ActionCall { return api.ActionCall{Action: 1, Args: args} }

// P16.3: what each kind of statement does
func TestExecuteKinds(t *testing.T) {
	for i, c := range []struct {
		body   []api.Statement
		change func(e *api.Env, rs [][]uint32)
	}{
		{nil, func(e *api.Env, rs [][]uint32) {}},
		{[]api.Statement{assign(ref(0, 0), con(200, 8))}, func(e *api.Env, rs [][]uint32) { e.Fields[0][0] = 200 }},
		{[]api.Statement{assign(ref(0, 1), par(1))}, func(e *api.Env, rs [][]uint32) { e.Fields[0][1] = 9 }},
		{[]api.Statement{assign(ref(2, 0), par(2))}, func(e *api.Env, rs [][]uint32) { e.Fields[2][0] = 0xdeadbeef }},
		{[]api.Statement{assign(ref(1, 1), par(0))}, func(e *api.Env, rs [][]uint32) {}},
		{[]api.Statement{assign(meta(1), par(0))}, func(e *api.Env, rs [][]uint32) { e.Meta[1] = 20 }},
		{[]api.Statement{assign(meta(2), val(1))}, func(e *api.Env, rs [][]uint32) { e.Meta[2] = 0 }},
		{[]api.Statement{assign(meta(3), fld(ref(1, 0)))}, func(e *api.Env, rs [][]uint32) { e.Meta[3] = 0 }},
		{[]api.Statement{add(0)}, func(e *api.Env, rs [][]uint32) {}},
		{[]api.Statement{add(1)}, func(e *api.Env, rs [][]uint32) { e.Valid[1] = true }},
		{[]api.Statement{remove(0)}, func(e *api.Env, rs [][]uint32) { e.Valid[0], e.Fields[0] = false, []uint32{0, 0, 0} }},
		{[]api.Statement{remove(1)}, func(e *api.Env, rs [][]uint32) {}},
		{[]api.Statement{read(meta(3), 0, con(3, 2))}, func(e *api.Env, rs [][]uint32) { e.Meta[3] = 13 }},
		{[]api.Statement{read(meta(3), 0, con(0, 1))}, func(e *api.Env, rs [][]uint32) { e.Meta[3] = 10 }},
		{[]api.Statement{read(meta(3), 0, con(4, 32))}, func(e *api.Env, rs [][]uint32) { e.Meta[3] = 0 }},
		{[]api.Statement{read(meta(4), 1, par(2))}, func(e *api.Env, rs [][]uint32) { e.Meta[4] = 0 }},
		{[]api.Statement{read(ref(1, 0), 0, con(1, 1))}, func(e *api.Env, rs [][]uint32) {}},
		{[]api.Statement{write(0, list(con(2, 8)), con(0xffff, 16))}, func(e *api.Env, rs [][]uint32) { rs[0][2] = 0xffff }},
		{[]api.Statement{write(1, list(fld(meta(2))), con(7, 3))}, func(e *api.Env, rs [][]uint32) { rs[1][1] = 7 }},
		{[]api.Statement{write(1, list(con(2, 8)), con(7, 3))}, func(e *api.Env, rs [][]uint32) {}},
		{[]api.Statement{write(0, list(par(2)), con(7, 16))}, func(e *api.Env, rs [][]uint32) {}},
	} {
		e, rs := packet(), cells()
		c.change(&e, rs)
		p := sample(c.body...)
		if at, fault := action.Check(p, 1); fault != api.OK {
			t.Errorf("%d: Check = %d, %v", i, at, fault)
		}
		expectExecute(t, p, call(20, 9, 0xdeadbeef), packet(), cells(), e, rs)
	}
}

// P16.3: each statement works on what those ahead of it have made.
func TestExecuteInOrder(t *testing.T) {
	next := list(op(api.ExprAdd), fld(meta(3)), con(1, 16))
	for i, c := range []struct {
		body   []api.Statement
		change func(e *api.Env, rs [][]uint32)
	}{
		{[]api.Statement{add(1), assign(ref(1, 1), par(0))}, func(e *api.Env, rs [][]uint32) { e.Valid[1], e.Fields[1] = true, []uint32{0, 20} }},
		{[]api.Statement{assign(ref(1, 1), par(0)), add(1)}, func(e *api.Env, rs [][]uint32) { e.Valid[1] = true }},
		{[]api.Statement{remove(0), add(0)}, func(e *api.Env, rs [][]uint32) { e.Fields[0] = []uint32{0, 0, 0} }},
		{[]api.Statement{assign(meta(0), fld(meta(1))), assign(meta(1), fld(meta(0)))}, func(e *api.Env, rs [][]uint32) { e.Meta[0] = 6 }},
		{[]api.Statement{remove(2), assign(meta(2), val(2))}, func(e *api.Env, rs [][]uint32) { e.Valid[2], e.Fields[2], e.Meta[2] = false, []uint32{0}, 0 }},
		{[]api.Statement{read(meta(3), 0, con(1, 2)), assign(meta(3), next...), write(0, list(con(1, 2)), fld(meta(3)))}, func(e *api.Env, rs [][]uint32) { e.Meta[3], rs[0][1] = 12, 12 }},
		{[]api.Statement{write(0, list(con(0, 1)), con(99, 16)), read(meta(3), 0, con(0, 1))}, func(e *api.Env, rs [][]uint32) { e.Meta[3], rs[0][0] = 99, 99 }},
		{[]api.Statement{read(meta(3), 0, con(0, 1)), write(0, list(con(0, 1)), con(99, 16))}, func(e *api.Env, rs [][]uint32) { e.Meta[3], rs[0][0] = 10, 99 }},
		{[]api.Statement{assign(meta(3), con(2, 16)), write(0, list(fld(meta(3))), con(1, 16)), assign(meta(3), con(3, 16)), write(0, list(fld(meta(3))), con(2, 16))}, func(e *api.Env, rs [][]uint32) { e.Meta[3], rs[0][2], rs[0][3] = 3, 1, 2 }},
		{[]api.Statement{assign(meta(3), next...), assign(meta(3), next...), assign(meta(3), next...), assign(meta(3), next...), assign(meta(3), next...), assign(meta(3), next...), assign(meta(3), next...), assign(meta(3), next...), assign(meta(3), next...), assign(meta(3), next...), assign(meta(3), next...), assign(meta(3), next...)}, func(e *api.Env, rs [][]uint32) { e.Meta[3] = 19 }},
	} {
		e, rs := packet(), cells()
		c.change(&e, rs)
		p := sample(c.body...)
		if at, fault := action.Check(p, 1); fault != api.OK {
			t.Errorf("%d: Check = %d, %v", i, at, fault)
		}
		expectExecute(t, p, call(20, 9, 0), packet(), cells(), e, rs)
	}
}

// P16.1 to P16.4: examples 1 and 2
func TestExamples(t *testing.T) {
	p := api.Program{
		Headers: []api.Header{{Name: "a", Fields: widths(8)}, {Name: "b", Fields: widths(8, 8)}},
		Actions: []api.Action{
			{Name: "set", Params: widths(8), Body: []api.Statement{add(1), assign(ref(1, 0), par(0))}},
			{Name: "wrong", Body: []api.Statement{remove(1), assign(ref(1, 0), con(1, 4))}},
			{Name: "less", Body: []api.Statement{remove(1)}},
		},
	}
	seven := api.ActionCall{Args: []uint32{7}}
	expectExecute(t, p, seven, env.New(p), nil, api.Env{Valid: []bool{false, true}, Fields: [][]uint32{{0}, {7, 0}}}, nil)
	valid := api.Env{Valid: []bool{false, true}, Fields: [][]uint32{{0}, {1, 2}}}
	expectExecute(t, p, seven, valid, nil, api.Env{Valid: []bool{false, true}, Fields: [][]uint32{{0}, {7, 2}}}, nil)
	expectCheck(t, p, 1, 1, api.ErrWidth)
	if e := action.CheckCall(p, api.ActionCall{Args: []uint32{1, 2}}); e != api.ErrArg {
		t.Errorf("two arguments: %v", e)
	}
	if e := action.CheckCall(p, api.ActionCall{Args: []uint32{256}}); e != api.ErrRange {
		t.Errorf("the argument 256: %v", e)
	}
	expectLists(t, "Reads", action.Reads, p, 2, touched{})
	expectLists(t, "Writes", action.Writes, p, 2, touched{[]api.FieldRef{ref(1, 0), ref(1, 1)}, []int{1}, nil})
}

// P16.3: a call that is rejected, or of an action that is, changes nothing, also if the statements ahead of the fault
// would.
func TestExecuteRejected(t *testing.T) {
	set := assign(meta(0), con(99, 8))
	for _, p := range []api.Program{
		sample(set, op2()),
		sample(op2(), set),
		sample(set, set, assign(meta(0), con(99, 9))),
		sample(slices.Repeat([]api.Statement{set}, 13)...),
		changedBy(func(a *api.Action) { a.Name = "1" }, set),
		changedBy(func(a *api.Action) { a.Params[2].Name = "f0" }, set),
		changedBy(func(a *api.Action) { a.Params[2].Width = 0 }, set),
	} {
		expectExecute(t, p, call(1, 2, 0), packet(), cells(), packet(), cells())
	}
	p := sample(set)
	for _, c := range []api.ActionCall{call(256, 2, 3), call(1, 16, 3), call(1, 2), call(1, 2, 3, 4), call(), {Action: -1}, {Action: 2}, {Action: 3}, {Action: math.MaxInt}, {Action: math.MinInt}} {
		expectExecute(t, p, c, packet(), cells(), packet(), cells())
	}
	changed := packet()
	changed.Meta[0] = 99
	expectExecute(t, p, call(1, 2, 3), packet(), cells(), changed, cells())
	expectExecute(t, p, api.ActionCall{}, packet(), cells(), packet(), cells())
	expectExecute(t, api.Program{}, api.ActionCall{}, packet(), cells(), packet(), cells())
}

// wide is a program with fields, parameters and registers of equal widths, and some that nothing else has.
func wide() api.Program {
	return api.Program{
		Headers:   []api.Header{{Name: "a", Fields: widths(8, 4, 4)}, {Name: "b", Fields: widths(8, 1, 16, 7)}, {Name: "c"}, {Name: "d", Fields: widths(32)}},
		Metadata:  widths(8, 8, 1, 16, 4, 32),
		Registers: []api.Register{{Name: "r", Width: 8, Size: 3}, {Name: "s", Width: 1, Size: 2}, {Name: "t", Width: 4, Size: 64}, {Name: "u", Width: 32, Size: 1}},
	}
}

func fieldsOf(p api.Program) []api.FieldRef {
	var l []api.FieldRef
	for f := range p.Metadata {
		l = append(l, meta(f))
	}
	for h := range p.Headers {
		for f := range p.Headers[h].Fields {
			l = append(l, ref(h, f))
		}
	}
	return l
}

// widthOf answers the declared width of a field that exists.
func widthOf(p api.Program, r api.FieldRef) int {
	if r.Header == -1 {
		return p.Metadata[r.Field].Width
	}
	return p.Headers[r.Header].Fields[r.Field].Width
}

// leaf answers an expression of one node and of width w.
func leaf(r *random, p api.Program, params []api.Field, w int) api.ExprNode {
	if w == 1 && r.below(2) == 0 {
		return val(r.below(len(p.Headers)))
	}
	for range 4 {
		if f := pick(r, fieldsOf(p)); r.below(3) > 0 && widthOf(p, f) == w {
			return fld(f)
		}
		if len(params) > 0 {
			if i := r.below(len(params)); params[i].Width == w {
				return par(i)
			}
		}
	}
	if r.below(2) == 0 {
		return con(int(r.bits()&3&greatest(w)), w)
	}
	return con(int(r.bits()&greatest(w)), w)
}

// grow answers an expression of width w.
func grow(r *random, p api.Program, params []api.Field, w, depth int) []api.ExprNode {
	if depth == 0 || r.below(3) == 0 {
		return list(leaf(r, p, params, w))
	}
	kid := func(w int) []api.ExprNode { return grow(r, p, params, w, depth-1) }
	switch r.below(5) {
	case 0:
		return append(list(op(api.ExprNot)), kid(w)...)
	case 1:
		return slices.Concat(list(op(api.ExprIf)), kid(1), kid(w), kid(w))
	case 2:
		if w == 1 {
			return slices.Concat(list(op(pick(r, []int{api.ExprEqual, api.ExprLess}))), kid(8), kid(8))
		}
	}
	return slices.Concat(list(op(pick(r, []int{api.ExprAdd, api.ExprSub, api.ExprXor, api.ExprAnd, api.ExprOr}))), kid(w), kid(w))
}

// statement answers a statement that Check accepts. What its kind doesn't use is filled with anything.
func statement(r *random, p api.Program, params []api.Field) api.Statement {
	value := func(w int) []api.ExprNode { return grow(r, p, params, w, r.below(3)) }
	dst, n := pick(r, fieldsOf(p)), r.below(len(p.Registers))
	s := api.Statement{Kind: api.StmtAssign + r.below(5), Dst: dst, Register: n, Header: r.below(len(p.Headers)), Index: value(4), Value: value(8)}
	switch s.Kind {
	case api.StmtAssign:
		s.Value = value(widthOf(p, dst))
	case api.StmtRead:
		for widthOf(p, s.Dst) != p.Registers[s.Register].Width {
			s.Dst, s.Register = pick(r, fieldsOf(p)), r.below(len(p.Registers))
		}
		s.Index = value(pick(r, []int{1, 8, 32}))
	case api.StmtWrite:
		s.Index, s.Value = value(pick(r, []int{1, 4, 8})), value(p.Registers[n].Width)
	}
	return s
}

// programOf answers wide with an action 0 that Check accepts, and a call of it.
func programOf(r *random) (api.Program, api.ActionCall) {
	p := wide()
	a := api.Action{Name: "act"}
	var c api.ActionCall
	for i := range r.below(api.MaxParams + 1) {
		w := pick(r, []int{1, 4, 8, 32})
		a.Params = append(a.Params, api.Field{Name: "p" + strconv.Itoa(i), Width: w})
		c.Args = append(c.Args, r.bits()&greatest(w))
	}
	for range r.below(api.MaxBody + 1) {
		a.Body = append(a.Body, statement(r, p, a.Params))
	}
	p.Actions = []api.Action{a}
	return p, c
}

// stateOf answers a packet and contents of p that env.Check and register.CheckContents accept.
func stateOf(r *random, p api.Program) (api.Env, [][]uint32) {
	e, rs := env.New(p), register.New(p)
	e.Payload = []byte{1, 2, 3}[:r.below(4)]
	for i, f := range p.Metadata {
		e.Meta[i] = r.bits() & greatest(f.Width)
	}
	for h, x := range p.Headers {
		if e.Valid[h] = r.below(3) > 0; e.Valid[h] {
			for f := range x.Fields {
				e.Fields[h][f] = r.bits() & greatest(x.Fields[f].Width)
			}
		}
	}
	for i, x := range p.Registers {
		for k := range rs[i] {
			rs[i][k] = r.bits() & greatest(x.Width)
		}
	}
	return e, rs
}

// modelExecute executes an action by the words of P16.3.
func modelExecute(p api.Program, c api.ActionCall, e api.Env, rs [][]uint32) (api.Env, [][]uint32) {
	a := p.Actions[c.Action]
	value := func(n []api.ExprNode) uint32 {
		return expr.Eval(n, expr.Scope{Program: p, Params: a.Params}, e, c.Args)
	}
	for _, s := range a.Body {
		switch s.Kind {
		case api.StmtAssign:
			e = env.Set(p, e, s.Dst, value(s.Value))
		case api.StmtAddHeader:
			e = env.AddHeader(p, e, s.Header)
		case api.StmtRemoveHeader:
			e = env.RemoveHeader(p, e, s.Header)
		case api.StmtRead:
			e = env.Set(p, e, s.Dst, register.Read(p, rs, s.Register, value(s.Index)))
		case api.StmtWrite:
			rs = register.Write(p, rs, s.Register, value(s.Index), value(s.Value))
		}
	}
	return e, rs
}

// odd answers a packet and contents that fit no program.
func odd(r *random) (api.Env, [][]uint32) {
	numbers := func() []uint32 {
		l := make([]uint32, r.below(6))
		for i := range l[:cap(l)] {
			l[:cap(l)][i] = r.bits()
		}
		return l[:r.below(len(l)+1)]
	}
	e, rs := api.Env{Meta: numbers(), Payload: []byte{1, 2, 3, 4}[:r.below(5)]}, [][]uint32(nil)
	for range r.below(6) {
		e.Valid = append(e.Valid, r.below(3) > 0)
	}
	for range r.below(6) {
		e.Fields = append(e.Fields, numbers())
	}
	for range r.below(6) {
		rs = append(rs, numbers())
	}
	return e, rs
}

// P16.3, P16.6: actions of all kinds against the model, on packets that fit and on such as don't
func TestRandomExecute(t *testing.T) {
	r := random(1)
	kinds := map[int]int{}
	for range 6000 {
		p, c := programOf(&r)
		if at, e := action.Check(p, 0); at != 0 || e != api.OK {
			t.Fatalf("Check(%+v) = %d, %v", p.Actions, at, e)
		}
		if e := action.CheckCall(p, c); e != api.OK {
			t.Fatalf("CheckCall(%+v, %v) = %v", p.Actions, c, e)
		}
		for _, s := range p.Actions[0].Body {
			kinds[s.Kind]++
		}
		e, rs := stateOf(&r, p)
		wantEnv, want := modelExecute(p, c, e, rs)
		expectExecute(t, p, c, e, rs, wantEnv, want)
		gotEnv, got := action.Execute(p, c, e, rs)
		if fault := env.Check(p, gotEnv); fault != api.OK {
			t.Fatalf("Execute(%+v) makes a packet with the fault %v", p.Actions, fault)
		}
		if fault := register.CheckContents(p, got); fault != api.OK {
			t.Fatalf("Execute(%+v) makes contents with the fault %v", p.Actions, fault)
		}
		e, rs = odd(&r)
		wantEnv, want = modelExecute(p, c, e, rs)
		expectExecute(t, p, c, e, rs, wantEnv, want)
	}
	for k := api.StmtAssign; k <= api.StmtWrite; k++ {
		if kinds[k] < 1000 {
			t.Errorf("kind %d is tried %d times", k, kinds[k])
		}
	}
}

// touched is what Reads or Writes answers.
type touched struct {
	fields    []api.FieldRef
	headers   []int
	registers []int
}

func (x touched) same(y touched) bool {
	return slices.Equal(x.fields, y.fields) && slices.Equal(x.headers, y.headers) && slices.Equal(x.registers, y.registers)
}

// expectLists expects what Reads or Writes answers, twice, with the first answer written over in between.
func expectLists(t *testing.T, name string, f func(p api.Program, i int) ([]api.FieldRef, []int, []int), p api.Program, i int, want touched) {
	t.Helper()
	before := text(p)
	for range 2 {
		fields, headers, registers := f(p, i)
		if got := (touched{fields, headers, registers}); !got.same(want) {
			t.Fatalf("%s(%+v, %d) = %v, want %v", name, p.Actions, i, got, want)
		}
		for _, l := range [][]int{headers[:cap(headers)], registers[:cap(registers)]} {
			for k := range l {
				l[k] = -77
			}
		}
		clear(fields[:cap(fields)])
	}
	if text(p) != before {
		t.Fatalf("%s changes the program", name)
	}
}

// P16.4: what each kind of statement reads and writes, and the order of the lists
func TestReadsAndWrites(t *testing.T) {
	sum := list(op(api.ExprAdd), fld(ref(1, 0)), op(api.ExprIf), val(2), fld(meta(3)), fld(ref(1, 0)))
	refs := func(l ...api.FieldRef) []api.FieldRef { return l }
	for i, c := range []struct {
		body          []api.Statement
		reads, writes touched
	}{
		{nil, touched{}, touched{}},
		{[]api.Statement{assign(meta(0), con(1, 8))}, touched{}, touched{refs(meta(0)), nil, nil}},
		{[]api.Statement{assign(ref(0, 1), con(1, 4))}, touched{nil, []int{0}, nil}, touched{refs(ref(0, 1)), nil, nil}},
		{[]api.Statement{assign(meta(3), sum...)}, touched{refs(meta(3), ref(1, 0)), []int{2}, nil}, touched{refs(meta(3)), nil, nil}},
		{[]api.Statement{assign(ref(1, 0), sum...)}, touched{refs(meta(3), ref(1, 0)), []int{1, 2}, nil}, touched{refs(ref(1, 0)), nil, nil}},
		{[]api.Statement{assign(ref(0, 0), par(0))}, touched{nil, []int{0}, nil}, touched{refs(ref(0, 0)), nil, nil}},
		{[]api.Statement{add(0)}, touched{nil, []int{0}, nil}, touched{refs(ref(0, 0), ref(0, 1), ref(0, 2)), []int{0}, nil}},
		{[]api.Statement{remove(0)}, touched{}, touched{refs(ref(0, 0), ref(0, 1), ref(0, 2)), []int{0}, nil}},
		{[]api.Statement{read(meta(3), 0, con(1, 8))}, touched{nil, nil, []int{0}}, touched{refs(meta(3)), nil, nil}},
		{[]api.Statement{read(ref(1, 0), 0, sum...)}, touched{refs(meta(3), ref(1, 0)), []int{1, 2}, []int{0}}, touched{refs(ref(1, 0)), nil, nil}},
		{[]api.Statement{read(meta(4), 1, fld(meta(4)))}, touched{refs(meta(4)), nil, []int{1}}, touched{refs(meta(4)), nil, nil}},
		{[]api.Statement{write(0, list(con(1, 8)), con(1, 16))}, touched{}, touched{nil, nil, []int{0}}},
		{[]api.Statement{write(0, sum, con(1, 16))}, touched{refs(meta(3), ref(1, 0)), []int{2}, nil}, touched{nil, nil, []int{0}}},
		{[]api.Statement{write(0, list(con(1, 8)), sum...)}, touched{refs(meta(3), ref(1, 0)), []int{2}, nil}, touched{nil, nil, []int{0}}},
		{[]api.Statement{write(0, list(fld(ref(0, 2))), sum...)}, touched{refs(meta(3), ref(0, 2), ref(1, 0)), []int{2}, nil}, touched{nil, nil, []int{0}}},
		{
			[]api.Statement{read(meta(4), 1, val(1)), remove(2), write(1, list(val(0)), con(1, 3)), read(meta(3), 0, val(1)), add(1), write(0, list(fld(ref(2, 0))), con(1, 16)), add(1), assign(ref(0, 2), con(1, 4)), assign(ref(0, 1), con(1, 4)), read(meta(3), 0, fld(meta(0))), write(1, list(con(1, 3)), con(1, 3)), remove(1)},
			touched{refs(meta(0), ref(2, 0)), []int{0, 1}, []int{0, 1}},
			touched{refs(meta(3), meta(4), ref(0, 1), ref(0, 2), ref(1, 0), ref(1, 1), ref(2, 0)), []int{1, 2}, []int{0, 1}},
		},
	} {
		p := sample(c.body...)
		if at, e := action.Check(p, 1); e != api.OK {
			t.Errorf("%d: Check = %d, %v", i, at, e)
		}
		expectLists(t, "Reads", action.Reads, p, 1, c.reads)
		expectLists(t, "Writes", action.Writes, p, 1, c.writes)
	}
}

// P16.4: an action that Check rejects reads and writes nothing; a header without fields has none to be written.
func TestReadsAndWritesOfOthers(t *testing.T) {
	good := []api.Statement{assign(meta(3), fld(ref(1, 0))), add(1), read(meta(3), 0, val(1)), write(0, list(val(1)), con(1, 16))}
	rejected := []api.Program{sample(append(slices.Clone(good), op2())...), sample(slices.Concat(good, good, good, good)...), changedBy(func(a *api.Action) { a.Name = "" }, good...), changedBy(func(a *api.Action) { a.Params[0].Width = 0 }, good...)}
	for _, p := range rejected {
		expectLists(t, "Reads", action.Reads, p, 1, touched{})
		expectLists(t, "Writes", action.Writes, p, 1, touched{})
	}
	for _, i := range append([]int{-1, 2, 3}, wrongNumbers...) {
		expectLists(t, "Reads", action.Reads, sample(good...), i, touched{})
		expectLists(t, "Writes", action.Writes, sample(good...), i, touched{})
	}
	p := sample(remove(2), add(0))
	p.Headers[2].Fields, p.Headers[0].Fields = nil, widths(slices.Repeat([]int{-1}, 40)...)
	var fields []api.FieldRef
	for f := range 40 {
		fields = append(fields, ref(0, f))
	}
	expectLists(t, "Reads", action.Reads, p, 1, touched{nil, []int{0}, nil})
	expectLists(t, "Writes", action.Writes, p, 1, touched{fields, []int{0, 2}, nil})
}

func ordered(s map[int]bool) []int { return slices.Sorted(maps.Keys(s)) }

// modelLists answers what Reads and Writes have to by the words of P16.4, by way of sets.
func modelLists(p api.Program, body []api.Statement) (reads, writes touched) {
	inFields, outFields := map[api.FieldRef]bool{}, map[api.FieldRef]bool{}
	inHeaders, outHeaders, inRegisters, outRegisters := map[int]bool{}, map[int]bool{}, map[int]bool{}, map[int]bool{}
	for _, s := range body {
		var nodes []api.ExprNode
		if s.Kind == api.StmtRead || s.Kind == api.StmtWrite {
			nodes = append(nodes, s.Index...)
		}
		if s.Kind == api.StmtAssign || s.Kind == api.StmtWrite {
			nodes = append(nodes, s.Value...)
		}
		for _, n := range nodes {
			if n.Op == api.ExprField {
				inFields[ref(n.N, n.W)] = true
			}
			if n.Op == api.ExprValid {
				inHeaders[n.N] = true
			}
		}
		if s.Kind == api.StmtAssign || s.Kind == api.StmtRead {
			outFields[s.Dst] = true
			if s.Dst.Header != -1 {
				inHeaders[s.Dst.Header] = true
			}
		}
		if s.Kind == api.StmtAddHeader {
			inHeaders[s.Header] = true
		}
		if s.Kind == api.StmtAddHeader || s.Kind == api.StmtRemoveHeader {
			outHeaders[s.Header] = true
			for f := range p.Headers[s.Header].Fields {
				outFields[ref(s.Header, f)] = true
			}
		}
		if s.Kind == api.StmtRead {
			inRegisters[s.Register] = true
		}
		if s.Kind == api.StmtWrite {
			outRegisters[s.Register] = true
		}
	}
	for _, f := range fieldsOf(p) { // these are in order
		if inFields[f] {
			reads.fields = append(reads.fields, f)
		}
		if outFields[f] {
			writes.fields = append(writes.fields, f)
		}
	}
	reads.headers, reads.registers = ordered(inHeaders), ordered(inRegisters)
	writes.headers, writes.registers = ordered(outHeaders), ordered(outRegisters)
	return reads, writes
}

// P16.4: actions of all kinds against the model
func TestRandomLists(t *testing.T) {
	r := random(2)
	for range 6000 {
		p, _ := programOf(&r)
		reads, writes := modelLists(p, p.Actions[0].Body)
		expectLists(t, "Reads", action.Reads, p, 0, reads)
		expectLists(t, "Writes", action.Writes, p, 0, writes)
	}
}

// P16.5: nothing changes outside Writes.
func TestEffectsWithinWrites(t *testing.T) {
	r := random(3)
	for range 4000 {
		p, c := programOf(&r)
		e, rs := stateOf(&r, p)
		fields, headers, registers := action.Writes(p, 0)
		after, cells := action.Execute(p, c, e, rs)
		for _, f := range fieldsOf(p) {
			if env.Get(e, f) != env.Get(after, f) && !slices.Contains(fields, f) {
				t.Fatalf("%+v changes the field %v", p.Actions, f)
			}
		}
		for h := range p.Headers {
			if e.Valid[h] != after.Valid[h] && !slices.Contains(headers, h) {
				t.Fatalf("%+v changes the validity of header %d", p.Actions, h)
			}
		}
		for n := range p.Registers {
			if !slices.Equal(rs[n], cells[n]) && !slices.Contains(registers, n) {
				t.Fatalf("%+v changes register %d", p.Actions, n)
			}
		}
	}
}

// P16.5: two states that agree on Reads and Writes agree on Writes afterwards. In all else they are independent of each
// other, but that a header has the same validity in both where one of its fields is read or written.
func TestEffectsHangOnReads(t *testing.T) {
	r := random(4)
	for range 4000 {
		p, c := programOf(&r)
		a, cellsA := stateOf(&r, p)
		b, cellsB := stateOf(&r, p)
		reads, writes := modelLists(p, p.Actions[0].Body)
		for _, x := range []touched{reads, writes} {
			for _, h := range x.headers {
				b.Valid[h] = a.Valid[h]
			}
			for _, f := range x.fields {
				if f.Header == -1 {
					b.Meta[f.Field] = a.Meta[f.Field]
					continue
				}
				b.Valid[f.Header], b.Fields[f.Header][f.Field] = a.Valid[f.Header], a.Fields[f.Header][f.Field]
			}
			for _, n := range x.registers {
				cellsB[n] = slices.Clone(cellsA[n])
			}
		}
		for h, valid := range b.Valid {
			if !valid {
				clear(b.Fields[h])
			}
		}
		a, cellsA = action.Execute(p, c, a, cellsA)
		b, cellsB = action.Execute(p, c, b, cellsB)
		for _, f := range writes.fields {
			if env.Get(a, f) != env.Get(b, f) {
				t.Fatalf("%+v: field %v is %d and %d", p.Actions, f, env.Get(a, f), env.Get(b, f))
			}
		}
		for _, h := range writes.headers {
			if a.Valid[h] != b.Valid[h] {
				t.Fatalf("%+v: validity of header %d", p.Actions, h)
			}
		}
		for _, n := range writes.registers {
			if !slices.Equal(cellsA[n], cellsB[n]) {
				t.Fatalf("%+v: register %d", p.Actions, n)
			}
		}
	}
}

// P16.6: fields and registers of widths that no value has stay 0.
func TestInvariantsOfWrongWidths(t *testing.T) {
	for _, w := range wrongWidths {
		p := sample(read(meta(4), 1, con(0, 1)))
		p.Metadata[4].Width, p.Registers[1].Width = w, w
		e, rs := packet(), [][]uint32{{10, 11, 12, 13}, {0, 0}}
		e.Meta[4] = 0
		expectExecute(t, p, call(1, 2, 3), e, rs, e, rs)
		expectExecute(t, p, call(1, 2, 3), e, [][]uint32{nil, {9, 9}}, e, [][]uint32{nil, {9, 9}})
	}
}

// P16.7: an action may be cut in two anywhere.
func TestComposition(t *testing.T) {
	r := random(5)
	for range 3000 {
		p, c := programOf(&r)
		a := p.Actions[0]
		cut := r.below(len(a.Body) + 1)
		p.Actions = append(p.Actions, api.Action{Name: "first", Params: a.Params, Body: a.Body[:cut]}, api.Action{Name: "second", Params: a.Params, Body: a.Body[cut:]})
		e, rs := stateOf(&r, p)
		want, wantCells := action.Execute(p, c, e, rs)
		e, rs = action.Execute(p, api.ActionCall{Action: 1, Args: c.Args}, e, rs)
		expectExecute(t, p, api.ActionCall{Action: 2, Args: c.Args}, e, rs, want, wantCells)
	}
}
