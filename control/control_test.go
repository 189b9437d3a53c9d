package control_test

import (
	"fmt"
	"math"
	"slices"
	"strings"
	"testing"

	"patchbay/api"
	"patchbay/control"
	"patchbay/expr"
)

var wrongNumbers = []int{math.MinInt, -1 << 32, -2, -1, 99, 1 << 32, 1<<32 + 1, math.MaxInt}

var wrongKinds = []int{math.MinInt, -1, 0, 4, 5, 257, 1 << 32, 1<<32 + 1, math.MaxInt}

// random is a row of numbers that look like no rule, the same ones for the same seed.
type random uint64

func (r *random) bits() uint32 {
	*r = *r*6364136223846793005 + 1442695040888963407
	return uint32(*r >> 32)
}

func (r *random) below(n int) int { return int(r.bits()>>4) % n }

func (r *random) chance(n int) bool { return r.below(n) == 0 }

func pick[T any](r *random, l []T) T { return l[r.below(len(l))] }

type nodes = []api.ControlNode

func list(l ...api.ControlNode) nodes { return l }

func apply(table int) api.ControlNode { return api.ControlNode{Kind: api.ControlApply, Table: table} }

func hit(table int, then, otherwise nodes) api.ControlNode {
	return api.ControlNode{Kind: api.ControlHit, Table: table, Then: then, Else: otherwise}
}

func when(cond []api.ExprNode, then, otherwise nodes) api.ControlNode {
	return api.ControlNode{Kind: api.ControlIf, Cond: cond, Then: then, Else: otherwise}
}

func constant(n, w int) []api.ExprNode { return []api.ExprNode{{Op: api.ExprConst, N: n, W: w}} }

func field(header, field int) []api.ExprNode {
	return []api.ExprNode{{Op: api.ExprField, N: header, W: field}}
}

func valid(header int) []api.ExprNode { return []api.ExprNode{{Op: api.ExprValid, N: header}} }

var yes = constant(1, 1)

// nested answers a list of the given nesting, its branches Then and Else by turns.
func nested(depth int, innermost api.ControlNode) nodes {
	l := list(innermost)
	for i := range depth - 1 {
		if i%2 == 0 {
			l = list(when(yes, l, nil))
			continue
		}
		l = list(when(yes, nil, l))
	}
	return l
}

// sample is a program of 12 tables, with headers and metadata for conditions.
func sample(c ...api.ControlNode) api.Program {
	return api.Program{
		Headers:  []api.Header{{Name: "h", Fields: []api.Field{{Name: "a", Width: 1}, {Name: "b", Width: 7}, {Name: "c", Width: 33}}}},
		Metadata: []api.Field{{Name: "in", Width: 8}, {Name: "out", Width: 8}, {Name: "drop", Width: 1}},
		Tables:   make([]api.Table, 12),
		Control:  c,
	}
}

// text writes a list with what lies behind the lengths of its lists.
func text(c nodes) string {
	var s strings.Builder
	for _, n := range c[:cap(c)] {
		fmt.Fprint(&s, n.Kind, n.Table, n.Cond[:cap(n.Cond)], len(n.Cond))
		fmt.Fprintf(&s, "{%d%s}{%d%s}", len(n.Then), text(n.Then), len(n.Else), text(n.Else))
	}
	return s.String()
}

// flat is a node out of its list, with the number of lists around it.
type flat struct {
	node  api.ControlNode
	depth int
}

func flatOf(c nodes, depth int) []flat {
	var l []flat
	for _, n := range c {
		l = append(l, flat{n, depth})
	}
	return l
}

// flattened answers the nodes of a list in preorder, by a list of what is still to be taken.
func flattened(c nodes) []flat {
	var l []flat
	for left := flatOf(c, 1); len(left) > 0; {
		f := left[0]
		l = append(l, f)
		left = slices.Concat(flatOf(f.node.Then, f.depth+1), flatOf(f.node.Else, f.depth+1), left[1:])
	}
	return l
}

// same tells whether two nodes are equal, where nil is an empty list.
func same(a, b api.ControlNode) bool {
	return a.Kind == b.Kind && a.Table == b.Table && slices.Equal(a.Cond, b.Cond) && slices.EqualFunc(a.Then, b.Then, same) && slices.EqualFunc(a.Else, b.Else, same)
}

// expectLists expects what P20.1 tells of a list.
func expectLists(t *testing.T, c nodes) {
	t.Helper()
	before := text(c)
	l := flattened(c)
	nesting, tables := 0, []int{}
	for i, f := range l {
		nesting = max(nesting, f.depth)
		if f.node.Kind == 1 || f.node.Kind == 3 {
			tables = append(tables, f.node.Table)
		}
		if n, ok := control.Node(c, i); !ok || !same(n, f.node) {
			t.Errorf("Node(%v, %d) = %v, %v, want %v", c, i, n, ok, f.node)
		}
	}
	if got := control.Count(c); got != len(l) {
		t.Errorf("Count(%v) = %d, want %d", c, got, len(l))
	}
	if got := control.Nesting(c); got != nesting {
		t.Errorf("Nesting(%v) = %d, want %d", c, got, nesting)
	}
	if got := control.Tables(c); !slices.Equal(got, tables) {
		t.Errorf("Tables(%v) = %v, want %v", c, got, tables)
	}
	for _, at := range []int{math.MinInt, -1 << 32, -2, -1, len(l), len(l) + 1, 1<<32 - 1, 1 << 32, math.MaxInt} {
		if n, ok := control.Node(c, at); ok || !same(n, api.ControlNode{}) {
			t.Errorf("Node(%v, %d) = %v, %v", c, at, n, ok)
		}
	}
	if text(c) != before {
		t.Error("the list is changed")
	}
}

// P20.1: lists of any length, nesting and kinds
func TestLists(t *testing.T) {
	expectLists(t, nil)
	expectLists(t, nodes{})
	expectLists(t, list(apply(0)))
	expectLists(t, list(apply(3), apply(1), apply(3)))
	expectLists(t, list(when(nil, nil, nil)))
	expectLists(t, list(hit(-5, nil, nil), apply(math.MinInt)))
	expectLists(t, list(when(yes, list(apply(1)), nil), when(nil, nil, list(apply(2)))))
	expectLists(t, list(hit(4, list(apply(1), apply(5)), list(hit(2, nil, list(apply(8)))))))
	for depth := 1; depth < 12; depth++ {
		c := nested(depth, apply(7))
		expectLists(t, c)
		expectLists(t, slices.Concat(c, c, nested(3, hit(1, c, nil))))
	}
}

// P20.1: all branches count, for nodes of any kind, but only two kinds have tables
func TestBranchesOfAnyKind(t *testing.T) {
	for _, kind := range append([]int{1, 2, 3}, wrongKinds...) {
		n := api.ControlNode{Kind: kind, Table: 6, Then: list(apply(1), hit(2, nil, nil)), Else: list(apply(3))}
		c := list(n, apply(4))
		expectLists(t, c)
		if control.Count(c) != 5 || control.Nesting(c) != 2 {
			t.Errorf("kind %d: Count %d, Nesting %d", kind, control.Count(c), control.Nesting(c))
		}
		want := []int{1, 2, 3, 4}
		if kind == 1 || kind == 3 {
			want = []int{6, 1, 2, 3, 4}
		}
		if got := control.Tables(c); !slices.Equal(got, want) {
			t.Errorf("kind %d: Tables %v, want %v", kind, got, want)
		}
		outer := api.ControlNode{Kind: kind, Table: 7, Else: list(n, n)}
		expectLists(t, list(outer, apply(9), outer))
	}
}

// randomList answers nodes of all kinds, with branches also where none may be.
func randomList(r *random, depth int) nodes {
	var l nodes
	for range r.below(5) {
		n := api.ControlNode{Kind: 1 + r.below(3), Table: r.below(20) - 3, Cond: make([]api.ExprNode, r.below(3))}
		if r.chance(5) {
			n.Kind = pick(r, wrongKinds)
		}
		for i := range n.Cond {
			n.Cond[i] = api.ExprNode{Op: r.below(20), N: r.below(9)}
		}
		if depth > 0 && !r.chance(3) {
			n.Then, n.Else = randomList(r, depth-1), randomList(r, depth-1)
		}
		l = append(l, n)
	}
	return l
}

// P20.1: random lists, held against flattened
func TestRandomLists(t *testing.T) {
	r := random(20)
	for range 400 {
		expectLists(t, randomList(&r, r.below(4)))
		if t.Failed() {
			return
		}
	}
}

// P20.1, P20.2: what lies behind the length of a list doesn't count
func TestBehindLengths(t *testing.T) {
	cut := list(apply(1), apply(99), apply(1))[:1]
	c := list(hit(0, cut, cut[:0]), when(append(constant(1, 1), constant(1, 1)...)[:1], nil, list(apply(3), apply(3))[:1]), api.ControlNode{})[:2]
	expectLists(t, c)
	expectCheck(t, sample(c...), 0, api.OK)
	expectCheck(t, api.Program{Control: make(nodes, 99)[:0]}, 0, api.OK)
	p := sample(apply(11))
	p.Tables = p.Tables[:11]
	expectCheck(t, p, 0, api.ErrNotFound)
	expectWalk(t, c, 5)
}

// P20.1: an answer is memory of its own
func TestNodesAreNew(t *testing.T) {
	shared := list(when(yes[:1:1], list(hit(1, list(apply(2)), nil)), list(apply(3))))
	c := list(when(slices.Clone(yes), shared, shared), hit(5, shared, shared))
	before := text(c)
	var spoil func(l nodes)
	spoil = func(l nodes) {
		for i := range l[:cap(l)] {
			n := &l[:cap(l)][i]
			clear(n.Cond[:cap(n.Cond)])
			spoil(n.Then)
			spoil(n.Else)
			n.Kind, n.Table, n.Cond = 77, 77, nil
		}
	}
	for at := range control.Count(c) {
		want, _ := control.Node(c, at)
		n, _ := control.Node(c, at)
		otherwise := text(n.Else)
		clear(n.Cond[:cap(n.Cond)])
		spoil(n.Then)
		if text(n.Else) != otherwise {
			t.Error("two branches of an answer share memory")
		}
		spoil(n.Else)
		if again, _ := control.Node(c, at); !same(again, want) || text(c) != before {
			t.Fatalf("node %d shares memory with the list", at)
		}
	}
	tables := control.Tables(c)
	clear(tables[:cap(tables)])
	if text(c) != before || control.Tables(c)[0] != 1 {
		t.Error("Tables shares memory with the list")
	}
}

func expectCheck(t *testing.T, p api.Program, at int, want api.Errno) {
	t.Helper()
	before := text(p.Control)
	if i, e := control.Check(p); i != at || e != want {
		t.Errorf("Check(%+v) = %d, %v, want %d, %v", p.Control, i, e, at, want)
	}
	if text(p.Control) != before {
		t.Error("the program is changed")
	}
}

// P20.2: how many nodes there may be, wherever they stand
func TestCheckLimit(t *testing.T) {
	expectCheck(t, api.Program{}, 0, api.OK)
	expectCheck(t, sample(nodes{}...), 0, api.OK)
	for n := 1; n < 40; n++ {
		at, want := 0, api.OK
		if n > 24 {
			at, want = -1, api.ErrLimit
		}
		gates := slices.Repeat(list(when(yes, nil, nil)), n)
		expectCheck(t, sample(gates...), at, want)
		expectCheck(t, sample(when(yes, gates[:n/2], gates[n/2+1:])), at, want)
		if n > 1 {
			expectCheck(t, sample(when(yes, nil, list(hit(3, gates[2:], nil)))), at, want)
		}
		if n > 24 {
			expectCheck(t, api.Program{Control: make(nodes, n)}, -1, api.ErrLimit)
			expectCheck(t, sample(nested(n, api.ControlNode{})...), -1, api.ErrLimit)
			expectCheck(t, sample(api.ControlNode{Kind: 9, Then: gates}), -1, api.ErrLimit)
		}
	}
	expectCheck(t, api.Program{Control: make(nodes, 100000)}, -1, api.ErrLimit)
}

func cond[T any](c bool, a, b T) T {
	if c {
		return a
	}
	return b
}

// P20.2: branches that share memory are as many nodes as if they shared none
func TestCheckShared(t *testing.T) {
	l := list(when(yes, nil, nil))
	for range 5 {
		l = list(when(yes, l, l))
		want := cond(control.Count(l) > 24, api.ErrLimit, api.OK)
		expectCheck(t, sample(l...), cond(want == api.OK, 0, -1), want)
	}
	for range 200 {
		l = list(when(yes, l, l))
	}
	if at, e := control.Check(sample(l...)); at != -1 || e != api.ErrLimit {
		t.Errorf("Check of shared branches = %d, %v", at, e)
	}
}

// P20.2: how deep the nodes may nest
func TestCheckOrder(t *testing.T) {
	for depth := 1; depth <= 24; depth++ {
		at, want := 0, api.OK
		if depth > 6 {
			at, want = -1, api.ErrOrder
		}
		expectCheck(t, sample(nested(depth, apply(0))...), at, want)
		expectCheck(t, sample(nested(depth, when(valid(0), nil, nodes{}))...), at, want)
		if depth > 6 {
			expectCheck(t, sample(nested(depth, api.ControlNode{})...), -1, api.ErrOrder)
		}
		if depth < 24 {
			expectCheck(t, sample(append(list(apply(1)), nested(depth, hit(2, nil, nil))...)...), at, want)
		}
	}
	wrong := api.ControlNode{Kind: 0, Else: nested(6, apply(0))}
	expectCheck(t, sample(wrong), -1, api.ErrOrder)
	wrong.Else = nested(5, apply(0))
	expectCheck(t, sample(wrong), 0, api.ErrKind)
	expectCheck(t, sample(hit(0, nested(5, apply(1)), nested(5, apply(2)))), 0, api.OK)
	expectCheck(t, sample(hit(0, nested(5, apply(1)), nested(6, apply(2)))), -1, api.ErrOrder)
}

// expectNode expects an error of a node wherever it stands, and whatever stands behind it. The node applies no table from 8 on.
func expectNode(t *testing.T, n api.ControlNode, want api.Errno) {
	t.Helper()
	at := func(i int) int { return cond(want == api.OK, 0, i) }
	expectCheck(t, sample(n), at(0), want)
	expectCheck(t, sample(apply(8), apply(9), n), at(2), want)
	expectCheck(t, sample(hit(8, list(apply(9), n), nil)), at(2), want)
	expectCheck(t, sample(hit(8, nil, list(n)), apply(10)), at(1), want)
	expectCheck(t, sample(when(yes, list(apply(8), hit(9, nil, nil)), list(n, apply(10)))), at(3), want)
	expectCheck(t, sample(when(yes, nil, list(when(yes, list(apply(8)), nil))), n), at(3), want)
	if want == api.OK {
		return
	}
	for _, more := range []api.ControlNode{{}, apply(99), when(nil, nil, nil), n} {
		expectCheck(t, sample(n, more), 0, want)
		expectCheck(t, sample(when(yes, list(apply(9), n), list(more)), more), 2, want)
		expectCheck(t, sample(hit(8, list(hit(9, nil, list(n)), more), nil)), 2, want)
		if n.Kind != api.ControlApply {
			n.Then, n.Else = list(more), list(more)
			expectCheck(t, sample(n), 0, want)
		}
	}
}

// P20.2: kinds
func TestCheckKind(t *testing.T) {
	for _, kind := range wrongKinds {
		expectNode(t, api.ControlNode{Kind: kind}, api.ErrKind)
		expectNode(t, api.ControlNode{Kind: kind, Table: 99, Cond: yes}, api.ErrKind)
		expectNode(t, api.ControlNode{Kind: kind, Table: 1, Cond: constant(9, 1), Then: list(apply(1))}, api.ErrKind)
	}
	expectNode(t, apply(0), api.OK)
	expectNode(t, hit(0, nil, nil), api.OK)
	expectNode(t, when(yes, nil, nil), api.OK)
}

// P20.2: tables that aren't there
func TestCheckNotFound(t *testing.T) {
	for _, table := range append([]int{12, 13}, wrongNumbers...) {
		expectNode(t, apply(table), api.ErrNotFound)
		expectNode(t, hit(table, nil, nil), api.ErrNotFound)
		expectNode(t, api.ControlNode{Kind: api.ControlApply, Table: table, Then: list(apply(1))}, api.ErrNotFound)
		n := when(yes, nil, nil)
		n.Table = table
		expectNode(t, n, api.OK)
	}
	for have := range 12 {
		for table := range 12 {
			p := sample(hit(table, nil, nil))
			p.Tables = p.Tables[:have]
			expectCheck(t, p, 0, cond(table < have, api.OK, api.ErrNotFound))
			p.Control = list(apply(table))
			expectCheck(t, p, 0, cond(table < have, api.OK, api.ErrNotFound))
		}
	}
	expectCheck(t, api.Program{Control: list(apply(0))}, 0, api.ErrNotFound)
}

// P20.2: two nodes of one table, wherever they stand
func TestCheckDuplicate(t *testing.T) {
	for _, first := range []api.ControlNode{apply(5), hit(5, nil, nil)} {
		for _, second := range []api.ControlNode{apply(5), hit(5, nil, nil), {Kind: api.ControlApply, Table: 5, Then: list(apply(1))}} {
			expectCheck(t, sample(first, second), 1, api.ErrDuplicate)
			expectCheck(t, sample(first, apply(4), second), 2, api.ErrDuplicate)
			expectCheck(t, sample(when(yes, list(first), list(second))), 2, api.ErrDuplicate)
			expectCheck(t, sample(when(yes, list(when(yes, nil, list(first))), nil), second), 3, api.ErrDuplicate)
			expectCheck(t, sample(hit(5, list(second), nil)), 1, api.ErrDuplicate)
			expectCheck(t, sample(hit(5, nil, list(apply(1), second))), 2, api.ErrDuplicate)
			expectCheck(t, sample(first, second, second), 1, api.ErrDuplicate)
			expectCheck(t, sample(first, second, api.ControlNode{}), 1, api.ErrDuplicate)
			expectCheck(t, sample(first, api.ControlNode{}, second), 1, api.ErrKind)
		}
	}
	gate := when(yes, nil, nil)
	gate.Table = 5
	expectCheck(t, sample(gate, apply(5), gate), 0, api.OK)
	expectCheck(t, sample(hit(0, list(apply(1)), list(apply(2))), hit(3, list(apply(4)), list(apply(5)))), 0, api.OK)
	all := nodes{}
	for table := range 12 {
		all = append(all, hit(11-table, nil, nil))
	}
	expectCheck(t, sample(all...), 0, api.OK)
	for table := range 12 {
		expectCheck(t, sample(append(all, apply(table))...), 12, api.ErrDuplicate)
	}
}

// P20.2: conditions
func TestCheckCondition(t *testing.T) {
	long := slices.Repeat([]api.ExprNode{{Op: api.ExprNot}}, 23)
	for _, x := range []struct {
		cond []api.ExprNode
		want api.Errno
	}{
		{constant(0, 1), api.OK},
		{constant(1, 1), api.OK},
		{valid(0), api.OK},
		{field(0, 0), api.OK},
		{field(-1, 2), api.OK},
		{append(slices.Clone(long), yes...), api.OK},
		{slices.Concat([]api.ExprNode{{Op: api.ExprLess}}, field(-1, 0), field(-1, 1)), api.OK},
		{slices.Concat([]api.ExprNode{{Op: api.ExprEqual}}, field(0, 1), constant(127, 7)), api.OK},
		{nil, api.ErrShort},
		{[]api.ExprNode{}, api.ErrShort},
		{long, api.ErrShort},
		{append(constant(1, 1), constant(1, 1)...), api.ErrLong},
		{append(slices.Clone(long), append(constant(1, 1), constant(1, 1)...)...), api.ErrLimit},
		{make([]api.ExprNode, 25), api.ErrLimit},
		{make([]api.ExprNode, 24), api.ErrKind},
		{[]api.ExprNode{{Op: api.ExprParam}}, api.ErrNotFound},
		{[]api.ExprNode{{Op: api.ExprParam, N: -1}}, api.ErrNotFound},
		{valid(1), api.ErrNotFound},
		{valid(-1), api.ErrNotFound},
		{field(-1, 3), api.ErrNotFound},
		{field(0, 3), api.ErrNotFound},
		{constant(2, 1), api.ErrRange},
		{constant(-1, 1), api.ErrRange},
		{field(0, 2), api.ErrWidth},
		{constant(1, 0), api.ErrWidth},
		{constant(1, 33), api.ErrWidth},
		{slices.Concat([]api.ExprNode{{Op: api.ExprLess}}, field(-1, 0), field(-1, 2)), api.ErrWidth},
	} {
		expectNode(t, when(x.cond, nil, nil), x.want)
		n := hit(0, nil, nil)
		n.Cond = x.cond
		expectNode(t, n, api.OK)
		n.Kind = api.ControlApply
		expectNode(t, n, api.OK)
	}
	for w := 2; w <= 32; w++ {
		expectNode(t, when(constant(1, w), nil, nil), api.ErrWidth)
		p := sample(when(field(-1, 0), nil, nil))
		p.Metadata[0].Width = w
		expectCheck(t, p, 0, api.ErrWidth)
	}
	expectNode(t, when(field(0, 1), nil, nil), api.ErrWidth)
}

// P20.2: branches of a table that is just applied
func TestCheckSyntax(t *testing.T) {
	for _, branch := range []nodes{list(apply(1)), list(api.ControlNode{}), list(when(yes, nil, nil), apply(99)), nested(5, apply(0))} {
		n := apply(0)
		n.Then = branch
		expectCheck(t, sample(n), 0, api.ErrSyntax)
		expectCheck(t, sample(apply(8), n), 1, api.ErrSyntax)
		n.Then, n.Else = nil, branch
		expectCheck(t, sample(n), 0, api.ErrSyntax)
		expectCheck(t, sample(hit(8, nil, list(n))), cond(control.Nesting(branch) < 5, 1, -1), cond(control.Nesting(branch) < 5, api.ErrSyntax, api.ErrOrder))
		n.Then = branch
		expectCheck(t, sample(n), 0, api.ErrSyntax)
		n.Table = 12
		expectCheck(t, sample(n), 0, api.ErrNotFound)
		n.Table = 8
		expectCheck(t, sample(apply(8), n), 1, api.ErrDuplicate)
	}
	n := apply(0)
	n.Then, n.Else = nodes{}, list(apply(1))[:0]
	expectNode(t, n, api.OK)
	expectNode(t, hit(0, list(apply(1)), list(apply(2))), api.OK)
	expectNode(t, when(yes, list(apply(1)), list(apply(2))), api.OK)
}

// fault is an error that a control flow may have, and where.
type fault struct {
	has  bool
	at   int
	code api.Errno
}

// faultsOf lists all that may be wrong with node i of the flat list, in the document's order.
func faultsOf(p api.Program, l []flat, i int) []fault {
	n := l[i].node
	applies := n.Kind == 1 || n.Kind == 3
	earlier := slices.ContainsFunc(l[:i], func(f flat) bool { return f.node.Kind != 2 && f.node.Table == n.Table })
	w, e := expr.Check(n.Cond, expr.Scope{Program: p})
	return []fault{
		{n.Kind != 2 && !applies, i, api.ErrKind},
		{applies && (n.Table < 0 || n.Table >= len(p.Tables)), i, api.ErrNotFound},
		{applies && earlier, i, api.ErrDuplicate},
		{n.Kind == 2 && e != api.OK, i, e},
		{n.Kind == 2 && w != 1, i, api.ErrWidth},
		{n.Kind == 1 && len(n.Then)+len(n.Else) > 0, i, api.ErrSyntax},
	}
}

func firstFault(p api.Program) fault {
	l := flattened(p.Control)
	deepest := 0
	for _, f := range l {
		deepest = max(deepest, f.depth)
	}
	faults := []fault{{len(l) > 24, -1, api.ErrLimit}, {deepest > 6, -1, api.ErrOrder}}
	for i := range l {
		faults = append(faults, faultsOf(p, l, i)...)
	}
	i := slices.IndexFunc(faults, func(f fault) bool { return f.has })
	if i < 0 {
		return fault{}
	}
	return faults[i]
}

// maker makes control flows: valid ones where spoil is 0, and otherwise such of which one node in spoil is wrong in some way.
type maker struct {
	*random
	tables []int // still to be applied
	spoil  int
}

func (m *maker) nodes(depth int) nodes {
	var l nodes
	for range m.below(4) {
		l = append(l, m.node(depth))
	}
	return l
}

func (m *maker) node(depth int) api.ControlNode {
	n := when(pick(m.random, [][]api.ExprNode{constant(0, 1), yes, valid(0), field(0, 0), field(-1, 2)}), nil, nil)
	if len(m.tables) > 0 && !m.chance(3) {
		n = hit(m.tables[0], nil, nil)
		m.tables = m.tables[1:]
	}
	if depth > 1 && !m.chance(4) {
		n.Then, n.Else = m.nodes(depth-1), m.nodes(depth-1)
	} else if n.Kind == api.ControlHit {
		n.Kind = api.ControlApply
	}
	if m.spoil > 0 && m.chance(m.spoil) {
		m.wrong(&n)
	}
	return n
}

func (m *maker) wrong(n *api.ControlNode) {
	switch m.below(5) {
	case 0:
		n.Kind = m.below(6)
	case 1:
		n.Table = m.below(16) - 2
	case 2:
		n.Cond = pick(m.random, [][]api.ExprNode{nil, constant(1, 2), valid(1), field(0, 1), append(valid(0), valid(0)...)})
	case 3:
		n.Then = append(n.Then, apply(m.below(14)))
	default:
		n.Else = append(n.Else, nested(1+m.below(4), apply(m.below(14)))...)
	}
}

// P20.2: random control flows, held against firstFault
func TestRandomChecks(t *testing.T) {
	r := random(202)
	codes := map[api.Errno]int{}
	for range 10000 {
		m := maker{random: &r, tables: []int{7, 3, 11, 0, 2, 9, 5, 1, 10, 4, 8, 6}, spoil: r.below(3) * 6}
		p := sample(m.nodes(1 + r.below(6))...)
		f := firstFault(p)
		codes[f.code]++
		expectCheck(t, p, f.at, f.code)
		if t.Failed() {
			return
		}
	}
	for _, e := range []api.Errno{api.OK, api.ErrLimit, api.ErrOrder, api.ErrKind, api.ErrNotFound, api.ErrDuplicate, api.ErrShort, api.ErrLong, api.ErrWidth, api.ErrSyntax} {
		if codes[e] < 10 {
			t.Errorf("%v comes %d times", e, codes[e])
		}
	}
}

// event is a call of one of Walk's functions, with what it got.
type event struct {
	kind, table int
	cond        string
}

func applied(table int) event { return event{1, table, ""} }

func tested(cond []api.ExprNode) event { return event{2, 0, fmt.Sprint(cond)} }

// decide answers what the function of call number i answers.
func decide(seed uint32, i int) bool {
	r := random(uint64(seed)<<20 + uint64(i))
	return r.chance(2)
}

// walked lists the calls of Walk by P20.3, by a list of what is still to be executed.
func walked(c nodes, seed uint32) []event {
	var l []event
	for left := slices.Clone(c); len(left) > 0; {
		n := left[0]
		left = left[1:]
		yes := decide(seed, len(l))
		switch n.Kind {
		case 1:
			l = append(l, applied(n.Table))
		case 2:
			l = append(l, tested(n.Cond))
			left = slices.Concat(cond(yes, n.Then, n.Else), left)
		case 3:
			l = append(l, applied(n.Table))
			left = slices.Concat(cond(yes, n.Then, n.Else), left)
		}
	}
	return l
}

// calls runs Walk and lists its calls.
func calls(c nodes, seed uint32) []event {
	var l []event
	add := func(e event) bool {
		l = append(l, e)
		return decide(seed, len(l)-1)
	}
	control.Walk(c, func(table int) bool { return add(applied(table)) }, func(cond []api.ExprNode) bool { return add(tested(cond)) })
	return l
}

func expectWalk(t *testing.T, c nodes, seed uint32) {
	t.Helper()
	before := text(c)
	if got, want := calls(c, seed), walked(c, seed); !slices.Equal(got, want) {
		t.Errorf("Walk(%v) calls %v, want %v", c, got, want)
	}
	if text(c) != before {
		t.Error("the list is changed")
	}
}

// P20.3: random lists, held against walked
func TestRandomWalks(t *testing.T) {
	r := random(203)
	for range 1500 {
		c := randomList(&r, r.below(5))
		for range 4 {
			expectWalk(t, c, r.bits())
		}
		if t.Failed() {
			return
		}
	}
}

// expectCalls expects the calls of Walk where every function answers the same.
func expectCalls(t *testing.T, c nodes, answer bool, want ...any) {
	t.Helper()
	var got []any
	control.Walk(c, func(table int) bool {
		got = append(got, table)
		return answer
	}, func(cond []api.ExprNode) bool {
		got = append(got, fmt.Sprint(cond))
		return answer
	})
	if !slices.Equal(got, want) {
		t.Errorf("Walk(%v) calls %v, want %v", c, got, want)
	}
}

// P20.3: what each kind of node does
func TestWalk(t *testing.T) {
	then, otherwise := list(apply(1), apply(2)), list(apply(3), apply(4))
	for _, answer := range []bool{false, true} {
		expectCalls(t, nil, answer)
		expectCalls(t, nodes{}, answer)
		expectCalls(t, list(apply(7), apply(-7), apply(7), apply(math.MaxInt)), answer, 7, -7, 7, math.MaxInt)
		n := apply(9)
		n.Then, n.Else, n.Cond = then, otherwise, yes
		expectCalls(t, list(n, apply(5)), answer, 9, 5)
		for _, kind := range wrongKinds {
			n.Kind = kind
			expectCalls(t, list(n, apply(5), n), answer, 5)
		}
		a, b := cond(answer, 1, 3), cond(answer, 2, 4)
		expectCalls(t, list(hit(8, then, otherwise), apply(5)), answer, 8, a, b, 5)
		expectCalls(t, list(when(yes, then, otherwise), apply(5)), answer, "[{1 1 1}]", a, b, 5)
		expectCalls(t, list(when(nil, then, otherwise)), answer, "[]", a, b)
		expectCalls(t, list(hit(8, nil, nil), when(valid(3), nil, nil)), answer, 8, "[{4 3 0}]")
		n = hit(8, then, otherwise)
		n.Cond = yes
		expectCalls(t, list(n), answer, 8, a, b)
	}
	expectCalls(t, list(hit(8, then, nil)), false, 8)
	expectCalls(t, list(hit(8, nil, otherwise)), true, 8)
	expectCalls(t, list(hit(1, list(hit(2, list(hit(3, nil, nil)), nil)), nil), apply(4)), true, 1, 2, 3, 4)
}

// P20.3: a nil function isn't called, and counts as false
func TestWalkNil(t *testing.T) {
	c := list(hit(8, list(apply(1), when(yes, list(apply(10)), list(apply(11)))), list(apply(2), when(yes, list(apply(12)), list(apply(13))))), when(yes, list(apply(3)), list(apply(4))))
	for _, answer := range []bool{false, true} {
		var tables []int
		control.Walk(c, func(table int) bool {
			tables = append(tables, table)
			return answer
		}, nil)
		if want := cond(answer, []int{8, 1, 11, 4}, []int{8, 2, 13, 4}); !slices.Equal(tables, want) {
			t.Errorf("without test: %v, want %v", tables, want)
		}
		tests := 0
		control.Walk(list(hit(8, list(when(yes, nil, nil)), list(when(yes, nil, nil), when(yes, nil, nil))), when(yes, nil, nil)), nil, func([]api.ExprNode) bool {
			tests++
			return answer
		})
		if tests != 3 {
			t.Errorf("without apply: %d tests", tests)
		}
	}
	control.Walk(c, nil, nil)
	control.Walk(nil, nil, nil)
}

// P20.3: what test does to the condition that it gets doesn't reach the list
func TestWalkKeepsConditions(t *testing.T) {
	behind := append(valid(1), valid(2)...)
	c := list(when(behind[:1], list(apply(1)), nil), when(behind, nil, nil))
	before := text(c)
	for range 2 {
		var got []string
		control.Walk(c, nil, func(cond []api.ExprNode) bool {
			got = append(got, fmt.Sprint(cond))
			_ = append(cond, constant(9, 9)...)
			clear(cond[:cap(cond)])
			return true
		})
		if !slices.Equal(got, []string{"[{4 1 0}]", "[{4 1 0} {4 2 0}]"}) || text(c) != before {
			t.Errorf("the tests get %v, the list is %v", got, c)
		}
	}
}

// numbered sets the Table of every node to the node's number.
func numbered(c nodes, next int) int {
	for i := range c {
		c[i].Table = next
		next = numbered(c[i].Else, numbered(c[i].Then, next+1))
	}
	return next
}

// P20.4: apply is called in preorder, at most once for a node, and only for nodes that apply a table
func TestWalkOrder(t *testing.T) {
	r := random(204)
	longest := 0
	for range 2000 {
		c := randomList(&r, r.below(6))
		numbered(c, 0)
		tables := control.Tables(c)
		var got []int
		control.Walk(c, func(table int) bool {
			got = append(got, table)
			return !r.chance(3)
		}, func([]api.ExprNode) bool { return !r.chance(3) })
		longest = max(longest, len(got))
		for i, table := range got {
			if i > 0 && table <= got[i-1] || !slices.Contains(tables, table) {
				t.Fatalf("Walk(%v) applies %v", c, got)
			}
		}
	}
	if longest < 10 {
		t.Errorf("no walk applies more than %d tables", longest)
	}
}

// P20.1, P20.3: lists as long and as deep as the document lets them be
func TestGreatestLists(t *testing.T) {
	const n = 1 << 16
	deep := nested(n, apply(5))
	if control.Count(deep) != n || control.Nesting(deep) != n {
		t.Errorf("Count %d, Nesting %d", control.Count(deep), control.Nesting(deep))
	}
	if x, ok := control.Node(deep, n-1); !ok || !same(x, apply(5)) {
		t.Errorf("Node = %v, %v", x, ok)
	}
	if x, ok := control.Node(deep, 0); !ok || control.Count(list(x)) != n {
		t.Error("the outermost node is another one")
	}
	tests, tables := 0, []int{}
	control.Walk(deep, func(table int) bool {
		tables = append(tables, table)
		return false
	}, func([]api.ExprNode) bool {
		tests++
		return (n-1-tests)%2 == 0
	})
	if tests != n-1 || !slices.Equal(tables, []int{5}) {
		t.Errorf("%d tests, tables %v", tests, tables)
	}
	wide := slices.Repeat(list(hit(3, list(apply(4)), nil)), n)
	if control.Count(wide) != 2*n || control.Nesting(wide) != 2 || len(control.Tables(wide)) != 2*n {
		t.Errorf("Count %d, Nesting %d", control.Count(wide), control.Nesting(wide))
	}
	expectCheck(t, api.Program{Control: wide}, -1, api.ErrLimit)
	if at, e := control.Check(api.Program{Control: deep}); at != -1 || e != api.ErrLimit {
		t.Errorf("Check = %d, %v", at, e)
	}
}

// P20.1: example 1
func TestExample(t *testing.T) {
	c := list(when(yes, list(apply(10)), list(apply(11), apply(12))))
	if n, ok := control.Node(c, 3); !ok || n.Table != 12 || control.Nesting(c) != 2 {
		t.Errorf("Node(3) = %v, %v, Nesting %d", n, ok, control.Nesting(c))
	}
	expectLists(t, c)
}
