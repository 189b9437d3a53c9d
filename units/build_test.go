package units_test

import (
	"slices"
	"testing"

	"patchbay/api"
	"patchbay/control"
	"patchbay/units"
)

// around is a branch that encloses a node: the number of the enclosing node, and which of its branches it is.
type around struct {
	node int
	then bool
}

// flat is a node out of its list, with the branches around it.
type flat struct {
	node   api.ControlNode
	around []around
}

func flatOf(c nodes, l []around) []flat {
	var all []flat
	for _, n := range c {
		all = append(all, flat{n, l})
	}
	return all
}

// wantUnits is the chapter's definition of units, by a list of the nodes that are still to be taken.
func wantUnits(c nodes) []api.Unit {
	var l []api.Unit
	for left := flatOf(c, nil); len(left) > 0; {
		f := left[0]
		u := table(f.node.Table)
		if f.node.Kind == api.ControlIf {
			u = gate(f.node.Cond)
		}
		for _, a := range f.around {
			u.Guards = append(u.Guards, api.Guard{Unit: a.node, Want: a.then})
		}
		then := flatOf(f.node.Then, slices.Concat(f.around, []around{{len(l), true}}))
		otherwise := flatOf(f.node.Else, slices.Concat(f.around, []around{{len(l), false}}))
		l, left = append(l, u), slices.Concat(then, otherwise, left[1:])
	}
	return l
}

// expectBuild expects what Build answers. The list ends ahead of its memory in one of two tries.
func expectBuild(t *testing.T, what string, p api.Program, want []api.Unit) {
	t.Helper()
	for _, x := range []api.Program{p, copied(p)} {
		before := text(x)
		l := units.Build(x)
		if !same(l, want) {
			t.Errorf("%s: Build answers %+v, want %+v", what, l, want)
		}
		expectApart(t, what, l, x)
		for i := range l { // what is done with an answer shows nowhere else
			l[i].Table = 77
			clear(l[i].Cond[:cap(l[i].Cond)])
			clear(l[i].Guards[:cap(l[i].Guards)])
		}
		if text(x) != before {
			t.Errorf("%s: the program is changed", what)
		}
		if again := units.Build(x); !same(again, want) {
			t.Errorf("%s: the second time Build answers %+v, want %+v", what, again, want)
		}
	}
}

// expectWanted is expectBuild with the tests' own answer.
func expectWanted(t *testing.T, what string, p api.Program) {
	t.Helper()
	expectBuild(t, what, p, wantUnits(p.Control))
}

// P32.1, P32.3: the chapter's example
func TestExample(t *testing.T) {
	p := sample(apply(0), when(cond(5), list(apply(1)), list(apply(2))))
	expectBuild(t, "the example", p, []api.Unit{table(0), gate(cond(5)), table(1, yes(1)), table(2, no(1))})
	l := units.Build(p)
	if !units.Exclusive(l, 2, 3) || units.Exclusive(l, 0, 2) {
		t.Errorf("Exclusive of 2, 3: %v, of 0, 2: %v", units.Exclusive(l, 2, 3), units.Exclusive(l, 0, 2))
	}
}

// P32.1: nodes of each kind, and lists of several
func TestBuild(t *testing.T) {
	c := cond(1)
	for _, x := range []struct {
		what    string
		control nodes
		want    []api.Unit
	}{
		{"nothing", nil, nil},
		{"an empty list", nodes{}, nil},
		{"a table", list(apply(7)), []api.Unit{table(7)}},
		{"tables", list(apply(3), apply(0), apply(2)), []api.Unit{table(3), table(0), table(2)}},
		{"a condition", list(when(c, nil, nil)), []api.Unit{gate(c)}},
		{"a table with branches", list(hit(4, list(apply(1)), list(apply(2)))), []api.Unit{table(4), table(1, yes(0)), table(2, no(0))}},
		{"a table with an empty branch", list(hit(4, nil, list(apply(2)))), []api.Unit{table(4), table(2, no(0))}},
		{"branches of several nodes", list(when(c, list(apply(1), apply(2)), list(apply(3), apply(4))), apply(5)), []api.Unit{gate(c), table(1, yes(0)), table(2, yes(0)), table(3, no(0)), table(4, no(0)), table(5)}},
		{"one condition twice", list(when(c, list(apply(1)), nil), when(c, nil, list(apply(2)))), []api.Unit{gate(c), table(1, yes(0)), gate(c), table(2, no(2))}},
		{"conditions in each other", list(apply(0), when(cond(1), list(when(cond(2), list(apply(1)), list(apply(2)))), list(when(cond(3), list(apply(3)), list(apply(4)))))), []api.Unit{
			table(0), gate(cond(1)),
			gate(cond(2), yes(1)), table(1, yes(1), yes(2)), table(2, yes(1), no(2)),
			gate(cond(3), no(1)), table(3, no(1), yes(5)), table(4, no(1), no(5)),
		}},
		{"tables and conditions in each other", list(hit(0, list(when(c, nil, list(hit(1, list(apply(2)), nil), apply(3)))), nil), apply(4)), []api.Unit{
			table(0), gate(c, yes(0)), table(1, yes(0), no(1)), table(2, yes(0), no(1), yes(2)), table(3, yes(0), no(1)), table(4),
		}},
	} {
		expectBuild(t, x.what, sample(x.control...), x.want)
		expectWanted(t, x.what, sample(x.control...))
	}
}

// P32.1: what a node of a kind does not use
func TestUnusedParts(t *testing.T) {
	wrong := []api.ExprNode{{Op: 99}}
	a, h, w := apply(1), hit(2, list(apply(3)), nil), when(cond(1), list(apply(4)), nil)
	a.Cond, h.Cond = wrong, cond(2)
	for _, n := range append([]int{0, 1}, wrongNumbers...) {
		w.Table = n
		expectBuild(t, "a table of a condition", sample(a, h, w), []api.Unit{table(1), table(2), table(3, yes(1)), gate(cond(1)), table(4, yes(3))})
	}
}

// P32.1: lists and conditions that stand in more than one place
func TestSharedParts(t *testing.T) {
	c := cond(1)
	empty := list(when(c, nil, nil), when(c, nodes{}, nil))
	twice := list(when(c, empty, empty), when(c, empty, nil))
	expectWanted(t, "nodes in several places", sample(slices.Concat(twice, twice)...))
}

// P32.1: the greatest nesting and the greatest number of nodes, and one more
func TestLimits(t *testing.T) {
	for depth := 1; depth <= api.MaxNesting; depth++ {
		p := sample(nested(depth, apply(20))...)
		expectWanted(t, "nested", p)
		if l := units.Build(p); len(l) != depth || len(l[depth-1].Guards) != depth-1 {
			t.Errorf("a nesting of %d: %+v", depth, l)
		}
	}
	expectBuild(t, "nested too deep", sample(nested(api.MaxNesting+1, apply(20))...), nil)
	var l nodes
	for i := range api.MaxControl {
		l = append(l, apply(i))
	}
	expectWanted(t, "as many nodes as there may be", sample(l...))
	expectBuild(t, "a node too many", sample(append(l, when(cond(1), nil, nil))...), nil)
	expectWanted(t, "as many nodes as there may be", sample(apply(0), hit(1, l[2:10], l[10:])))
	expectBuild(t, "a node too many", sample(apply(0), hit(1, append(list(when(cond(1), nil, nil)), l[2:10]...), l[10:])), nil)
}

// P32.1: no units of a control flow that control.Check rejects
func TestRejected(t *testing.T) {
	branching := func(n api.ControlNode) api.ControlNode {
		n.Else = list(apply(5))
		return n
	}
	wrong := []api.ControlNode{
		branching(apply(1)),
		apply(6), // a second time
		hit(6, nil, nil),
		hit(7, list(apply(7)), nil),
		when(nil, nil, nil),
		when([]api.ExprNode{{Op: api.ExprConst, N: 1, W: 8}}, nil, nil),
		when([]api.ExprNode{{Op: api.ExprParam, N: 0}}, nil, nil),
		when([]api.ExprNode{{Op: api.ExprValid, N: 1}}, nil, nil),
		when(append(cond(1), cond(1)...), nil, nil),
	}
	for _, kind := range wrongKinds {
		wrong = append(wrong, api.ControlNode{Kind: kind, Table: 8, Cond: cond(1)})
	}
	for _, i := range append([]int{api.MaxControl}, wrongNumbers...) {
		wrong = append(wrong, apply(i), hit(i, nil, nil))
	}
	for _, n := range wrong {
		for _, c := range []nodes{list(apply(6), n), list(apply(6), n, apply(9)), list(hit(6, list(apply(9), n), nil)), list(when(cond(1), list(apply(6)), list(n)))} {
			if _, e := control.Check(sample(c...)); e == api.OK {
				t.Errorf("the node %+v is right", n)
			}
			expectBuild(t, "a wrong node", sample(c...), nil)
		}
	}
	for _, p := range []api.Program{{Control: list(apply(0))}, {Control: list(when(cond(1), nil, nil))}} {
		expectBuild(t, "a node on what is not there", p, nil)
	}
	expectBuild(t, "no program", api.Program{}, nil)
}

// P32.1, P32.4: random control flows, held against the chapter's definition
func TestRandomBuild(t *testing.T) {
	r := random(321)
	deepest := 0
	for range 1000 {
		p := randomProgram(&r)
		expectWanted(t, "a random control flow", p)
		l := units.Build(p)
		if n := control.Count(p.Control); len(l) != n {
			t.Errorf("%d units of %d nodes", len(l), n)
		}
		for i, u := range l {
			deepest = max(deepest, len(u.Guards))
			for _, g := range u.Guards {
				if g.Unit < 0 || g.Unit >= i {
					t.Errorf("unit %d has the guard %+v", i, g)
				}
			}
		}
		if t.Failed() {
			t.Logf("the control flow is %+v", p.Control)
			return
		}
	}
	if deepest != api.MaxNesting-1 {
		t.Errorf("the most guards are %d", deepest)
	}
}
