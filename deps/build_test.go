package deps_test

import (
	"slices"
	"testing"

	"patchbay/access"
	"patchbay/api"
	"patchbay/deps"
	"patchbay/progtext"
	"patchbay/units"
)

func share(a, b []int) bool {
	return slices.ContainsFunc(a, func(c int) bool { return slices.Contains(b, c) })
}

// wantDependency is P33.1 for i < j, word by word.
func wantDependency(p api.Program, l []api.Unit, i, j int) int {
	if units.Exclusive(l, i, j) {
		return 0
	}
	for _, g := range l[j].Guards {
		if g.Unit == i {
			return 2
		}
	}
	if share(slices.Concat(access.Reads(p, l[j]), access.Writes(p, l[j])), access.Writes(p, l[i])) {
		return 2
	}
	if share(access.Writes(p, l[j]), access.Reads(p, l[i])) {
		return 1
	}
	return 0
}

func wantMatrix(p api.Program, l []api.Unit) [][]int {
	d := make([][]int, len(l))
	for i := range l {
		d[i] = make([]int, len(l))
		for j := i + 1; j < len(l); j++ {
			d[i][j] = wantDependency(p, l, i, j)
		}
	}
	return d
}

func sameMatrix(a, b [][]int) bool { return slices.EqualFunc(a, b, slices.Equal) }

// expectBuild expects what Build answers, and that nothing else shows what is done with the answer.
func expectBuild(t *testing.T, what string, p api.Program, l []api.Unit, want [][]int) {
	t.Helper()
	l = spare(l, table(0), gate(one(), yes(0)))
	before := text(p, l)
	d := deps.Build(p, l)
	if !sameMatrix(d, want) {
		t.Errorf("%s: Build answers %v, want %v", what, d, want)
	}
	for i := range d {
		others := slices.Concat(d[:i], d[i+1:])
		kept := text(others)
		for j := range d[i][:cap(d[i])] {
			d[i][:cap(d[i])][j] = 7 + i
		}
		if text(others) != kept {
			t.Errorf("%s: rows share memory", what)
		}
	}
	if text(p, l) != before {
		t.Errorf("%s: the arguments are changed", what)
	}
	if again := deps.Build(p, l); !sameMatrix(again, want) {
		t.Errorf("%s: the second time Build answers %v, want %v", what, again, want)
	}
	if own := wantMatrix(p, l); !sameMatrix(own, want) {
		t.Errorf("%s: the tests' own answer: %v, want %v", what, own, want)
	}
}

// expectPair expects the dependency of unit b on unit a.
func expectPair(t *testing.T, what string, p api.Program, a, b api.Unit, want int) {
	t.Helper()
	expectBuild(t, what, p, []api.Unit{a, b}, [][]int{{0, want}, {0, 0}})
}

// expectTables expects the dependencies of two tables on each other, whichever comes first.
func expectTables(t *testing.T, what string, p api.Program, first, second int) {
	t.Helper()
	expectPair(t, what, p, table(0), table(1), first)
	expectPair(t, what+", the other way round", p, table(1), table(0), second)
}

// P33.1: the fields that two tables read and write
func TestBuildOfTables(t *testing.T) {
	in, out, m3, m4 := meta(0), meta(1), meta(3), meta(4)
	for _, x := range []struct {
		what          string
		a, b          []api.FieldRef // keys
		setA, setB    []api.FieldRef
		first, second int
	}{
		{"nothing at all", nil, nil, nil, nil, 0, 0},
		{"a key in common", keys(in), keys(in), nil, nil, 0, 0},
		{"nothing in common", keys(in), keys(out), keys(m3), keys(m4), 0, 0},
		{"one writes the other's key", keys(in), keys(m3), keys(m3), keys(m4), 2, 1},
		{"one writes the other's key, and has no key", nil, keys(m3), keys(m3), nil, 2, 1},
		{"both write a field", keys(in), keys(out), keys(m3), keys(m3), 2, 2},
		{"both write a field that one reads", keys(m3), keys(out), keys(m3), keys(m3), 2, 2},
		{"each writes the other's key", keys(m3), keys(m4), keys(m4), keys(m3), 2, 2},
		{"one reads and writes the other's key", keys(m3), keys(m3), nil, keys(m3), 1, 2},
		{"the last of several", keys(in, out), keys(in, m4), keys(out, m3, m4), keys(meta(5)), 2, 1},
		{"the first of several", keys(in, m4), keys(in, m3, m4), keys(in), keys(meta(5)), 2, 1},
		{"the middle one of several", keys(m4), keys(in, m3, meta(5)), keys(out, m3, m4), keys(ref(0, 0), ref(1, 1)), 2, 1},
		{"fields of headers", keys(ref(0, 0)), keys(ref(1, 0)), keys(ref(1, 0)), nil, 2, 1},
		{"fields of one number in other headers", keys(ref(0, 0)), keys(ref(0, 1)), keys(ref(1, 1)), nil, 0, 0},
	} {
		p := sample()
		var a, b []api.Statement
		for _, r := range x.setA {
			a = append(a, set(r))
		}
		for _, r := range x.setB {
			b = append(b, set(r))
		}
		expectTables(t, x.what, with(with(p, x.a, a...), x.b, b...), x.first, x.second)
	}
}

// P33.1: cells of the other kinds, and what the actions read
func TestBuildOfCells(t *testing.T) {
	for _, x := range []struct {
		what          string
		a, b          api.Statement
		first, second int
	}{
		{"a field read", set(meta(3)), keep(0, field(meta(3))), 2, 1},
		{"a register written and read", keep(0, one()), load(meta(3), 0), 2, 1},
		{"a register written twice", keep(0, one()), keep(0, one()), 2, 2},
		{"a register read twice", load(meta(3), 0), load(meta(4), 0), 0, 0},
		{"two registers", keep(0, one()), load(meta(3), 1), 0, 0},
		{"a header added that a field is set in", add(0), set(ref(0, 1)), 2, 2}, // the field itself, beside the validity
		{"a header added twice", add(1), add(1), 2, 2},
		{"two headers added", add(0), add(1), 0, 0},
		{"a header added and removed", add(1), remove(1), 2, 2},
		{"a header removed of which a field is read", remove(0), keep(0, field(ref(0, 0))), 2, 1},
		{"two fields of a header set", set(ref(1, 0)), set(ref(1, 1)), 0, 0}, // both read the validity
	} {
		expectTables(t, x.what, with(with(sample(), nil, x.a), nil, x.b), x.first, x.second)
	}
	p := sample()
	p.Headers[0].Fields = nil // of a header without fields the validity alone is written
	for what, x := range map[string]struct {
		s    api.Statement
		want int
	}{"added": {add(0), 2}, "removed": {remove(0), 1}} {
		expectTables(t, "a header without fields added, and "+what, with(with(p, nil, add(0)), nil, x.s), 2, 2)
		q := with(with(p, nil, x.s), nil, keep(0, []api.ExprNode{{Op: api.ExprIf}, {Op: api.ExprValid}, one()[0], one()[0]}))
		expectTables(t, "a header without fields "+what+", its validity read", q, 2, 1)
	}
}

// P33.1: every action that a table lists counts
func TestBuildOfActions(t *testing.T) {
	p := with(with(with(sample(), keys(meta(0)), set(meta(3))), keys(meta(1)), set(meta(4))), keys(meta(3)), set(meta(5)))
	expectBuild(t, "one action each", p, []api.Unit{table(1), table(0), table(2)}, [][]int{{0, 0, 0}, {0, 0, 2}, {0, 0, 0}})
	p.Tables[1].Actions = []int{1, 0}
	expectBuild(t, "a table with two actions", p, []api.Unit{table(1), table(0), table(2)}, [][]int{{0, 2, 2}, {0, 0, 2}, {0, 0, 0}})
	p.Tables[1].Actions = []int{-1, 3, 9}
	expectBuild(t, "actions that are not there", p, []api.Unit{table(1), table(0), table(2)}, [][]int{{0, 0, 0}, {0, 0, 2}, {0, 0, 0}})
}

// P33.1: gates read and never write
func TestBuildOfGates(t *testing.T) {
	p := with(sample(), keys(meta(0)), set(meta(3)), remove(1))
	valid := []api.ExprNode{{Op: api.ExprValid, N: 1}}
	for _, x := range []struct {
		what          string
		cond          []api.ExprNode
		first, second int // of the gate on the table, of the table on the gate
	}{
		{"nothing", nil, 0, 0},
		{"a constant", one(), 0, 0},
		{"a field that the table reads", isZero(meta(0)), 0, 0},
		{"a field that the table writes", isZero(meta(3)), 2, 1},
		{"another field", isZero(meta(4)), 0, 0},
		{"a header that the table removes", valid, 2, 1},
		{"a field of that header", isZero(ref(1, 1)), 2, 1},
		{"another header", []api.ExprNode{{Op: api.ExprValid, N: 0}}, 0, 0},
		{"what isn't there", []api.ExprNode{{Op: api.ExprValid, N: 2}, {Op: api.ExprField, N: -1, W: 6}}, 0, 0},
	} {
		expectPair(t, x.what, p, table(0), gate(x.cond), x.first)
		expectPair(t, x.what+", the gate first", p, gate(x.cond), table(0), x.second)
		expectPair(t, x.what+", two gates", p, gate(x.cond), gate(x.cond), 0)
	}
}

// P33.1: guards that refer to the earlier unit
func TestBuildOfGuards(t *testing.T) {
	p := with(with(sample(), keys(meta(0)), set(meta(3))), keys(meta(1)), set(meta(4)))
	for _, g := range []api.Guard{yes(0), no(0)} {
		expectPair(t, "a guard on a gate", p, gate(isZero(meta(5))), table(0, g), 2)
		expectPair(t, "a guard on a table", p, table(0), table(1, g), 2)
		expectPair(t, "a guard on what reads what the unit writes", p, gate(isZero(meta(3))), table(0, g), 2)
		expectPair(t, "a guard of a gate", p, gate(isZero(meta(5))), gate(nil, g), 2)
		expectPair(t, "a guard among others", p, table(0), table(1, no(1), yes(9), g, no(7)), 2)
		expectPair(t, "a guard of the earlier unit on itself", p, table(0, g), table(1), 0)
	}
	for _, g := range []api.Guard{yes(1), no(1)} {
		expectPair(t, "a guard of the earlier unit on the later", p, table(0, g), table(1), 0)
		expectPair(t, "a guard of the later unit on itself", p, table(0), table(1, g), 0)
	}
	for _, n := range wrongNumbers {
		expectPair(t, "a guard on a unit that is not there", p, table(0), table(1, yes(n)), 0)
		expectPair(t, "a guard on a unit that is not there, beside another", p, table(0), table(1, yes(n), no(0)), 2)
		expectPair(t, "guards on a unit that is not there", p, table(0, yes(n)), table(1, yes(n)), 0)
		expectPair(t, "guards on a unit that is not there that contradict each other", p, table(0, yes(n)), table(0, no(n)), 0)
	}
	l := []api.Unit{gate(nil), gate(nil, yes(0)), table(0, yes(0), no(1)), table(1, no(2), yes(0), no(2))}
	expectBuild(t, "guards on several units", p, l, [][]int{{0, 2, 2, 2}, {0, 0, 2, 0}, {0, 0, 0, 2}, {0, 0, 0, 0}})
}

// P33.1: units that exclude each other don't depend on each other, whatever they have in common
func TestBuildOfExclusiveUnits(t *testing.T) {
	p := with(with(with(sample(), keys(meta(3)), set(meta(3))), keys(meta(3)), set(meta(4))), keys(meta(0)), set(meta(3)))
	both := func(first, second []api.Guard) []api.Unit {
		return []api.Unit{gate(one()), table(0, first...), table(1, second...), table(2, second...)}
	}
	for _, x := range []struct {
		what          string
		first, second []api.Guard
		want          [3]int // the dependencies of unit 2 on 1, of 3 on 1, and of 3 on 2
	}{
		{"no guards", nil, nil, [3]int{2, 2, 1}},
		{"the two branches of a unit", []api.Guard{yes(0)}, []api.Guard{no(0)}, [3]int{0, 0, 1}},
		{"the other branches", []api.Guard{no(0)}, []api.Guard{yes(0)}, [3]int{0, 0, 1}},
		{"one branch", []api.Guard{yes(0)}, []api.Guard{yes(0)}, [3]int{2, 2, 1}},
		{"a branch and none", []api.Guard{yes(0)}, nil, [3]int{2, 2, 1}},
		{"branches of two units", []api.Guard{yes(0)}, []api.Guard{no(9)}, [3]int{2, 2, 1}},
		{"branches of one unit further inside", []api.Guard{yes(0), no(9)}, []api.Guard{yes(0), yes(9)}, [3]int{0, 0, 1}},
		{"a guard on the other unit in another branch", []api.Guard{yes(0)}, []api.Guard{yes(1), no(0)}, [3]int{0, 0, 1}},
		{"a guard that contradicts itself", nil, []api.Guard{yes(9), no(9)}, [3]int{2, 2, 0}},
	} {
		d := wantMatrix(p, both(x.first, x.second))
		if got := [3]int{d[1][2], d[1][3], d[2][3]}; got != x.want {
			t.Errorf("%s: the tests' own answer: %v, want %v", x.what, got, x.want)
		}
		expectBuild(t, x.what, p, both(x.first, x.second), d)
	}
}

// P33.1: no units, and units of tables that are not there
func TestBuildOfNothing(t *testing.T) {
	p := with(sample(), keys(meta(3)), set(meta(3)))
	for what, l := range map[string][]api.Unit{"nil": nil, "no units": {}} {
		expectBuild(t, what, p, l, nil)
		expectBuild(t, what+", no program", api.Program{}, l, nil)
	}
	expectBuild(t, "one unit", p, []api.Unit{table(0, yes(0))}, [][]int{{0}})
	expectPair(t, "a table twice", p, table(0), table(0), 2)
	for _, n := range slices.Concat(wrongNumbers, []int{1}) {
		u := api.Unit{Table: n, Cond: isZero(meta(4))}
		expectPair(t, "a table that is not there", p, table(0), u, 0)
		expectPair(t, "a table that is not there first", p, u, table(0), 0)
		u.Guards = []api.Guard{no(0)}
		expectPair(t, "a table that is not there, with a guard", p, table(0), u, 2)
		expectPair(t, "no program, with a guard", api.Program{}, table(0), u, 2)
	}
	expectPair(t, "no program", api.Program{}, table(0), table(0), 0)
	faulty := p
	faulty.Name, faulty.Control, faulty.States = "", []api.ControlNode{{Kind: 9}}, nil // no promise asks for a valid program
	expectPair(t, "a faulty program", faulty, table(0), table(0), 2)
}

// P33.1: a program's own units
func TestBuildOfProgram(t *testing.T) {
	p, line, e := progtext.Parse(`program p header h { a: 8 }
metadata { in: 8 out: 8 drop: 1 x: 8 y: 8 }
action setx(v: 8) { meta.x = @v }
action sety(v: 8) { meta.y = @v }
action none() { }
table first { key meta.in: exact actions setx default setx(1) size 4 }
table left { key meta.in: exact actions sety default sety(1) size 4 }
table right { key meta.in: exact actions sety default sety(2) size 4 }
table last { key meta.y: exact key meta.x: exact actions none default none() size 4 }
table other { key h.a: exact actions setx default setx(3) size 4 }
state s { extract h default accept }
control { apply first if (meta.x == 3:8) { apply left } else { apply right } apply last apply other }
deparser h`)
	if e != api.OK {
		t.Fatalf("line %d: %v", line, e)
	}
	d := [][]int{
		{0, 2, 0, 0, 2, 2}, // first: the gate and last read x, other writes it
		{0, 0, 2, 2, 0, 1}, // the gate: left and right are guarded by it; other writes x
		{0, 0, 0, 0, 2, 0}, // left excludes right; last reads y
		{0, 0, 0, 0, 2, 0},
		{0, 0, 0, 0, 0, 1},
		{0, 0, 0, 0, 0, 0},
	}
	expectBuild(t, "a program", p, units.Build(p), d)
	if s := deps.EarliestStages(d); !slices.Equal(s, []int{0, 1, 2, 2, 3, 3}) {
		t.Errorf("the earliest stages are %v", s)
	}
	if l := deps.CriticalPath(d); !slices.Equal(l, []int{0, 1, 2, 4}) {
		t.Errorf("the critical path is %v", l)
	}
}

// randomRef answers a field that may not be there.
func randomRef(r *random) api.FieldRef {
	if r.chance(5) {
		return ref(r.below(5)-2, r.below(7))
	}
	return pick(r, keys(ref(0, 0), ref(1, 1), meta(0), meta(3), meta(4), meta(5)))
}

func randomStatement(r *random) api.Statement {
	fields := keys(ref(0, 0), ref(0, 1), ref(1, 0), ref(1, 1), meta(0), meta(1), meta(3), meta(4), meta(5))
	switch r.below(9) {
	case 0:
		return add(r.below(2))
	case 1:
		return remove(r.below(2))
	case 2:
		return load(pick(r, fields), r.below(2))
	case 3:
		return keep(r.below(2), field(pick(r, fields)))
	case 4:
		return api.Statement{Kind: api.StmtAssign, Dst: pick(r, fields), Value: field(pick(r, fields))}
	}
	return set(pick(r, fields))
}

// randomUnits answers a program and any units, among them some of tables that are not there.
func randomUnits(r *random) (api.Program, []api.Unit) {
	p := sample()
	for range 1 + r.below(6) {
		var keys []api.FieldRef
		var body []api.Statement
		for range r.below(6) {
			keys = append(keys, randomRef(r))
		}
		for range r.below(3) {
			body = append(body, randomStatement(r))
		}
		p = with(p, keys, body...)
	}
	var l []api.Unit
	for range r.below(8) {
		u := table(r.below(len(p.Tables)+2) - 1)
		if u.Table == -1 || r.chance(6) {
			u = gate(isZero(randomRef(r)))
		}
		for range r.below(2) * r.below(4) {
			u.Guards = append(u.Guards, api.Guard{Unit: r.below(9) - 1, Want: r.chance(2)})
		}
		l = append(l, u)
	}
	return p, l
}

// P33.1: random programs and units, held against the words of the promise
func TestRandomBuild(t *testing.T) {
	r := random(331)
	kinds := map[int]int{}
	for range 5000 {
		p, l := randomUnits(&r)
		want := wantMatrix(p, l)
		expectBuild(t, "random units", p, l, want)
		for i := range want {
			for _, kind := range want[i][i+1:] {
				kinds[kind]++
			}
		}
		if t.Failed() {
			t.Logf("the program is %+v, the units are %+v", p, l)
			return
		}
	}
	if kinds[0] < 2000 || kinds[1] < 1000 || kinds[2] < 2000 {
		t.Errorf("the dependencies are %v", kinds)
	}
}

// P33.1: far more units and guards than a program has
func TestBuildOfManyUnits(t *testing.T) {
	const n = 1501
	p := with(with(sample(), keys(meta(0)), set(meta(3))), keys(meta(3)), set(meta(4)))
	kinds := [3][3]int{{2, 2, 0}, {1, 2, 0}, {0, 0, 0}} // of table 0, which writes what table 1 reads, of table 1, and of no table
	l := make([]api.Unit, n)
	for i := range l {
		l[i] = table(i%3, yes(n+i%2))
	}
	many := slices.Repeat([]api.Guard{yes(n)}, 5000)
	l[0].Guards, l[n-1].Guards = many, slices.Concat(many, []api.Guard{no(n + 1)})
	d := deps.Build(p, l)
	for i := range n {
		for j := range n {
			want := 0
			if i < j && (j < n-1 || i%2 == 0) { // the last unit excludes those of the odd numbers
				want = kinds[i%3][j%3]
			}
			if d[i][j] != want {
				t.Fatalf("d[%d][%d] is %d, want %d", i, j, d[i][j], want)
			}
		}
	}
}
