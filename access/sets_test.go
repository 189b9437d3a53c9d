package access_test

import (
	"math"
	"slices"
	"testing"

	"patchbay/access"
	"patchbay/action"
	"patchbay/api"
	"patchbay/env"
)

// expectSets expects what Reads and Writes answer, where nil is an empty list.
func expectSets(t *testing.T, what string, p api.Program, u api.Unit, reads, writes []int) {
	t.Helper()
	before := text(p, u)
	r, w := access.Reads(p, u), access.Writes(p, u)
	if !slices.Equal(r, reads) {
		t.Errorf("%s: Reads = %v, want %v", what, r, reads)
	}
	if !slices.Equal(w, writes) {
		t.Errorf("%s: Writes = %v, want %v", what, w, writes)
	}
	for _, l := range [][]int{r[:cap(r)], w[:cap(w)]} { // what is done with an answer shows nowhere else
		for i := range l {
			l[i] = -7
		}
	}
	if text(p, u) != before {
		t.Errorf("%s: the arguments are changed", what)
	}
	if x, y := access.Reads(p, u), access.Writes(p, u); !slices.Equal(x, reads) || !slices.Equal(y, writes) {
		t.Errorf("%s: the second time: %v, %v, want %v, %v", what, x, y, reads, writes)
	}
	if x, y := wantSets(p, u); !slices.Equal(x, reads) || !slices.Equal(y, writes) {
		t.Errorf("%s: the tests' own answer: %v, %v, want %v, %v", what, x, y, reads, writes)
	}
}

// expectRandomSets is expectSets with the tests' own answer.
func expectRandomSets(t *testing.T, what string, p api.Program, u api.Unit) ([]int, []int) {
	t.Helper()
	reads, writes := wantSets(p, u)
	expectSets(t, what, p, u, reads, writes)
	return reads, writes
}

func table(t int) api.Unit { return api.Unit{Table: t} }

func gate(cond ...api.ExprNode) api.Unit { return api.Unit{Table: -1, Cond: cond} }

// P31.3, P31.4: gates read the fields and headers of their conditions and write nothing
func TestGates(t *testing.T) {
	p := key(sample(assign(meta(1), con(1, 8))), meta(0))
	for _, x := range []struct {
		what string
		unit api.Unit
		want []int
	}{
		{"no condition", gate(), nil},
		{"a constant", gate(con(1, 1)), nil},
		{"a field", gate(fld(ref(0, 1))), []int{1}},
		{"a field of the last header", gate(fld(ref(2, 1))), []int{4}},
		{"a validity bit", gate(val(1)), []int{6}},
		{"a metadata field", gate(fld(meta(2))), []int{10}},
		{"fields in any order, more than once", gate(op(api.ExprIf), val(2), op(api.ExprEqual), fld(meta(1)), fld(ref(0, 0)), op(api.ExprAnd), val(0), op(api.ExprEqual), fld(meta(0)), fld(meta(1))), []int{0, 5, 7, 8, 9}},
		{"a parameter", gate(par(0)), nil},
		{"a list that is no expression", gate(fld(meta(4)), fld(ref(2, 0)), val(0), op(99), fld(meta(4)), op(api.ExprAdd)), []int{3, 5, 12}},
		{"operators with the numbers of fields", gate(api.ExprNode{Op: api.ExprNot, N: 0, W: 1}, api.ExprNode{Op: api.ExprShl, N: 1}, api.ExprNode{Op: 99, N: 2, W: 1}, con(0, 2), par(2)), nil},
		{"wrong fields", gate(fld(ref(0, 3)), fld(ref(1, 0)), fld(ref(3, 0)), fld(ref(-2, 0)), fld(meta(5)), fld(meta(-1)), fld(ref(0, -1))), nil},
		{"wrong headers", gate(val(3), val(-1), val(-2), val(math.MaxInt), val(math.MinInt)), nil},
		{"wrong fields among others", gate(fld(ref(2, 2)), fld(ref(2, 1)), val(3), val(2), fld(meta(1<<32)), fld(ref(1<<32, 0))), []int{4, 7}},
		{"more nodes than an expression has", gate(slices.Repeat(list(fld(meta(3)), val(1), fld(ref(0, 2))), 9)...), []int{2, 6, 11}},
	} {
		expectSets(t, x.what, p, x.unit, x.want, nil)
		guarded := copied(x.unit)
		guarded.Guards = []api.Guard{{Unit: 0, Want: true}, {Unit: 5}}
		expectSets(t, x.what+" with guards", p, guarded, x.want, nil)
	}
	expectSets(t, "a gate of no program", api.Program{}, gate(val(0), fld(meta(0))), nil, nil)
}

// P31.3, P31.4: the condition and the guards of a table don't count
func TestTableIgnores(t *testing.T) {
	p := key(sample(assign(meta(1), con(1, 8))), meta(0))
	u := api.Unit{Cond: list(val(0), fld(ref(0, 0))), Guards: []api.Guard{{Unit: 1, Want: true}}}
	expectSets(t, "a table", p, u, []int{8}, []int{9})
}

// P31.3: the key fields, of any kind
func TestKeys(t *testing.T) {
	for _, x := range []struct {
		what string
		keys []api.FieldRef
		want []int
	}{
		{"no keys", nil, nil},
		{"a key", []api.FieldRef{ref(2, 0)}, []int{3}},
		{"keys of all kinds, in any order", []api.FieldRef{meta(4), ref(0, 2), meta(0), ref(2, 1), ref(0, 0)}, []int{0, 2, 4, 8, 12}},
		{"a key twice", []api.FieldRef{meta(1), ref(0, 1), meta(1)}, []int{1, 9}},
		{"wrong keys", []api.FieldRef{ref(1, 0), ref(3, 0), ref(-2, 1), meta(5), meta(-1), ref(0, 3), ref(math.MaxInt, 0), meta(math.MinInt)}, nil},
		{"wrong keys among others", []api.FieldRef{ref(0, 3), ref(0, 2), meta(1 << 32), meta(3)}, []int{2, 11}},
		{"more keys than a table has", slices.Repeat([]api.FieldRef{ref(2, 1), meta(2)}, 50), []int{4, 10}},
	} {
		p := key(sample(), x.keys...)
		expectSets(t, x.what, p, table(0), x.want, nil)
		for i := range p.Tables[0].Keys {
			p.Tables[0].Keys[i].Kind = 9
		}
		p.Headers[0].Fields[2].Width, p.Metadata[4].Width = 33, 0
		expectSets(t, x.what+", of a kind and of widths that don't exist", p, table(0), x.want, nil)
	}
}

// P31.3, P31.4: each kind of statement
func TestStatements(t *testing.T) {
	for _, x := range []struct {
		what          string
		body          []api.Statement
		reads, writes []int
	}{
		{"nothing", nil, nil, nil},
		{"a constant to a metadata field", []api.Statement{assign(meta(1), con(7, 8))}, nil, []int{9}},
		{"a parameter to a metadata field", []api.Statement{assign(meta(0), par(0))}, nil, []int{8}},
		{"a field to a metadata field", []api.Statement{assign(meta(1), fld(ref(2, 1)))}, []int{4}, []int{9}},
		{"a metadata field to a field", []api.Statement{assign(ref(0, 0), fld(meta(1)))}, []int{5, 9}, []int{0}},
		{"a validity bit", []api.Statement{assign(meta(2), val(1))}, []int{6}, []int{10}},
		{"a field to itself", []api.Statement{assign(ref(2, 0), op(api.ExprAdd), fld(ref(2, 0)), fld(meta(3)))}, []int{3, 7, 11}, []int{3}},
		{"a header added", []api.Statement{add(0)}, []int{5}, []int{0, 1, 2, 5}},
		{"a header without fields added", []api.Statement{add(1)}, []int{6}, []int{6}},
		{"a header removed", []api.Statement{remove(2)}, nil, []int{3, 4, 7}},
		{"a header without fields removed", []api.Statement{remove(1)}, nil, []int{6}},
		{"a register read to a metadata field", []api.Statement{read(meta(1), 0, fld(ref(0, 1)))}, []int{1, 13}, []int{9}},
		{"a register read to a field", []api.Statement{read(ref(2, 0), 1, con(0, 1))}, []int{7, 14}, []int{3}},
		{"a register written", []api.Statement{write(0, list(fld(meta(4))), fld(ref(2, 1)))}, []int{4, 12}, []int{13}},
		{"a register written by validity bits", []api.Statement{write(1, list(val(0)), op(api.ExprIf), val(2), con(1, 16), con(2, 16))}, []int{5, 7}, []int{14}},
		{"a register counted up", []api.Statement{read(meta(0), 0, con(1, 8)), write(0, list(con(1, 8)), op(api.ExprAdd), fld(meta(0)), par(0))}, []int{8, 13}, []int{8, 13}},
		{"all kinds, more than once", []api.Statement{add(0), assign(ref(0, 0), par(0)), remove(2), add(0), assign(meta(1), fld(ref(0, 0))), write(1, list(con(0, 1)), con(1, 16)), remove(0)}, []int{0, 5}, []int{0, 1, 2, 3, 4, 5, 7, 9, 14}},
		{"a statement of no kind", []api.Statement{add(0), {Kind: 6}}, nil, nil},
		{"a statement on what is not there", []api.Statement{add(0), add(3)}, nil, nil},
		{"a value of another width", []api.Statement{add(0), assign(meta(1), con(7, 4))}, nil, nil},
	} {
		expectSets(t, x.what, sample(x.body...), table(0), x.reads, x.writes)
		p := key(sample(x.body...), meta(4), meta(3))
		reads := append([]int{11, 12}, x.reads...)
		slices.Sort(reads)
		expectSets(t, x.what+" behind keys", p, table(0), slices.Compact(reads), x.writes)
	}
}

// P31.3, P31.4: what a statement of a kind does not use
func TestUnusedParts(t *testing.T) {
	full := api.Statement{Dst: ref(0, 0), Register: 1, Header: 2, Index: list(fld(meta(0))), Value: list(fld(meta(1)))}
	for kind, want := range map[int]struct{ reads, writes []int }{
		api.StmtAssign:       {[]int{5, 9}, []int{0}},
		api.StmtAddHeader:    {[]int{7}, []int{3, 4, 7}},
		api.StmtRemoveHeader: {nil, []int{3, 4, 7}},
	} {
		s := full
		s.Kind = kind
		expectSets(t, "a statement with all parts", sample(s), table(0), want.reads, want.writes)
	}
	reading, writing := full, full
	reading.Kind, reading.Register, reading.Value = api.StmtRead, 0, list(op(99), fld(meta(2)))
	expectSets(t, "StmtRead with all parts", sample(reading), table(0), []int{5, 8, 13}, []int{0})
	writing.Kind, writing.Register, writing.Dst = api.StmtWrite, 0, ref(9, 9)
	expectSets(t, "StmtWrite with all parts", sample(writing), table(0), []int{8, 9}, []int{13})
}

// P31.3, P31.4: the actions that a table lists, and no others
func TestActions(t *testing.T) {
	p := sample()
	p.Actions = []api.Action{
		{Name: "out", Body: []api.Statement{assign(meta(1), fld(meta(0)))}},
		{Name: "push", Body: []api.Statement{add(2)}},
		{Name: "wrong", Body: []api.Statement{remove(0), remove(9)}},
		{Name: "1", Body: []api.Statement{remove(0)}},
		{Name: "count", Body: []api.Statement{write(0, list(con(1, 1)), fld(ref(0, 0)))}},
		{Name: "long", Body: slices.Repeat([]api.Statement{remove(0)}, api.MaxBody+1)},
	}
	for _, x := range []struct {
		what          string
		actions       []int
		reads, writes []int
	}{
		{"no actions", nil, nil, nil},
		{"one action", []int{0}, []int{8}, []int{9}},
		{"two actions", []int{4, 1}, []int{0, 7}, []int{3, 4, 7, 13}},
		{"all actions", []int{4, 1, 2, 0, 3, 5}, []int{0, 7, 8}, []int{3, 4, 7, 9, 13}},
		{"an action more than once", []int{0, 0, 4, 0}, []int{0, 8}, []int{9, 13}},
		{"invalid actions", []int{2, 3, 5}, nil, nil},
		{"actions that are not there", []int{6, -1, math.MinInt, math.MaxInt, 1 << 32}, nil, nil},
		{"actions that are not there among others", []int{-1, 4, 6, 0, 1<<32 + 1}, []int{0, 8}, []int{9, 13}},
	} {
		p.Tables = []api.Table{{Actions: []int{3}}, {Actions: x.actions, Default: api.ActionCall{Action: 1}}, {Keys: []api.TableKey{{Field: meta(3)}}, Actions: []int{1}}}
		expectSets(t, x.what, p, table(1), x.reads, x.writes)
		expectSets(t, x.what+": another table", p, table(2), []int{7, 11}, []int{3, 4, 7})
	}
}

// P31.3, P31.4: tables that are not there
func TestWrongTables(t *testing.T) {
	p := key(sample(assign(meta(1), fld(meta(0)))), meta(3))
	expectSets(t, "table 0", p, table(0), []int{8, 11}, []int{9})
	for _, i := range append([]int{1}, wrongNumbers...) {
		u := api.Unit{Table: i, Cond: list(val(0), fld(meta(0)))}
		expectSets(t, "a table that is not there", p, u, nil, nil)
		expectSets(t, "a table of no program", api.Program{}, u, nil, nil)
	}
	expectSets(t, "table 0 of no program", api.Program{}, table(0), nil, nil)
	p.Tables = append(p.Tables, p.Tables[0])[:1]
	expectSets(t, "a table behind the length of the list", p, table(1), nil, nil)
}

// randomRef answers a field that may not be there.
func randomRef(r *random) api.FieldRef { return ref(r.below(6)-2, r.below(5)-r.below(2)) }

// randomNodes answers any row of nodes.
func randomNodes(r *random) []api.ExprNode {
	var l []api.ExprNode
	for range r.below(6) {
		l = append(l, api.ExprNode{Op: pick(r, []int{2, 2, 4, r.below(19)}), N: r.below(6) - 2, W: r.below(5) - r.below(2)})
	}
	return l
}

// randomExpr answers an expression of the given width in the scope of action 0 of the sample.
func randomExpr(r *random, w, depth int) []api.ExprNode {
	of := func(width int) []api.ExprNode { return randomExpr(r, width, depth+1) }
	switch way := r.below(9); {
	case depth < 2 && way == 0:
		return slices.Concat(list(op(api.ExprIf)), of(1), of(w), of(w))
	case depth < 2 && way == 1:
		return slices.Concat(list(op(api.ExprXor)), of(w), of(w))
	case depth < 3 && w == 1 && way == 2:
		return slices.Concat(list(op(api.ExprLess)), of(8), of(8))
	case w == 1 && way < 6:
		return list(val(r.below(3)))
	case way < 8:
		for f, x := range sample().Metadata {
			if x.Width == w {
				return list(fld(meta(f)))
			}
		}
		for h, x := range sample().Headers {
			for f, y := range x.Fields {
				if y.Width == w && !r.chance(3) {
					return list(fld(ref(h, f)))
				}
			}
		}
	}
	return list(con(r.below(1<<min(w, 4)), w))
}

// randomStatement answers a statement that is nearly always valid in the sample.
func randomStatement(r *random) api.Statement {
	dst := pick(r, []api.FieldRef{ref(0, 0), ref(0, 1), ref(0, 2), ref(2, 0), ref(2, 1), meta(0), meta(1), meta(2), meta(3), meta(4)})
	width := env.Width(sample(), dst)
	g := r.below(2)
	s := api.Statement{Kind: 1 + r.below(5), Dst: dst, Register: g, Header: r.below(3), Index: randomExpr(r, 3, 0), Value: randomExpr(r, width, 0)}
	switch s.Kind {
	case api.StmtRead:
		s.Dst = pick(r, [][]api.FieldRef{{ref(0, 0), ref(2, 1), meta(0), meta(1)}, {ref(2, 0), meta(3)}}[g])
	case api.StmtWrite:
		s.Value = randomExpr(r, sample().Registers[g].Width, 0)
	}
	if r.chance(40) {
		s.Header, s.Dst, s.Register, s.Kind = r.below(5)-1, randomRef(r), r.below(4)-1, r.below(7)
	}
	return s
}

// randomProgram answers a program with the cells of the sample, whose tables and actions may be faulty.
func randomProgram(r *random) api.Program {
	p := sample()
	p.Actions, p.Tables = nil, nil
	for range 1 + r.below(6) {
		a := api.Action{Name: "a", Params: widths(8, 3)}
		for range r.below(5) {
			a.Body = append(a.Body, randomStatement(r))
		}
		p.Actions = append(p.Actions, a)
	}
	for range 1 + r.below(3) {
		x := api.Table{Name: "t"}
		for range r.below(4) {
			x.Keys = append(x.Keys, api.TableKey{Field: randomRef(r), Kind: r.below(5)})
		}
		for range r.below(6) {
			x.Actions = append(x.Actions, r.below(len(p.Actions)+2)-1)
		}
		p.Tables = append(p.Tables, x)
	}
	return p
}

// P31.3, P31.4: random programs, held against the words of the promises
func TestRandomSets(t *testing.T) {
	r := random(313)
	tables, reading, writing := 0, 0, 0
	for range 3000 {
		p := randomProgram(&r)
		for i := -2; i <= len(p.Tables); i++ {
			reads, writes := expectRandomSets(t, "a random program", p, api.Unit{Table: i, Cond: randomNodes(&r)})
			if i >= 0 {
				tables, reading, writing = tables+1, reading+len(reads), writing+len(writes)
			}
		}
		if t.Failed() {
			t.Logf("the program is %+v", p)
			return
		}
	}
	if reading < tables || writing < tables {
		t.Errorf("%d tables read %d cells and write %d", tables, reading, writing)
	}
}

// randomEnv answers an environment that fits the sample, or nearly.
func randomEnv(r *random) api.Env {
	p := sample()
	e := env.New(p)
	for h, x := range p.Headers {
		e.Valid[h] = r.chance(2)
		for f, y := range x.Fields {
			if e.Valid[h] || r.chance(9) {
				e.Fields[h][f] = r.bits() >> (32 - y.Width)
			}
		}
	}
	for f, x := range p.Metadata {
		e.Meta[f] = r.bits() >> (32 - x.Width)
	}
	if r.chance(9) {
		e.Valid = e.Valid[:r.below(3)]
	}
	if r.chance(9) {
		e.Fields = e.Fields[:r.below(3)]
	}
	return e
}

// values answers what each cell of the sample holds, and nothing for one that the environment lacks.
func values(e api.Env, rs [][]uint32) []string {
	l := make([]string, access.Cells(sample()))
	for h, vals := range e.Fields {
		for f, v := range vals {
			l[access.FieldCell(sample(), ref(h, f))] = text(v)
		}
	}
	for h, v := range e.Valid {
		l[access.ValidCell(sample(), h)] = text(v)
	}
	for f, v := range e.Meta {
		l[access.FieldCell(sample(), meta(f))] = text(v)
	}
	for r, cells := range rs {
		l[access.RegisterCell(sample(), r)] = text(slices.Clone(cells))
	}
	return l
}

// P31.5: an action of a table changes nothing but the table's Writes.
func TestActionsChangeWrites(t *testing.T) {
	r := random(315)
	changed, kept := make([]int, access.Cells(sample())), 0
	for range 6000 {
		p := randomProgram(&r)
		u := table(r.below(len(p.Tables)))
		writes := access.Writes(p, u)
		for _, a := range p.Tables[u.Table].Actions {
			e := randomEnv(&r)
			rs := [][]uint32{{r.bits() % 256, 2, 3, 4}, {r.bits() % 65536, 9}}
			before := values(e, rs)
			after := values(action.Execute(p, api.ActionCall{Action: a, Args: []uint32{r.bits() % 256, r.bits() % 8}}, e, rs))
			for c := range before {
				switch {
				case before[c] == after[c]:
					kept++
				case !slices.Contains(writes, c):
					t.Errorf("action %d of %+v changes cell %d; Writes = %v", a, p.Actions, c, writes)
					return
				default:
					changed[c]++
				}
			}
		}
	}
	if slices.Min(changed) < 50 || kept < 1000 {
		t.Errorf("the cells are changed %v times, and kept %d times", changed, kept)
	}
}

// P31.3, P31.4: far more headers, fields and listed actions than a program may have
func TestManySets(t *testing.T) {
	const headers, fields, listed = 20000, 30000, 2000000
	p := api.Program{Headers: make([]api.Header, headers), Metadata: make([]api.Field, fields), Actions: []api.Action{{Name: "a", Body: []api.Statement{add(headers - 1)}}}}
	p.Headers[headers-1].Fields = make([]api.Field, fields)
	x := api.Table{Actions: make([]int, listed)}
	var want []int
	for f := range fields {
		x.Keys = append(x.Keys, api.TableKey{Field: meta(fields - 1 - f)})
		want = append(want, f)
	}
	p.Tables = []api.Table{x}
	valid := fields + headers - 1
	if w := access.Writes(p, table(0)); !slices.Equal(w, append(want, valid)) {
		t.Errorf("Writes = %d cells", len(w))
	}
	for f := range want {
		want[f] += fields + headers
	}
	if r := access.Reads(p, table(0)); !slices.Equal(r, append([]int{valid}, want...)) {
		t.Errorf("Reads = %d cells", len(r))
	}
}
