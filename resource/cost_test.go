package resource_test

import (
	"slices"
	"testing"

	"patchbay/api"
	"patchbay/program"
	"patchbay/resource"
)

// wantCost is P34.1, word by word.
func wantCost(p api.Program, t int) api.Resources {
	if program.Check(p).Code != api.OK || t < 0 || t >= len(p.Tables) || len(p.Tables[t].Keys) == 0 {
		return api.Resources{}
	}
	s, k, a := p.Tables[t].Size, 0, 0
	allExact := true
	for _, x := range p.Tables[t].Keys {
		fields := p.Metadata
		if x.Field.Header != api.Metadata {
			fields = p.Headers[x.Field.Header].Fields
		}
		k += fields[x.Field.Field].Width
		allExact = allExact && x.Kind == exact
	}
	for _, i := range p.Tables[t].Actions {
		n := 0
		for _, x := range p.Actions[i].Params {
			n += x.Width
		}
		a = max(a, n)
	}
	d := 8 + a
	if allExact {
		return api.Resources{SRAM: (s*(k+d) + 4095) / 4096}
	}
	return api.Resources{TCAM: (s*k + 2047) / 2048, SRAM: (s*d + 4095) / 4096}
}

// expectCost expects the cost of table t, and that a unit of it costs the same.
func expectCost(t *testing.T, what string, p api.Program, table int, want api.Resources) {
	t.Helper()
	p.Tables = spare(p.Tables, api.Table{Name: "behind", Keys: keys(exact, 8), Actions: []int{0}, Size: 256})
	before := text(p)
	if n := resource.TableCost(p, table); n != want {
		t.Errorf("%s: TableCost of %d = %+v, want %+v", what, table, n, want)
	}
	for _, u := range []api.Unit{{Table: table}, {Table: table, Cond: []api.ExprNode{{Op: 99}}, Guards: []api.Guard{{Unit: 3, Want: true}, {Unit: -9}}}} {
		if n := resource.UnitCost(p, u); n != want {
			t.Errorf("%s: UnitCost of %+v = %+v, want %+v", what, u, n, want)
		}
	}
	if text(p) != before {
		t.Errorf("%s: the program is changed", what)
	}
	if own := wantCost(p, table); own != want {
		t.Errorf("%s: the tests' own answer: %+v, want %+v", what, own, want)
	}
}

func expectValidCost(t *testing.T, what string, p api.Program, table int, want api.Resources) {
	t.Helper()
	expectValid(t, what, p)
	expectCost(t, what, p, table, want)
}

// P34.1: the chapter's examples
func TestExamples(t *testing.T) {
	expectValidCost(t, "256 ternary rows", one(256, keys(ternary, 48), 8, 8), 0, api.Resources{SRAM: 2, TCAM: 6})
	expectValidCost(t, "16 exact rows", one(16, keys(exact, 8), 8), 0, api.Resources{SRAM: 1})
}

// P34.1: tables of each kind
func TestKinds(t *testing.T) {
	for _, x := range []struct {
		what string
		keys []api.TableKey
		want api.Resources // for 256 rows, no arguments and 64 key bits
	}{
		{"exact keys", keys(exact, 64), api.Resources{SRAM: 5}},
		{"an LPM key", []api.TableKey{key(exact, 32), key(lpm, 32)}, api.Resources{SRAM: 1, TCAM: 8}},
		{"an LPM key first", []api.TableKey{key(lpm, 32), key(exact, 32)}, api.Resources{SRAM: 1, TCAM: 8}},
		{"ternary keys", keys(ternary, 64), api.Resources{SRAM: 1, TCAM: 8}},
		{"a ternary key among exact ones", []api.TableKey{key(exact, 16), key(ternary, 16), key(exact, 32)}, api.Resources{SRAM: 1, TCAM: 8}},
		{"keys of all kinds", []api.TableKey{key(lpm, 16), key(exact, 16), key(ternary, 32)}, api.Resources{SRAM: 1, TCAM: 8}},
	} {
		expectValidCost(t, x.what, one(256, x.keys), 0, x.want)
	}
}

// P34.1: the last size that fits into some blocks, and the next one
func TestRounding(t *testing.T) {
	for _, x := range []struct {
		what string
		size int
		keys []api.TableKey
		args []int
		want api.Resources
	}{
		{"one row", 1, keys(exact, 1), nil, api.Resources{SRAM: 1}},
		{"one row of a ternary key", 1, keys(ternary, 1), nil, api.Resources{SRAM: 1, TCAM: 1}},
		{"one row of all there may be", 1, keys(exact, 64), params(32, 32, 32, 32), api.Resources{SRAM: 1}},
		{"4096 bits", 128, keys(exact, 16), params(8), api.Resources{SRAM: 1}},
		{"4128 bits", 129, keys(exact, 16), params(8), api.Resources{SRAM: 2}},
		{"4097 bits", 241, keys(exact, 8), params(1), api.Resources{SRAM: 2}},
		{"8192 bits", 256, keys(exact, 16), params(8), api.Resources{SRAM: 2}},
		{"8448 bits", 256, keys(exact, 16), params(9), api.Resources{SRAM: 3}},
		{"2048 bits of a key", 256, keys(lpm, 8), nil, api.Resources{SRAM: 1, TCAM: 1}},
		{"2304 bits of a key", 256, append(keys(lpm, 8), key(exact, 1)), nil, api.Resources{SRAM: 1, TCAM: 2}},
		{"2046 bits of a key", 186, keys(ternary, 11), nil, api.Resources{SRAM: 1, TCAM: 1}},
		{"2057 bits of a key", 187, keys(ternary, 11), nil, api.Resources{SRAM: 1, TCAM: 2}},
		{"4096 bits of a key", 256, keys(ternary, 16), params(8), api.Resources{SRAM: 1, TCAM: 2}},
		{"4096 bits of arguments", 128, keys(ternary, 1), params(24), api.Resources{SRAM: 1, TCAM: 1}},
		{"4128 bits of arguments", 129, keys(ternary, 1), params(24), api.Resources{SRAM: 2, TCAM: 1}},
		{"all there may be, exact", 256, keys(exact, 64), params(32, 32, 32, 32), api.Resources{SRAM: 13}},
		{"all there may be, ternary", 256, keys(ternary, 64), params(32, 32, 32, 32), api.Resources{SRAM: 9, TCAM: 8}},
	} {
		expectValidCost(t, x.what, one(x.size, x.keys, x.args...), 0, x.want)
	}
}

// P34.1: the widest action that the table lists
func TestWidestAction(t *testing.T) {
	p := sample()
	for _, l := range [][]int{nil, {32}, {16, 17}, {1, 1, 1, 1}, {32, 32, 32, 32}} {
		p = withAction(p, l)
	}
	for _, x := range []struct {
		actions []int
		exact   int // the SRAM blocks of 256 rows of an exact key of 8 bits: with a argument bits 1 + a / 16, rounded up
		ternary int // of a ternary key: (8 + a) / 16, rounded up
	}{
		{[]int{0}, 1, 1},
		{[]int{1}, 3, 3},
		{[]int{2}, 4, 3},
		{[]int{3}, 2, 1},
		{[]int{4}, 9, 9},
		{[]int{0, 3}, 2, 1},
		{[]int{2, 1, 3}, 4, 3},
		{[]int{3, 2, 1}, 4, 3},
		{[]int{1, 2, 0}, 4, 3},
		{[]int{0, 1, 2, 3, 4}, 9, 9},
		{[]int{4, 3, 2, 1, 0}, 9, 9},
	} {
		q := withTable(withTable(p, 256, keys(exact, 8), x.actions...), 256, keys(ternary, 8), x.actions...)
		expectValidCost(t, "several actions", q, 0, api.Resources{SRAM: x.exact})
		expectValidCost(t, "several actions", q, 1, api.Resources{SRAM: x.ternary, TCAM: 1})
	}
}

// P34.1: tables without keys, and tables that are not there
func TestNoCost(t *testing.T) {
	p := withTable(withTable(one(256, keys(ternary, 16), 8), 256, nil, 0), 100, keys(exact, 32), 0)
	expectValidCost(t, "the first table", p, 0, api.Resources{SRAM: 1, TCAM: 2})
	expectValidCost(t, "no keys", p, 1, api.Resources{})
	p.Tables[1].Keys = []api.TableKey{}
	expectValidCost(t, "no keys", p, 1, api.Resources{})
	expectValidCost(t, "the last table", p, 2, api.Resources{SRAM: 2})
	for _, i := range append([]int{3}, wrongNumbers...) {
		expectCost(t, "a table that is not there", p, i, api.Resources{})
		expectCost(t, "a table of a program without tables", sample(), i, api.Resources{})
		expectCost(t, "a table of no program", api.Program{}, i, api.Resources{})
	}
	expectCost(t, "table 0 of a program without tables", sample(), 0, api.Resources{})
	expectCost(t, "table 0 of no program", api.Program{}, 0, api.Resources{})
}

// P34.1: an error anywhere in the program
func TestInvalidPrograms(t *testing.T) {
	for what, damage := range map[string]func(p *api.Program){
		"the name":               func(p *api.Program) { p.Name = "" },
		"a header":               func(p *api.Program) { p.Headers[0].Name = "1" },
		"the metadata":           func(p *api.Program) { p.Metadata[2].Width = 2 },
		"a register":             func(p *api.Program) { p.Registers = []api.Register{{Name: "r", Width: 8}} },
		"an action":              func(p *api.Program) { p.Actions[0].Params[0].Width = 33 },
		"an action of no width":  func(p *api.Program) { p.Actions[0].Params[0].Width = 0 },
		"an unused action":       func(p *api.Program) { p.Actions = append(p.Actions, api.Action{Name: "a0"}) },
		"the table's name":       func(p *api.Program) { p.Tables[0].Name = "" },
		"the table's size":       func(p *api.Program) { p.Tables[0].Size = 257 },
		"the table's size, 0":    func(p *api.Program) { p.Tables[0].Size = 0 },
		"the table's size, < 0":  func(p *api.Program) { p.Tables[0].Size = -256 },
		"the table's key":        func(p *api.Program) { p.Tables[0].Keys[0].Field.Field = 99 },
		"the table's key's kind": func(p *api.Program) { p.Tables[0].Keys[0].Kind = 4 },
		"the table's key bits":   func(p *api.Program) { p.Tables[0].Keys = append(keys(ternary, 64), key(exact, 1)) },
		"the table's actions":    func(p *api.Program) { p.Tables[0].Actions = []int{0, 1} },
		"the table's action":     func(p *api.Program) { p.Tables[0].Actions = []int{-1} },
		"no action":              func(p *api.Program) { p.Tables[0].Actions = nil },
		"the default":            func(p *api.Program) { p.Tables[0].Default.Args = nil },
		"another table":          func(p *api.Program) { p.Tables[1].Actions = nil },
		"the parser":             func(p *api.Program) { p.States = nil },
		"the control flow":       func(p *api.Program) { p.Control = []api.ControlNode{{Kind: api.ControlApply, Table: 2}} },
		"the deparser":           func(p *api.Program) { p.Deparser = []int{1} },
	} {
		p := withTable(one(256, keys(ternary, 16), 8), 256, keys(exact, 8), 0)
		expectValidCost(t, what+" undamaged", p, 0, api.Resources{SRAM: 1, TCAM: 2})
		damage(&p)
		if program.Check(p).Code == api.OK {
			t.Errorf("%s: the program is valid", what)
		}
		expectCost(t, what, p, 0, api.Resources{})
		expectCost(t, what+", the other table", p, 1, api.Resources{})
	}
}

// P34.2: a gate costs nothing
func TestGates(t *testing.T) {
	for what, p := range map[string]api.Program{"a program": one(256, keys(ternary, 48), 16), "no tables": sample(), "no program": {}} {
		for _, u := range []api.Unit{{Table: -1}, {Table: -1, Cond: []api.ExprNode{{Op: api.ExprConst, N: 1, W: 1}}}, {Table: -1, Guards: []api.Guard{{Unit: 0}}}} {
			if n := resource.UnitCost(p, u); n != (api.Resources{}) {
				t.Errorf("%s: the gate %+v costs %+v", what, u, n)
			}
		}
	}
}

// P34.1, P34.5: every size from 1 to 256; a table of more rows doesn't cost less
func TestSizes(t *testing.T) {
	for _, k := range []int{1, 7, 8, 11, 16, 32, 63, 64} {
		for _, kind := range []int{exact, ternary} {
			for _, args := range [][]int{nil, {1}, {8, 16}, {32, 32, 32, 31}} {
				p := one(1, keys(kind, k), args...)
				var last api.Resources
				for size := 1; size <= api.MaxRows; size++ {
					p.Tables[0].Size = size
					n := resource.TableCost(p, 0)
					if want := wantCost(p, 0); n != want {
						t.Errorf("%d rows of %d key bits: %+v, want %+v", size, k, n, want)
					}
					if n.SRAM < 1 || n.SRAM < last.SRAM || n.TCAM < last.TCAM || (n.TCAM == 0) != (kind == exact) {
						t.Errorf("%d rows of %d key bits: %+v, one row less: %+v", size, k, n, last)
					}
					last = n
				}
			}
		}
	}
}

// randomProgram answers a program that is nearly always valid.
func randomProgram(r *random) api.Program {
	p := sample()
	for range 1 + r.below(5) {
		var widths []int
		for range r.below(5) {
			widths = append(widths, 1+r.below(32))
		}
		p = withAction(p, widths)
	}
	for range 1 + r.below(4) {
		var l []api.TableKey
		for range r.below(6) {
			l = append(l, key(pick(r, []int{exact, exact, lpm, ternary}), pick(r, append(wide(), 32))))
		}
		actions := []int{r.below(len(p.Actions))}
		for i := range p.Actions {
			if i != actions[0] && r.chance(2) {
				actions = append(actions, i)
			}
		}
		p = withTable(p, 1+r.below(api.MaxRows), l, actions...)
	}
	return p
}

// P34.1, P34.2: random programs, held against the words of the promises
func TestRandomCosts(t *testing.T) {
	r := random(341)
	valid, kinds := map[bool]int{}, map[bool]int{}
	for range 4000 {
		p := randomProgram(&r)
		ok := program.Check(p).Code == api.OK
		valid[ok]++
		for i := -1; i <= len(p.Tables); i++ {
			want := wantCost(p, i)
			expectCost(t, "a random program", p, i, want)
			if want.SRAM > 0 {
				kinds[want.TCAM > 0]++
			}
		}
		if t.Failed() {
			t.Logf("the program is %+v", p)
			return
		}
	}
	if valid[true] < 1000 || valid[false] < 300 || kinds[true] < 500 || kinds[false] < 500 {
		t.Errorf("the programs are %v, the tables %v", valid, kinds)
	}
}

// P34.1: as many tables as a program may have
func TestManyTables(t *testing.T) {
	p := withAction(sample(), params(8))
	for i := range api.MaxTables {
		p = withTable(p, 8*(i+1), keys(1+i%2*2, 32), 0) // exact and ternary ones by turns
	}
	expectValid(t, "many tables", p)
	var want, got []api.Resources
	for i := range p.Tables {
		want, got = append(want, wantCost(p, i)), append(got, resource.TableCost(p, i))
	}
	if !slices.Equal(got, want) {
		t.Errorf("the costs are %+v, want %+v", got, want)
	}
	p = withTable(p, 8, keys(exact, 8), 0)
	for i := range p.Tables {
		expectCost(t, "a table too many", p, i, api.Resources{})
	}
}
