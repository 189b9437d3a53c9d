package placement_test

import (
	"fmt"
	"math"
	"reflect"
	"slices"
	"strings"
	"testing"

	"patchbay/api"
	"patchbay/deps"
	"patchbay/placement"
	"patchbay/program"
	"patchbay/resource"
	"patchbay/units"
)

var wrongNumbers = []int{math.MinInt, -1 << 32, -2, -1, 99, 1 << 32, 1<<32 + 1, math.MaxInt}

// random is a row of numbers that look like no rule, the same ones for the same seed.
type random uint64

func (r *random) bits() uint32 {
	*r = *r*6364136223846793005 + 1442695040888963407
	return uint32(*r >> 32)
}

func (r *random) below(n int) int { return int(r.bits()>>4) % n }

func (r *random) chance(n int) bool { return r.below(n) == 0 }

func pick[T any](r *random, l []T) T { return l[r.below(len(l))] }

// text writes values with all that lies behind the lengths of their lists.
func text(l ...any) string {
	var s strings.Builder
	for _, x := range l {
		writeText(&s, reflect.ValueOf(x))
	}
	return s.String()
}

func writeText(s *strings.Builder, v reflect.Value) {
	switch v.Kind() {
	case reflect.Struct:
		for i := range v.NumField() {
			writeText(s, v.Field(i))
		}
	case reflect.Slice:
		fmt.Fprintf(s, "[%d:", v.Len())
		for i := range v.Cap() {
			writeText(s, v.Slice(0, v.Cap()).Index(i))
		}
		s.WriteString("]")
	default:
		fmt.Fprintf(s, "%#v ", v)
	}
}

// spare answers a copy of a list in which the given elements lie behind its length.
func spare[T any](l []T, behind ...T) []T { return slices.Concat(l, behind)[:len(l)] }

// sample is a valid program of the most metadata fields, without tables.
func sample() api.Program {
	p := api.Program{
		Name:     "p",
		Metadata: []api.Field{{Name: "in", Width: 8}, {Name: "out", Width: 8}, {Name: "drop", Width: 1}},
		States:   []api.ParserState{{Name: "s", Default: api.Accept}},
	}
	for i := len(p.Metadata); i < api.MaxFields; i++ {
		p.Metadata = append(p.Metadata, api.Field{Name: fmt.Sprint("m", i), Width: 8})
	}
	return p
}

func meta(i int) api.FieldRef { return api.FieldRef{Header: api.Metadata, Field: i} }

// fields lists metadata fields of 8 bits.
func fields(l ...int) []int { return l }

// need tells what a table costs: blocks of SRAM, from 1 to 9, and of TCAM, from 0 to the number of its keys.
type need struct{ sram, tcam int }

// with answers p with one more table, which costs n, matches on some metadata fields and sets others. A table without
// keys costs nothing.
func with(p api.Program, n need, reads, writes []int) api.Program {
	a := api.Action{Name: fmt.Sprint("a", len(p.Actions))}
	x := api.Table{Name: fmt.Sprint("t", len(p.Tables)), Actions: []int{len(p.Actions)}, Size: api.MaxRows, Default: api.ActionCall{Action: len(p.Actions)}}
	for _, f := range reads {
		x.Keys = append(x.Keys, api.TableKey{Field: meta(f), Kind: api.MatchExact})
	}
	bits := 16*n.sram - 8 // of 256 rows, 16 bits a row fill a block of SRAM, and 8 of them hold no argument
	switch {
	case len(reads) == 0:
		bits = 0
	case n.tcam > 0: // 8 bits a row fill a block of TCAM
		for i := range x.Keys {
			x.Keys[i].Kind = api.MatchTernary
		}
	default:
		bits -= 8 * len(reads)
	}
	for i := 0; bits > 0 && i < api.MaxParams; i++ {
		w := min(bits, 32)
		a.Params = append(a.Params, api.Field{Name: fmt.Sprint("x", i), Width: w})
		bits -= w
	}
	for _, f := range writes {
		a.Body = append(a.Body, api.Statement{Kind: api.StmtAssign, Dst: meta(f), Value: []api.ExprNode{{Op: api.ExprConst, N: 1, W: 8}}})
	}
	x.Default.Args = make([]uint32, len(a.Params))
	p.Actions = append(slices.Clip(p.Actions), a)
	p.Tables = append(slices.Clip(p.Tables), x)
	return p
}

type nodes = []api.ControlNode

func apply(tables ...int) nodes {
	var l nodes
	for _, t := range tables {
		l = append(l, api.ControlNode{Kind: api.ControlApply, Table: t})
	}
	return l
}

func hit(t int, then, otherwise nodes) nodes {
	return nodes{{Kind: api.ControlHit, Table: t, Then: then, Else: otherwise}}
}

// when answers a gate on whether a metadata field of 8 bits is 0.
func when(field int, then, otherwise nodes) nodes {
	cond := []api.ExprNode{{Op: api.ExprEqual}, {Op: api.ExprField, N: api.Metadata, W: field}, {Op: api.ExprConst, N: 0, W: 8}}
	return nodes{{Kind: api.ControlIf, Cond: cond, Then: then, Else: otherwise}}
}

// run answers p with the given control flow.
func run(p api.Program, l ...nodes) api.Program {
	p.Control = slices.Concat(l...)
	return p
}

// apart answers a program that applies tables that cost the given numbers of blocks of SRAM and don't depend on each
// other.
func apart(costs ...int) api.Program {
	p := sample()
	var l nodes
	for i, n := range costs {
		p = with(p, need{sram: n}, fields(0), nil)
		l = append(l, apply(i)...)
	}
	return run(p, l)
}

// row answers a program that applies n tables, each of which matches on what the one ahead of it sets.
func row(n int) api.Program {
	p := sample()
	for i := range n {
		p = with(p, need{sram: 1}, fields(3+i%8), fields(3+(i+1)%8))
		p = run(p, p.Control, apply(i))
	}
	return p
}

// gates answers a program of n gates that don't depend on each other.
func gates(n int) api.Program {
	var l nodes
	for range n {
		l = append(l, when(0, nil, nil)...)
	}
	return run(sample(), l)
}

// wide is a chip on which everything has room.
func wide() api.Chip {
	return api.Chip{Stages: 16, Tables: 64, Gates: 64, SRAM: 4096, TCAM: 4096}
}

// stages answers a chip with few stages, of which each has room for everything.
func stages(n int) api.Chip {
	c := wide()
	c.Stages = n
	return c
}

// memory answers a chip whose stages have little memory.
func memory(stages, sram, tcam int) api.Chip {
	c := wide()
	c.Stages, c.SRAM, c.TCAM = stages, sram, tcam
	return c
}

// slots answers a chip whose stages have little room for tables and gates.
func slots(stages, tables, gates int) api.Chip {
	c := wide()
	c.Stages, c.Tables, c.Gates = stages, tables, gates
	return c
}

// parts answers pointers to the components of a chip, each with the least and the greatest number that it may be.
type part struct {
	name        string
	n           *int
	least, most int
}

func parts(c *api.Chip) []part {
	return []part{
		{"Stages", &c.Stages, 1, 16}, {"Tables", &c.Tables, 0, 64}, {"Gates", &c.Gates, 0, 64},
		{"SRAM", &c.SRAM, 0, 4096}, {"TCAM", &c.TCAM, 0, 4096},
		{"C8", &c.C8, 0, 64}, {"C16", &c.C16, 0, 64}, {"C32", &c.C32, 0, 64},
	}
}

// randomControl answers nodes that apply some tables, each once, and some gates.
func randomControl(r *random, tables *[]int, gates *int, depth int) nodes {
	var l nodes
	for range r.below(5 - depth) {
		var n nodes
		switch {
		case *gates > 0 && (r.chance(4) || len(*tables) == 0):
			*gates--
			n = when(pick(r, fields(0, 3, 4, 5)), nil, nil)
		case len(*tables) == 0:
			return l
		default:
			n = apply((*tables)[0])
			*tables = (*tables)[1:]
			if r.chance(4) {
				n[0].Kind = api.ControlHit
			}
		}
		if n[0].Kind != api.ControlApply && depth < 4 {
			n[0].Then = randomControl(r, tables, gates, depth+1)
			n[0].Else = randomControl(r, tables, gates, depth+1)
		}
		l = append(l, n...)
	}
	return l
}

// randomProgram answers a valid program of at most the given number of units.
func randomProgram(r *random, most int) api.Program {
	p := sample()
	var order []int
	seldom := 1 + r.below(12) // how seldom a table sets a field that others may use
	for i := range r.below(min(most, api.MaxTables) + 1) {
		var reads, writes []int
		for range r.below(3) {
			reads = append(reads, pick(r, fields(0, 3, 4, 5)))
		}
		for range 2 {
			if r.chance(seldom) {
				writes = append(writes, pick(r, fields(3, 4, 5, 6)))
			}
		}
		p = with(p, need{sram: 1 + r.below(3)*r.below(4), tcam: r.below(2)}, reads, writes)
		order = slices.Insert(order, r.below(i+1), i)
	}
	left := most - len(order)
	for range 3 {
		p.Control = append(p.Control, randomControl(r, &order, &left, 1)...)
	}
	return p
}

// randomChip answers a valid chip that has room for little.
func randomChip(r *random) api.Chip {
	some := func(n int) int {
		if r.chance(3) {
			return api.MaxContainers
		}
		return n
	}
	return api.Chip{Stages: 1 + r.below(5), Tables: some(r.below(5)), Gates: some(r.below(3)), SRAM: some(3 + r.below(8)), TCAM: some(r.below(6)), C8: r.below(65)}
}

// mostUnits answers the number of units of the sample's random programs that the tests' own answers can cope with.
const mostUnits = 8

// TestSample expects that the tests' programs are valid, that their tables cost what they should, and that random
// programs have units of both kinds and dependencies of all kinds.
func TestSample(t *testing.T) {
	for _, n := range []need{{1, 0}, {2, 0}, {5, 0}, {9, 0}, {1, 1}, {4, 1}, {9, 1}, {3, 2}} {
		p := with(sample(), n, fields(0, 1)[:max(1, n.tcam)], fields(3, 4))
		if d := program.Check(p); d.Code != api.OK {
			t.Errorf("a table of cost %v: %v", n, d)
		}
		if c := resource.TableCost(p, 0); c != (api.Resources{SRAM: n.sram, TCAM: n.tcam}) {
			t.Errorf("a table of cost %v costs %v", n, c)
		}
	}
	r := random(1)
	kinds, dependencies, counts := map[bool]int{}, map[int]int{}, map[int]int{}
	for range 1000 {
		p := randomProgram(&r, mostUnits)
		if d := program.Check(p); d.Code != api.OK {
			t.Errorf("the program %+v: %v", p, d)
		}
		l := units.Build(p)
		counts[len(l)]++
		for _, u := range l {
			kinds[u.Table < 0]++
		}
		d := deps.Build(p, l)
		for i := range d {
			for _, kind := range d[i][i+1:] {
				dependencies[kind]++
			}
		}
		if e := placement.CheckChip(randomChip(&r)); e != api.OK {
			t.Errorf("a random chip: %v", e)
		}
	}
	if len(counts) != mostUnits+1 || kinds[true] < 300 || kinds[false] < 300 || dependencies[0] < 1000 || dependencies[1] < 300 || dependencies[2] < 1000 {
		t.Errorf("the numbers of units are %v, the gates %v, the dependencies %v", counts, kinds, dependencies)
	}
}
