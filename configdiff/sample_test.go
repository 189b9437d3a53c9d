package configdiff_test

import (
	"fmt"
	"math"
	"reflect"
	"slices"
	"strings"
	"testing"

	"patchbay/api"
	"patchbay/program"
	"patchbay/progtext"
	"patchbay/store"
)

const (
	noID      = 1 << 30 // the NextID of a table that has no ID left
	exactly   = 0       // the tables of the sample program
	byPattern = 1
	keyless   = 2
)

const (
	none  = 0 // the actions of the sample program
	one   = 1
	two   = 2
	other = 3
)

// random is a row of numbers that look like no rule, the same ones for the same seed.
type random uint64

func (r *random) bits() uint32 {
	*r = *r*6364136223846793005 + 1442695040888963407
	return uint32(*r >> 32)
}

func (r *random) below(n int) int { return int(r.bits()>>4) % n }

func (r *random) chance(n int) bool { return r.below(n) == 0 }

func pick[T any](r *random, l []T) T { return l[r.below(len(l))] }

func match(value, mask uint32) api.KeyMatch { return api.KeyMatch{Value: value, Mask: mask} }

func call(action int, args ...uint32) api.ActionCall {
	return api.ActionCall{Action: action, Args: args}
}

func entryOf(priority int, c api.ActionCall, l ...api.KeyMatch) api.Entry {
	return api.Entry{Keys: l, Priority: priority, Call: c}
}

func insert(t int, x api.Entry) api.TableOp {
	return api.TableOp{Kind: api.OpInsert, Table: t, Entry: x}
}

func modify(t, id int, c api.ActionCall) api.TableOp {
	return api.TableOp{Kind: api.OpModify, Table: t, ID: id, Call: c}
}

func remove(t, id int) api.TableOp { return api.TableOp{Kind: api.OpDelete, Table: t, ID: id} }

func setDefault(t int, c api.ActionCall) api.TableOp {
	return api.TableOp{Kind: api.OpSetDefault, Table: t, Call: c}
}

// sample has a table of few rows, one of many and one without keys. No table allows the action other.
func sample() api.Program {
	p, line, e := progtext.Parse(`program p
		header h { a: 8 b: 8 c: 8 }
		metadata { in: 8 out: 8 drop: 1 n: 7 }
		register r: 8[4]
		register wide: 32[2]
		action none() { }
		action one(v: 8) { meta.out = @v }
		action two(x: 1, y: 32) { meta.drop = @x }
		action other() { }
		table exactly { key h.a: exact actions one, none default one(7) size 6 }
		table pattern { key h.a: ternary key h.b: ternary key h.c: ternary key meta.in: ternary key meta.out: ternary key meta.n: lpm actions two, none, one default two(1, 4294967295) size 256 }
		table keyless { actions none, one default none() size 1 }
		state s { extract h default accept }
		control { apply exactly apply pattern apply keyless }
		deparser h`)
	if e != api.OK {
		panic(fmt.Sprint("line ", line, ": ", e))
	}
	return p
}

func row(id int, x api.Entry) api.Row { return api.Row{ID: id, Entry: x} }

// exact answers a row of the table exactly.
func exact(id int, key uint32, c api.ActionCall) api.Row {
	return row(id, entryOf(0, c, match(key, 255)))
}

// six answers a row of the table byPattern.
func six(id, priority int, key uint32, c api.ActionCall) api.Row {
	return row(id, entryOf(priority, c, match(key&3, 3), match(0, 0), match(key, 255), match(0, 8), match(1, 1), match(key&0x40, 0x40)))
}

// filled is a configuration of the sample program.
func filled() api.Config {
	return api.Config{
		Rows: [][]api.Row{
			{exact(1, 10, call(one, 9)), exact(4, 20, call(none)), exact(8, 30, call(one, 255))},
			{six(5, 0, 1, call(none)), six(6, 255, 1, call(two, 1, 8)), six(70, 7, 2, call(one, 0))},
			{row(4, entryOf(0, call(one, 3)))},
		},
		NextID:    []int{10, 80, 5},
		Defaults:  []api.ActionCall{call(one, 255), call(none), call(one, 1)},
		Registers: [][]uint32{{255, 0, 7, 1}, {math.MaxUint32, 1}},
	}
}

// filledWith is the filled configuration with other rows in a table, and a NextID behind them.
func filledWith(t int, l ...api.Row) api.Config {
	c := filled()
	c.Rows[t] = l
	for _, r := range l {
		c.NextID[t] = max(c.NextID[t], r.ID+1)
	}
	return c
}

// text writes values with all that lies behind the lengths of their lists.
func text(l ...any) string {
	var s strings.Builder
	for _, x := range l {
		write(&s, reflect.ValueOf(x))
	}
	return s.String()
}

func write(s *strings.Builder, v reflect.Value) {
	switch v.Kind() {
	case reflect.Struct:
		for i := range v.NumField() {
			write(s, v.Field(i))
		}
	case reflect.Slice:
		fmt.Fprintf(s, "[%d:", v.Len())
		for i := range v.Cap() {
			write(s, v.Slice(0, v.Cap()).Index(i))
		}
		s.WriteString("]")
	default:
		fmt.Fprintf(s, "%#v ", v)
	}
}

// copied answers a copy that shares no memory, with some spare memory behind each list.
func copied[T any](x T) T { return copyOf(reflect.ValueOf(x)).Interface().(T) }

func copyOf(v reflect.Value) reflect.Value {
	c := reflect.New(v.Type()).Elem()
	switch v.Kind() {
	case reflect.Struct:
		for i := range v.NumField() {
			c.Field(i).Set(copyOf(v.Field(i)))
		}
	case reflect.Slice:
		c.Set(reflect.MakeSlice(v.Type(), v.Len(), v.Len()+2))
		for i := range v.Len() {
			c.Index(i).Set(copyOf(v.Index(i)))
		}
	default:
		c.Set(v)
	}
	return c
}

// same tells whether two values are equal, where nil is an empty list.
func same[T any](a, b T) bool { return reflect.DeepEqual(copied(a), copied(b)) }

// block is the memory of a list, with what lies behind its length.
type block struct{ start, end uintptr }

func blocks(v reflect.Value) []block {
	var l []block
	switch v.Kind() {
	case reflect.Struct:
		for i := range v.NumField() {
			l = append(l, blocks(v.Field(i))...)
		}
	case reflect.Slice:
		if v.Cap() > 0 {
			l = append(l, block{v.Pointer(), v.Pointer() + uintptr(v.Cap())*v.Type().Elem().Size()})
		}
		for i := range v.Len() {
			l = append(l, blocks(v.Index(i))...)
		}
	}
	return l
}

// expectApart expects that no list of an answer shares memory with another one, or with one of the other values.
func expectApart(t *testing.T, what string, answer any, others ...any) {
	t.Helper()
	own := blocks(reflect.ValueOf(answer))
	all := slices.Clone(own)
	for _, x := range others {
		all = append(all, blocks(reflect.ValueOf(x))...)
	}
	for i, a := range own {
		for _, b := range all[i+1:] {
			if a.start < b.end && b.start < a.end {
				t.Errorf("%s: lists share memory", what)
				return
			}
		}
	}
}

// fault is an invalid program with a configuration, or a valid one with an invalid configuration.
type fault struct {
	program api.Program
	config  api.Config
}

// faults answers pairs that store.Check rejects, with more than one code.
func faults() []fault {
	change := func(do func(p *api.Program, c *api.Config)) fault {
		x := fault{sample(), filled()}
		do(&x.program, &x.config)
		return x
	}
	return []fault{
		{},
		{program: sample()},
		change(func(p *api.Program, _ *api.Config) { p.Name = "" }),
		change(func(p *api.Program, _ *api.Config) { p.Tables[1].Size = api.MaxRows + 1 }),
		change(func(p *api.Program, _ *api.Config) {
			p.Tables[1].Keys = slices.Repeat(p.Tables[1].Keys[:1], api.MaxKeys+1)
		}),
		change(func(p *api.Program, _ *api.Config) { p.States = nil }),
		change(func(p *api.Program, c *api.Config) { p.Actions[1].Body[0].Kind, c.NextID = 9, nil }),
		change(func(_ *api.Program, c *api.Config) { c.Defaults = c.Defaults[:2] }),
		change(func(_ *api.Program, c *api.Config) { c.Rows = append(c.Rows, nil) }),
		change(func(_ *api.Program, c *api.Config) { c.Rows[exactly] = make([]api.Row, 7) }),
		change(func(_ *api.Program, c *api.Config) { c.NextID[exactly] = 8 }),
		change(func(_ *api.Program, c *api.Config) { c.NextID[byPattern] = noID + 1 }),
		change(func(_ *api.Program, c *api.Config) { slices.Reverse(c.Rows[exactly]) }),
		change(func(_ *api.Program, c *api.Config) {
			c.Rows[exactly][1].Entry.Keys = make([]api.KeyMatch, api.MaxKeys+1)
		}),
		change(func(_ *api.Program, c *api.Config) { c.Rows[byPattern][1].Entry.Priority = 0 }),
		change(func(_ *api.Program, c *api.Config) { c.Rows[exactly][1].Entry.Call = call(two, 1, 1) }),
		change(func(_ *api.Program, c *api.Config) { c.Defaults[keyless] = call(other) }),
		change(func(_ *api.Program, c *api.Config) { c.Registers[0][0] = 256 }),
	}
}

// TestSample expects that the sample and its faults are what the other tests take them for.
func TestSample(t *testing.T) {
	if e := store.Check(sample(), filled()); e != api.OK {
		t.Errorf("the filled configuration: %v", e)
	}
	met := map[api.Errno]bool{}
	for i, x := range faults() {
		e := store.Check(x.program, x.config)
		if e == api.OK {
			t.Errorf("fault %d: %v, %v", i, program.Check(x.program), e)
		}
		met[e] = true
	}
	if len(met) < 6 {
		t.Errorf("the faults have the codes %v", met)
	}
}
