package store_test

import (
	"fmt"
	"math"
	"reflect"
	"slices"
	"strings"
	"testing"

	"patchbay/api"
	"patchbay/program"
	"patchbay/progtext"
	"patchbay/store"
)

const (
	noID      = 1 << 30 // the NextID of a table that has no ID left
	exactly   = 0       // the tables of the sample program
	byPrefix  = 1
	byPattern = 2
	keyless   = 3
)

var wrongNumbers = []int{math.MinInt, -1 << 32, -2, -1, 99, 1 << 32, 1<<32 + 1, math.MaxInt}

// random is a row of numbers that look like no rule, the same ones for the same seed.
type random uint64

func (r *random) bits() uint32 {
	*r = *r*6364136223846793005 + 1442695040888963407
	return uint32(*r >> 32)
}

func (r *random) below(n int) int { return int(r.bits()>>4) % n }

func (r *random) chance(n int) bool { return r.below(n) == 0 }

func pick[T any](r *random, l []T) T { return l[r.below(len(l))] }

func match(value, mask uint32) api.KeyMatch { return api.KeyMatch{Value: value, Mask: mask} }

func call(action int, args ...uint32) api.ActionCall {
	return api.ActionCall{Action: action, Args: args}
}

func parsed(text string) api.Program {
	p, line, e := progtext.Parse(text)
	if e != api.OK {
		panic(fmt.Sprint("line ", line, ": ", e))
	}
	return p
}

// sample has a table of each kind and one without keys. Its actions are none, one and three, named for their parameters,
// and other, which no table allows.
func sample() api.Program {
	return parsed(`program p
		header h { a: 4 b: 8 c: 4 }
		metadata { in: 8 out: 8 drop: 1 n: 3 }
		register r: 8[4]
		register wide: 32[2]
		register bit: 1[1]
		action none() { }
		action one(v: 8) { meta.out = @v }
		action three(x: 1, y: 32, z: 16) { meta.drop = @x }
		action other() { }
		table exactly { key h.a: exact key meta.n: exact actions one, none default one(7) size 3 }
		table prefix { key meta.n: exact key h.b: lpm actions none, three, one default none() size 4 }
		table pattern { key h.a: ternary key h.b: lpm actions three, none default three(1, 4294967295, 65535) size 5 }
		table keyless { actions none default none() size 1 }
		state s { default accept }
		control { apply exactly }
		deparser h`)
}

func row(id, priority int, c api.ActionCall, l ...api.KeyMatch) api.Row {
	return api.Row{ID: id, Entry: api.Entry{Keys: l, Priority: priority, Call: c}}
}

// filled is a configuration of the sample program. Its tables are full, but for byPattern, of which nothing is left but
// the last ID.
func filled() api.Config {
	return api.Config{
		Rows: [][]api.Row{
			{row(1, 0, call(1, 9), match(3, 15), match(7, 7)), row(2, 0, call(0), match(0, 15), match(7, 7)), row(9, 0, call(1, 255), match(3, 15), match(0, 7))},
			{row(2, 0, call(2, 0, 1, 2), match(5, 7), match(0, 0)), row(3, 0, call(0), match(5, 7), match(0x80, 0xc0)), row(4, 0, call(0), match(5, 7), match(0x81, 0xff)), row(6, 0, call(1, 1), match(4, 7), match(0x81, 0xff))},
			{row(5, 255, call(0), match(1, 3), match(0, 0)), row(noID-2, 0, call(2, 1, 8, 8), match(1, 3), match(0, 0))},
			{row(4, 0, call(0))},
		},
		NextID:    []int{10, 7, noID - 1, 5},
		Defaults:  []api.ActionCall{call(1, 255), call(2, 1, math.MaxUint32, 1), call(0), call(0)},
		Registers: [][]uint32{{255, 0, 7, 1}, {math.MaxUint32, 1}, {1}},
	}
}

// text writes values with all that lies behind the lengths of their lists.
func text(l ...any) string {
	var s strings.Builder
	for _, x := range l {
		write(&s, reflect.ValueOf(x))
	}
	return s.String()
}

func write(s *strings.Builder, v reflect.Value) {
	switch v.Kind() {
	case reflect.Struct:
		for i := range v.NumField() {
			write(s, v.Field(i))
		}
	case reflect.Slice:
		fmt.Fprintf(s, "[%d:", v.Len())
		for i := range v.Cap() {
			write(s, v.Slice(0, v.Cap()).Index(i))
		}
		s.WriteString("]")
	default:
		fmt.Fprintf(s, "%#v ", v)
	}
}

// copied answers a copy that shares no memory, with some spare memory behind each list.
func copied[T any](x T) T { return copyOf(reflect.ValueOf(x)).Interface().(T) }

func copyOf(v reflect.Value) reflect.Value {
	c := reflect.New(v.Type()).Elem()
	switch v.Kind() {
	case reflect.Struct:
		for i := range v.NumField() {
			c.Field(i).Set(copyOf(v.Field(i)))
		}
	case reflect.Slice:
		c.Set(reflect.MakeSlice(v.Type(), v.Len(), v.Len()+2))
		for i := range v.Len() {
			c.Index(i).Set(copyOf(v.Index(i)))
		}
	default:
		c.Set(v)
	}
	return c
}

// same tells whether two values are equal, where nil is an empty list.
func same[T any](a, b T) bool { return reflect.DeepEqual(copied(a), copied(b)) }

// spoil overwrites all lists that v has, with what lies behind their lengths.
func spoil(v reflect.Value) {
	switch v.Kind() {
	case reflect.Struct:
		for i := range v.NumField() {
			spoil(v.Field(i))
		}
	case reflect.Slice:
		all := v.Slice(0, v.Cap())
		for i := range v.Cap() {
			spoil(all.Index(i))
			all.Index(i).SetZero()
		}
	}
}

// block is the memory of a list, with what lies behind its length.
type block struct{ start, end uintptr }

func blocks(v reflect.Value) []block {
	var l []block
	switch v.Kind() {
	case reflect.Struct:
		for i := range v.NumField() {
			l = append(l, blocks(v.Field(i))...)
		}
	case reflect.Slice:
		if v.Cap() > 0 {
			l = append(l, block{v.Pointer(), v.Pointer() + uintptr(v.Cap())*v.Type().Elem().Size()})
		}
		for i := range v.Len() {
			l = append(l, blocks(v.Index(i))...)
		}
	}
	return l
}

// expectApart expects that no list of an answer shares memory with another one, or with one of the other values.
func expectApart(t *testing.T, what string, answer any, others ...any) {
	t.Helper()
	own := blocks(reflect.ValueOf(answer))
	all := slices.Clone(own)
	for _, x := range others {
		all = append(all, blocks(reflect.ValueOf(x))...)
	}
	for i, a := range own {
		for _, b := range all[i+1:] {
			if a.start < b.end && b.start < a.end {
				t.Errorf("%s: lists share memory", what)
				return
			}
		}
	}
}

// loaded answers a store that Load must make.
func loaded(t *testing.T, p api.Program, c api.Config) *store.Store {
	t.Helper()
	before := text(p, c)
	s, e := store.Load(p, c)
	if s == nil || e != api.OK {
		t.Fatalf("Load of %+v: %v, %v", c, s, e)
	}
	if text(p, c) != before {
		t.Error("Load changes its arguments")
	}
	expectConfig(t, "a loaded store", s, c)
	return s
}

// expectConfig expects that a store has a configuration, by all of its methods that tell of it.
func expectConfig(t *testing.T, what string, s *store.Store, c api.Config) {
	t.Helper()
	if got := s.Config(); !same(got, c) {
		t.Errorf("%s: Config is %+v, want %+v", what, got, c)
	}
	for i, l := range c.Rows {
		if n := s.Len(i); n != len(l) {
			t.Errorf("%s: Len of table %d is %d, want %d", what, i, n, len(l))
		}
	}
}

// damages answers programs that program.Check rejects, one for each part and more than one code.
func damages() []api.Program {
	change := func(do func(p *api.Program)) api.Program {
		p := sample()
		do(&p)
		return p
	}
	l := []api.Program{
		{},
		change(func(p *api.Program) { p.Name = "" }),
		change(func(p *api.Program) { p.Tables = slices.Repeat(p.Tables, 4) }),
		change(func(p *api.Program) { p.Headers[0].Fields[0].Width = 5 }),
		change(func(p *api.Program) { p.Metadata[2].Width = 2 }),
		change(func(p *api.Program) { p.Registers[1].Size = 65 }),
		change(func(p *api.Program) { p.Actions[1].Body[0].Kind = 9 }),
		change(func(p *api.Program) { p.Tables[2].Size = 257 }),
		change(func(p *api.Program) { p.Tables[1].Default = call(3) }),
		change(func(p *api.Program) { p.States = nil }),
		change(func(p *api.Program) { p.States[0].Default = 0 }),
		change(func(p *api.Program) { p.Control[0].Kind = 0 }),
		change(func(p *api.Program) { p.Deparser = []int{0, 0} }),
	}
	for _, p := range l {
		if program.Check(p).Code == api.OK {
			panic("a damaged program is valid")
		}
	}
	return l
}
