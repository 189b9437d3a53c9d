package store_test

import (
	"reflect"
	"testing"

	"patchbay/api"
	"patchbay/program"
	"patchbay/register"
	"patchbay/store"
)

// wantEmpty is P25.1, word by word.
func wantEmpty(p api.Program) api.Config {
	c := api.Config{Registers: register.New(p)}
	for _, t := range p.Tables {
		c.Rows, c.NextID, c.Defaults = append(c.Rows, []api.Row{}), append(c.NextID, 1), append(c.Defaults, t.Default)
	}
	return c
}

func expectEmpty(t *testing.T, p api.Program) {
	t.Helper()
	before := text(p)
	c := store.EmptyConfig(p)
	if !same(c, wantEmpty(p)) {
		t.Errorf("EmptyConfig of %+v: %+v", p, c)
	}
	expectApart(t, "EmptyConfig", c, p)
	if text(p) != before {
		t.Error("EmptyConfig changes its argument")
	}
	if program.Check(p).Code == api.OK && store.Check(p, c) != api.OK {
		t.Errorf("EmptyConfig of a valid program: %v", store.Check(p, c))
	}
}

// P25.1: no rows, NextID 1, the declared defaults, registers of zeros
func TestEmptyConfig(t *testing.T) {
	expectEmpty(t, sample())
	want := api.Config{
		Rows: make([][]api.Row, 4), NextID: []int{1, 1, 1, 1},
		Defaults:  []api.ActionCall{call(1, 7), call(0), call(2, 1, 1<<32-1, 65535), call(0)},
		Registers: [][]uint32{{0, 0, 0, 0}, {0, 0}, {0}},
	}
	if c := store.EmptyConfig(sample()); !same(c, want) {
		t.Errorf("EmptyConfig: %+v", c)
	}
	p := sample()
	p.Tables, p.Control, p.Registers = nil, nil, nil
	expectEmpty(t, p)
}

// P25.1: programs of any kind, valid or not
func TestEmptyConfigOfAny(t *testing.T) {
	for _, p := range damages() {
		expectEmpty(t, p)
	}
	for _, n := range wrongNumbers {
		expectEmpty(t, api.Program{
			Registers: []api.Register{{Size: n}, {Size: 64}, {Size: 65}, {Width: n, Size: 1}},
			Tables:    []api.Table{{Size: n, Default: call(n)}, {Default: call(0, 1, 2, 3)}, {Default: api.ActionCall{Args: []uint32{1, 2, 3}[:1]}}},
		})
	}
	p := api.Program{Tables: make([]api.Table, 1000)}
	p.Tables[999].Default = call(5, 5)
	expectEmpty(t, p)
}

// changes answers configurations that differ from c in one place each: a number, or one element less or more.
func changes(c api.Config) []api.Config {
	var l []api.Config
	own := copied(c)
	var visit func(v reflect.Value)
	visit = func(v reflect.Value) {
		switch v.Kind() {
		case reflect.Struct:
			for i := range v.NumField() {
				visit(v.Field(i))
			}
		case reflect.Slice:
			whole := reflect.ValueOf(v.Interface())
			for i := range v.Len() {
				visit(v.Index(i))
			}
			if v.Len() > 0 {
				v.Set(whole.Slice(0, v.Len()-1))
				l = append(l, copied(own))
			}
			v.Set(reflect.Append(whole.Slice3(0, whole.Len(), whole.Len()), reflect.Zero(v.Type().Elem())))
			l = append(l, copied(own))
			v.Set(whole)
		case reflect.Int:
			v.SetInt(v.Int() + 1)
			l = append(l, copied(own))
			v.SetInt(v.Int() - 1)
		case reflect.Uint32:
			v.SetUint(v.Uint() ^ 1<<31)
			l = append(l, copied(own))
			v.SetUint(v.Uint() ^ 1<<31)
		}
	}
	visit(reflect.ValueOf(&own).Elem())
	return l
}

func expectEqual(t *testing.T, a, b api.Config, want bool) {
	t.Helper()
	before := text(a, b)
	if store.Equal(a, b) != want || store.Equal(b, a) != want {
		t.Errorf("Equal of %+v and %+v: not %v", a, b, want)
	}
	if text(a, b) != before {
		t.Error("Equal changes its arguments")
	}
}

// P25.7: every number and every length counts
func TestEqual(t *testing.T) {
	c := filled()
	expectEqual(t, c, filled(), true)
	expectEqual(t, c, copied(c), true)
	l := changes(c)
	if len(l) < 150 {
		t.Errorf("%d changes", len(l))
	}
	for _, d := range l {
		expectEqual(t, d, c, false)
		expectEqual(t, d, d, true)
	}
	swapped := filled()
	swapped.Rows[0][0], swapped.Rows[0][1] = swapped.Rows[0][1], swapped.Rows[0][0]
	expectEqual(t, c, swapped, false)
	swapped = filled()
	swapped.Rows[0], swapped.Rows[1] = swapped.Rows[1], swapped.Rows[0]
	expectEqual(t, c, swapped, false)
	swapped = filled()
	swapped.Registers[0], swapped.Registers[1] = swapped.Registers[1], swapped.Registers[0]
	expectEqual(t, c, swapped, false)
}

// P25.7: a nil list is an empty one, of any kind; nothing behind a length counts; nothing is checked
func TestEqualEmpty(t *testing.T) {
	expectEqual(t, api.Config{}, api.Config{Rows: [][]api.Row{}, NextID: []int{}, Defaults: []api.ActionCall{}, Registers: [][]uint32{}}, true)
	expectEqual(t, api.Config{Rows: [][]api.Row{nil}}, api.Config{Rows: [][]api.Row{{}}}, true)
	expectEqual(t, api.Config{Rows: [][]api.Row{nil}}, api.Config{}, false)
	expectEqual(t, api.Config{Registers: [][]uint32{nil}}, api.Config{Registers: [][]uint32{{}}}, true)
	expectEqual(t, api.Config{Registers: [][]uint32{nil}}, api.Config{}, false)
	keys, args := row(1, 0, call(0)), row(1, 0, call(0))
	keys.Entry.Keys, args.Entry.Keys = nil, []api.KeyMatch{}
	keys.Entry.Call.Args, args.Entry.Call.Args = []uint32{}, nil
	expectEqual(t, api.Config{Rows: [][]api.Row{{keys}}}, api.Config{Rows: [][]api.Row{{args}}}, true)
	expectEqual(t, api.Config{Defaults: []api.ActionCall{{Args: []uint32{}}}}, api.Config{Defaults: []api.ActionCall{{}}}, true)
	for _, n := range wrongNumbers {
		odd := api.Config{Rows: [][]api.Row{{row(n, n, call(n, 1))}}, NextID: []int{n}, Defaults: []api.ActionCall{call(n)}}
		expectEqual(t, odd, copied(odd), true)
		expectEqual(t, odd, api.Config{}, false)
	}
	two := []api.Row{row(1, 0, call(0)), row(2, 0, call(0))}
	behind := api.Config{NextID: []int{1, 2}[:1], Registers: [][]uint32{[]uint32{1, 2, 3}[:2]}, Rows: [][]api.Row{two[:1]}}
	expectEqual(t, behind, api.Config{NextID: []int{1}, Registers: [][]uint32{{1, 2}}, Rows: [][]api.Row{{row(1, 0, call(0))}}}, true)
}
