package txn_test

import (
	"reflect"
	"slices"
	"strconv"
	"testing"

	"patchbay/api"
	"patchbay/store"
	"patchbay/txn"
)

// expectEquivalent expects what Equivalent answers, whichever configuration comes first.
func expectEquivalent(t *testing.T, what string, a, b api.Config, want bool) {
	t.Helper()
	before := text(a, b)
	if x, y := txn.Equivalent(a, b), txn.Equivalent(b, a); x != want || y != want {
		t.Errorf("%s: Equivalent of %+v and %+v: %v, %v, want %v", what, a, b, x, y, want)
	}
	if text(a, b) != before {
		t.Errorf("%s: Equivalent changes its arguments", what)
	}
}

// places answers the ways to all values in a configuration that can be changed, with their names.
func places(v reflect.Value, name string, found func(name string, v reflect.Value)) {
	switch v.Kind() {
	case reflect.Struct:
		for i := range v.NumField() {
			places(v.Field(i), name+"."+v.Type().Field(i).Name, found)
		}
	case reflect.Slice:
		found(name, v)
		for i := range v.Len() {
			places(v.Index(i), name+"["+strconv.Itoa(i)+"]", found)
		}
	default:
		found(name, v)
	}
}

// change changes a value in some way, and tells whether it has.
func change(v reflect.Value, way int) bool {
	switch {
	case v.Kind() == reflect.Int && way == 0:
		v.SetInt(v.Int() + 1)
	case v.Kind() == reflect.Int && way == 1:
		v.SetInt(-v.Int() - 1<<32)
	case v.Kind() == reflect.Uint32 && way == 0:
		v.SetUint(v.Uint() ^ 1)
	case v.Kind() == reflect.Uint32 && way == 1:
		v.SetUint(v.Uint() ^ 1<<31)
	case v.Kind() == reflect.Slice && way == 0:
		v.Set(reflect.Append(v, reflect.Zero(v.Type().Elem())))
	case v.Kind() == reflect.Slice && way == 1 && v.Len() > 0:
		v.Set(v.Slice(0, v.Len()-1))
	default:
		return false
	}
	return true
}

// P27.3: a change at any place counts, but for IDs and NextID.
func TestEquivalent(t *testing.T) {
	var names []string
	places(reflect.ValueOf(filled()), "", func(name string, _ reflect.Value) { names = append(names, name) })
	ignored := 0
	for i, name := range names {
		for way := range 2 {
			c := copied(filled())
			k, changed := 0, false
			places(reflect.ValueOf(&c).Elem(), "", func(_ string, v reflect.Value) {
				if k++; k == i+1 {
					changed = change(v, way)
				}
			})
			if !changed {
				continue
			}
			id := len(name) > 3 && (name[len(name)-3:] == ".ID" || name[:4] == ".Nex")
			if id {
				ignored++
			}
			expectEquivalent(t, name, filled(), c, id)
		}
	}
	if len(names) < 80 || ignored < 14 {
		t.Errorf("%d places, of which %d are ignored", len(names), ignored)
	}
}

// P27.3: configurations that are valid, and such as aren't
func TestEquivalentShapes(t *testing.T) {
	p := sample()
	for _, c := range []api.Config{{}, filled(), store.EmptyConfig(p)} {
		expectEquivalent(t, "a copy", c, copied(c), true)
	}
	expectEquivalent(t, "another configuration", filled(), store.EmptyConfig(p), false)
	expectEquivalent(t, "another configuration", filled(), api.Config{}, false)
	none := api.Config{Rows: [][]api.Row{}, NextID: []int{}, Defaults: []api.ActionCall{}, Registers: [][]uint32{}}
	expectEquivalent(t, "empty lists", api.Config{}, none, true)
	expectEquivalent(t, "no lists in lists", api.Config{Rows: [][]api.Row{{}}, Registers: [][]uint32{nil}}, api.Config{Rows: [][]api.Row{nil}, Registers: [][]uint32{{}}}, true)
	expectEquivalent(t, "a table", api.Config{Rows: [][]api.Row{nil}}, none, false)
	expectEquivalent(t, "a NextID", api.Config{NextID: []int{5}}, none, true)
	expectEquivalent(t, "a default", api.Config{Defaults: []api.ActionCall{{}}}, none, false)
	expectEquivalent(t, "a register", api.Config{Registers: [][]uint32{nil}}, none, false)
	keys := func(l []api.KeyMatch, args []uint32) api.Config {
		c := call(0, args...)
		return api.Config{Rows: [][]api.Row{{row(1, entryOf(0, c, l...))}}, Defaults: []api.ActionCall{c}}
	}
	expectEquivalent(t, "no keys and arguments", keys(nil, nil), keys([]api.KeyMatch{}, []uint32{}), true)
	expectEquivalent(t, "a key", keys(nil, nil), keys([]api.KeyMatch{{}}, nil), false)
	expectEquivalent(t, "an argument", keys(nil, nil), keys(nil, []uint32{0}), false)
	for i, l := range filled().Rows {
		c := filled()
		slices.Reverse(c.Rows[i])
		expectEquivalent(t, "another order", filled(), c, len(l) < 2)
	}
	c := filled()
	slices.Reverse(c.Rows)
	expectEquivalent(t, "other tables", filled(), c, false)
	c.Rows = filled().Rows
	slices.Reverse(c.Defaults)
	expectEquivalent(t, "other defaults", filled(), c, false)
	c.Defaults = filled().Defaults
	slices.Reverse(c.Registers)
	expectEquivalent(t, "other registers", filled(), c, false)
}
