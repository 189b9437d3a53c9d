package configdiff_test

import (
	"math"
	"reflect"
	"slices"
	"strconv"
	"strings"
	"testing"

	"patchbay/api"
	"patchbay/configdiff"
	"patchbay/entry"
	"patchbay/store"
)

// P30.2: operations of each kind, and of others
func TestCountByKind(t *testing.T) {
	for _, x := range []struct {
		kinds []int
		want  [5]int
	}{
		{nil, [5]int{}},
		{[]int{1}, [5]int{0, 1}},
		{[]int{2}, [5]int{0, 0, 1}},
		{[]int{3}, [5]int{0, 0, 0, 1}},
		{[]int{4}, [5]int{0, 0, 0, 0, 1}},
		{[]int{0}, [5]int{1}},
		{[]int{5}, [5]int{1}},
		{[]int{-1, math.MinInt, math.MaxInt, 1<<32 + 1, 1 << 32, 256, 257}, [5]int{7}},
		{[]int{4, 1, 0, 3, 4, 1, 9, 2, 1, -4, 4, 4}, [5]int{3, 3, 1, 1, 4}},
		{slices.Repeat([]int{3, 3, 1}, 1000), [5]int{0, 1000, 0, 2000, 0}},
	} {
		var l []api.TableOp
		for i, k := range x.kinds {
			l = append(l, api.TableOp{Kind: k, Table: i, ID: 4 - i})
		}
		before := text(l)
		if n := configdiff.CountByKind(l); n != x.want {
			t.Errorf("CountByKind of the kinds %v: %v, want %v", x.kinds, n, x.want)
		}
		if text(l) != before {
			t.Errorf("CountByKind changes its argument")
		}
	}
}

// wantSame is P30.3, word by word.
func wantSame(a, b api.Config) bool {
	if len(a.Rows) != len(b.Rows) {
		return false
	}
	count := func(l []api.Row, x api.Row) int {
		n := 0
		for _, r := range l {
			if entry.Equal(r.Entry, x.Entry) {
				n++
			}
		}
		return n
	}
	for t := range a.Rows {
		for _, x := range slices.Concat(a.Rows[t], b.Rows[t]) {
			if count(a.Rows[t], x) != count(b.Rows[t], x) {
				return false
			}
		}
	}
	return true
}

// expectSame expects what SameEntries answers, whichever configuration comes first.
func expectSame(t *testing.T, what string, a, b api.Config, want bool) {
	t.Helper()
	before := text(a, b)
	if x, y := configdiff.SameEntries(a, b), configdiff.SameEntries(b, a); x != want || y != want {
		t.Errorf("%s: SameEntries of %+v and %+v: %v, %v, want %v", what, a, b, x, y, want)
	}
	if text(a, b) != before {
		t.Errorf("%s: SameEntries changes its arguments", what)
	}
	if x := wantSame(a, b); x != want {
		t.Errorf("%s: the tests' own answer: %v, want %v", what, x, want)
	}
}

func tables(l ...[]api.Row) api.Config { return api.Config{Rows: l} }

// P30.3: the entries of each table in any order, and how often they stand there
func TestSameEntries(t *testing.T) {
	x, y, z := exact(1, 10, call(none)), exact(2, 20, call(one, 1)), exact(3, 10, call(one, 1))
	rows := func(l ...api.Row) []api.Row { return l }
	for _, c := range []struct {
		what string
		a, b api.Config
		want bool
	}{
		{"nothing", api.Config{}, tables(), true},
		{"no rows", tables(nil), tables(rows()), true},
		{"a table more", tables(), tables(nil), false},
		{"an empty table more", tables(rows(x)), tables(rows(x), nil), false},
		{"another order", tables(rows(x, y, z)), tables(rows(z, x, y)), true},
		{"a row less", tables(rows(x, y, z)), tables(rows(z, x)), false},
		{"another row", tables(rows(x, y)), tables(rows(x, z)), false},
		{"rows twice", tables(rows(x, x, y)), tables(rows(x, y, y)), false},
		{"a row twice", tables(rows(x, y, x)), tables(rows(y, x, x)), true},
		{"a row once and twice", tables(rows(x, x)), tables(rows(x)), false},
		{"rows in other tables", tables(rows(x), rows(y)), tables(rows(y), rows(x)), false},
		{"all rows in one table", tables(rows(x, y), nil), tables(rows(x), rows(y)), false},
		{"several tables", tables(rows(x, y), rows(y, x)), tables(rows(y, x), rows(x, y)), true},
		{"the zero row", tables(rows(api.Row{}, x)), tables(rows(x, api.Row{ID: -7})), true},
	} {
		expectSame(t, c.what, c.a, c.b, c.want)
	}
}

// P30.3: IDs, NextID, defaults and registers don't count.
func TestSameEntriesIgnores(t *testing.T) {
	c := filled()
	for i, l := range c.Rows {
		slices.Reverse(c.Rows[i])
		for j := range l {
			c.Rows[i][j].ID = j * -3
		}
	}
	c.NextID, c.Defaults, c.Registers = nil, []api.ActionCall{call(9, 9)}, [][]uint32{nil, {1}, {7}}
	expectSame(t, "all but the entries", filled(), c, true)
	expectSame(t, "a copy", filled(), copied(filled()), true)
	expectSame(t, "no configuration", filled(), api.Config{}, false)
	expectSame(t, "an empty configuration", filled(), store.EmptyConfig(sample()), false)
}

// places answers the ways to all values in rows that can be changed, with their names.
func places(v reflect.Value, name string, found func(name string, v reflect.Value)) {
	switch v.Kind() {
	case reflect.Struct:
		for i := range v.NumField() {
			places(v.Field(i), name+"."+v.Type().Field(i).Name, found)
		}
	case reflect.Slice:
		found(name, v)
		for i := range v.Len() {
			places(v.Index(i), name+"["+strconv.Itoa(i)+"]", found)
		}
	default:
		found(name, v)
	}
}

// change changes a value in some way, and tells whether it has.
func change(v reflect.Value, way int) bool {
	switch {
	case v.Kind() == reflect.Int && way == 0:
		v.SetInt(v.Int() + 1)
	case v.Kind() == reflect.Int && way == 1:
		v.SetInt(-v.Int() - 1<<32)
	case v.Kind() == reflect.Uint32 && way == 0:
		v.SetUint(v.Uint() ^ 1)
	case v.Kind() == reflect.Uint32 && way == 1:
		v.SetUint(v.Uint() ^ 1<<31)
	case v.Kind() == reflect.Slice && way == 0:
		v.Set(reflect.Append(v, reflect.Zero(v.Type().Elem())))
	case v.Kind() == reflect.Slice && way == 1 && v.Len() > 0:
		v.Set(v.Slice(0, v.Len()-1))
	default:
		return false
	}
	return true
}

// P30.3: a change at any place of the rows counts, but for IDs.
func TestSameEntriesAnywhere(t *testing.T) {
	var names []string
	places(reflect.ValueOf(filled().Rows), "Rows", func(name string, _ reflect.Value) { names = append(names, name) })
	for i, name := range names {
		for way := range 2 {
			c := copied(filled())
			k, changed := 0, false
			places(reflect.ValueOf(&c).Elem().Field(0), "Rows", func(_ string, v reflect.Value) {
				if k++; k == i+1 {
					changed = change(v, way)
				}
			})
			if changed {
				expectSame(t, name, filled(), c, strings.HasSuffix(name, ".ID"))
			}
		}
	}
	if len(names) < 80 {
		t.Errorf("%d places", len(names))
	}
}

// randomRow answers one of few rows that no table need take.
func randomRow(r *random) api.Row {
	few := []int{0, 1, -1, math.MaxInt, math.MinInt}
	x := row(r.below(9), entryOf(pick(r, few[:2+r.below(4)]), call(pick(r, few[:2+r.below(4)]))))
	for range r.below(3) {
		x.Entry.Keys = append(x.Entry.Keys, match(r.bits()&1, r.bits()&1<<31))
	}
	for range r.below(3) {
		x.Entry.Call.Args = append(x.Entry.Call.Args, r.bits()&1*math.MaxUint32)
	}
	return x
}

// P30.3: random rows, valid or not, held against the promise's words
func TestSameEntriesRandom(t *testing.T) {
	r := random(30)
	met := map[bool]int{}
	for range 4000 {
		var a, b api.Config
		for range 1 + r.below(3) {
			var l []api.Row
			for range r.below(6) {
				l = append(l, randomRow(&r))
			}
			if len(l) > 0 && r.chance(3) {
				l = append(l, pick(&r, l))
			}
			turned := copied(l)
			for i := range turned {
				j := r.below(i + 1)
				turned[i], turned[j] = turned[j], turned[i]
			}
			if len(l) > 0 && r.chance(5) {
				turned[r.below(len(l))] = pick(&r, l)
			}
			a.Rows, b.Rows = append(a.Rows, l), append(b.Rows, turned)
		}
		want := wantSame(a, b)
		met[want]++
		expectSame(t, "random", a, b, want)
	}
	if met[true] < 1000 || met[false] < 500 {
		t.Errorf("SameEntries answers %v", met)
	}
}

// P30.3: more rows than any table takes, with keys and arguments without end
func TestSameEntriesOfMany(t *testing.T) {
	const n = 100000
	var up, down []api.Row
	for i := range n {
		up = append(up, row(i, entryOf(i%3, call(i%5, uint32(i), 7), match(uint32(i%100), 255))))
		down = append(down, row(i, entryOf((n-1-i)%3, call((n-1-i)%5, uint32(n-1-i), 7), match(uint32((n-1-i)%100), 255))))
	}
	long := row(1, entryOf(0, api.ActionCall{Args: make([]uint32, n)}, make([]api.KeyMatch, n)...))
	longer := copied(long)
	longer.Entry.Call.Args[n-1] = 1
	if !configdiff.SameEntries(tables(up, []api.Row{long, longer}), tables(down, []api.Row{longer, long})) {
		t.Error("SameEntries of many rows in another order: false")
	}
	if configdiff.SameEntries(tables([]api.Row{long, longer}), tables([]api.Row{longer, longer})) {
		t.Error("SameEntries of rows that differ in their last argument: true")
	}
	down[n/2].Entry.Call.Args[1] = 8
	if configdiff.SameEntries(tables(up), tables(down)) {
		t.Error("SameEntries of many rows of which one differs: true")
	}
}
