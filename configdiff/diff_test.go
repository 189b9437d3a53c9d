package configdiff_test

import (
	"slices"
	"testing"

	"patchbay/api"
	"patchbay/configdiff"
	"patchbay/entry"
	"patchbay/store"
	"patchbay/txn"
)

// wantTable is the operations on a table, by the words of the chapter's Definitions and of P30.1.
func wantTable(t int, a, b api.Config) []api.TableOp {
	from, to := a.Rows[t], b.Rows[t]
	counterpart, ended := map[int]int{}, false // the index of a kept row of a, by that of the row of b
	before := -1
	for j, y := range to {
		i := slices.IndexFunc(from, func(x api.Row) bool { return entry.SameKey(x.Entry, y.Entry) })
		ended = ended || i <= before
		if !ended {
			counterpart[j], before = i, i
		}
	}
	var deleted, modified, inserted []api.TableOp
	kept := map[int]bool{}
	for j, y := range to {
		i, ok := counterpart[j]
		if !ok {
			inserted = append(inserted, insert(t, y.Entry))
			continue
		}
		kept[i] = true
		if !entry.Equal(from[i].Entry, y.Entry) {
			modified = append(modified, modify(t, from[i].ID, y.Entry.Call))
		}
	}
	for i, x := range from {
		if !kept[i] {
			deleted = append(deleted, remove(t, x.ID))
		}
	}
	l := slices.Concat(deleted, modified, inserted)
	if x, y := a.Defaults[t], b.Defaults[t]; x.Action != y.Action || !slices.Equal(x.Args, y.Args) {
		l = append(l, setDefault(t, y))
	}
	return l
}

// wantDiff is P30.1, word by word.
func wantDiff(p api.Program, a, b api.Config) ([]api.TableOp, api.Errno) {
	if e := store.Check(p, a); e != api.OK {
		return nil, e
	}
	if e := store.Check(p, b); e != api.OK {
		return nil, e
	}
	var l []api.TableOp
	for t := range p.Tables {
		l = append(l, wantTable(t, a, b)...)
	}
	if len(l) > 64 {
		return nil, api.ErrLimit
	}
	for t := range p.Tables {
		inserted := 0
		for _, o := range l {
			if o.Kind == 1 && o.Table == t {
				inserted++
			}
		}
		if a.NextID[t]+inserted > 1<<30 {
			return nil, api.ErrFull
		}
	}
	return l, api.OK
}

// expectDiff expects that Diff answers what the promise says, and that the answer leads from a to b (P30.4).
func expectDiff(t *testing.T, what string, p api.Program, a, b api.Config) ([]api.TableOp, api.Errno) {
	t.Helper()
	before := text(p, a, b)
	l, e := configdiff.Diff(p, a, b)
	if want, wantE := wantDiff(p, a, b); !same(l, want) || e != wantE {
		t.Errorf("%s: Diff: %+v, %v, want %+v, %v", what, l, e, want, wantE)
	}
	if text(p, a, b) != before {
		t.Errorf("%s: Diff changes its arguments", what)
	}
	expectApart(t, what+": Diff", l, p, a, b)
	if e != api.OK {
		return l, e
	}
	goal := copied(b)
	goal.Registers = copied(a.Registers)
	d, _, at, code := txn.Apply(p, a, l)
	if code != api.OK || !txn.Equivalent(d, goal) {
		t.Errorf("%s: the operations %+v lead to %+v, %d, %v, want %+v", what, l, d, at, code, goal)
	}
	if rest, e := configdiff.Diff(p, d, b); len(rest) != 0 || e != api.OK {
		t.Errorf("%s: behind the operations, Diff: %+v, %v", what, rest, e)
	}
	return l, e
}

// expectOps expects these operations.
func expectOps(t *testing.T, what string, a, b api.Config, want ...api.TableOp) {
	t.Helper()
	if l, e := expectDiff(t, what, sample(), a, b); !same(l, want) || e != api.OK {
		t.Errorf("%s: Diff: %+v, %v, want %+v", what, l, e, want)
	}
}

// P30.1: the rows of one table
func TestDiffOfRows(t *testing.T) {
	rows := func(l ...api.Row) api.Config { return filledWith(exactly, l...) }
	x, y, z := exact(1, 10, call(none)), exact(4, 20, call(one, 2)), exact(8, 30, call(none))
	at := func(id int, r api.Row) api.Row { r.ID = id; return r }
	a := rows(x, y, z)
	expectOps(t, "the same rows", a, rows(at(2, x), at(3, y), at(100, z)))
	expectOps(t, "no rows", rows(), rows())
	expectOps(t, "all new", rows(), a, insert(exactly, x.Entry), insert(exactly, y.Entry), insert(exactly, z.Entry))
	expectOps(t, "all gone", a, rows(), remove(exactly, 1), remove(exactly, 4), remove(exactly, 8))
	expectOps(t, "the first gone", a, rows(at(1, y), at(2, z)), remove(exactly, 1))
	expectOps(t, "the middle gone", a, rows(at(1, x), at(2, z)), remove(exactly, 4))
	expectOps(t, "the last gone", a, rows(at(1, x), at(2, y)), remove(exactly, 8))
	expectOps(t, "one at the end", rows(x, y), a, insert(exactly, z.Entry))
	expectOps(t, "one in the middle", rows(x, z), a, remove(exactly, 8), insert(exactly, y.Entry), insert(exactly, z.Entry))
	expectOps(t, "one at the beginning", rows(y, z), a, remove(exactly, 4), remove(exactly, 8), insert(exactly, x.Entry), insert(exactly, y.Entry), insert(exactly, z.Entry))
	expectOps(t, "the last ahead", a, rows(at(1, z), at(2, x), at(3, y)), remove(exactly, 1), remove(exactly, 4), insert(exactly, x.Entry), insert(exactly, y.Entry))
	expectOps(t, "behind the first failure none is kept", a, rows(at(1, y), at(2, x), at(3, z)), remove(exactly, 1), remove(exactly, 8), insert(exactly, x.Entry), insert(exactly, z.Entry))
	expectOps(t, "turned round", a, rows(at(1, z), at(2, y), at(3, x)), remove(exactly, 1), remove(exactly, 4), insert(exactly, y.Entry), insert(exactly, x.Entry))
}

// P30.1: rows that are kept with another call, and defaults
func TestDiffOfCalls(t *testing.T) {
	rows := func(l ...api.Row) api.Config { return filledWith(exactly, l...) }
	with := func(c api.ActionCall) api.Config {
		return rows(exact(3, 10, call(none)), exact(5, 20, c), exact(9, 30, call(one, 7)))
	}
	expectOps(t, "another action", with(call(none)), with(call(one, 0)), modify(exactly, 5, call(one, 0)))
	expectOps(t, "no arguments", with(call(one, 0)), with(call(none)), modify(exactly, 5, call(none)))
	expectOps(t, "another argument", with(call(one, 1)), with(call(one, 2)), modify(exactly, 5, call(one, 2)))
	expectOps(t, "the same call", with(call(one, 2)), with(call(one, 2)))
	expectOps(t, "an empty list of arguments", with(call(none)), with(call(none, []uint32{}...)))
	expectOps(t, "all kept rows", with(call(none)), rows(exact(1, 10, call(one, 1)), exact(2, 20, call(one, 2)), exact(3, 30, call(one, 3))),
		modify(exactly, 3, call(one, 1)), modify(exactly, 5, call(one, 2)), modify(exactly, 9, call(one, 3)))
	expectOps(t, "kept rows and others", with(call(none)), rows(exact(1, 20, call(one, 5)), exact(2, 10, call(one, 6)), exact(3, 30, call(none))),
		remove(exactly, 3), remove(exactly, 9), modify(exactly, 5, call(one, 5)), insert(exactly, entryOf(0, call(one, 6), match(10, 255))), insert(exactly, entryOf(0, call(none), match(30, 255))))
	defaults := func(t int, c api.ActionCall) api.Config {
		x := filled()
		x.Defaults[t] = c
		return x
	}
	expectOps(t, "a default's action", filled(), defaults(byPattern, call(one, 0)), setDefault(byPattern, call(one, 0)))
	expectOps(t, "a default's arguments", filled(), defaults(exactly, call(one, 254)), setDefault(exactly, call(one, 254)))
	expectOps(t, "a default without arguments", filled(), defaults(keyless, call(none)), setDefault(keyless, call(none)))
	expectOps(t, "an argument of two", defaults(byPattern, call(two, 1, 5)), defaults(byPattern, call(two, 1, 6)), setDefault(byPattern, call(two, 1, 6)))
}

// P30.1: all of SameKey counts, and nothing else: values, masks and priorities
func TestDiffOfKeys(t *testing.T) {
	rows := func(l ...api.Row) api.Config { return filledWith(byPattern, l...) }
	base := six(1, 7, 0x4f, call(none))
	for _, l := range [][]api.KeyMatch{
		{match(1, 3), match(2, 2), match(0x4e, 255), match(8, 8), match(0, 1), match(0, 0x40)},
		{match(3, 7), match(0, 128), match(0x4f, 0x7f), match(0, 0), match(1, 3), match(0x40, 0x60)},
	} {
		for i, m := range l {
			other := copied(base)
			other.Entry.Keys[i] = m
			expectOps(t, "another match", rows(base), rows(other), remove(byPattern, 1), insert(byPattern, other.Entry))
		}
	}
	other := copied(base)
	other.Entry.Priority = 8
	expectOps(t, "another priority", rows(base), rows(other), remove(byPattern, 1), insert(byPattern, other.Entry))
	expectOps(t, "a row of each priority", rows(base, six(2, 8, 0x4f, call(none))), rows(six(5, 8, 0x4f, call(one, 1))), remove(byPattern, 1), modify(byPattern, 2, call(one, 1)))
	keyless1, keyless2 := filledWith(keyless, row(1, entryOf(0, call(none)))), filledWith(keyless, row(3, entryOf(0, call(one, 4))))
	expectOps(t, "rows without keys", keyless1, keyless2, modify(keyless, 1, call(one, 4)))
	expectOps(t, "a row without keys", filledWith(keyless), keyless2, insert(keyless, entryOf(0, call(one, 4))))
}

// P30.1: the tables in their order, each with its operations in order
func TestDiffOfTables(t *testing.T) {
	a, b := filled(), filled()
	b.Rows[exactly] = []api.Row{exact(2, 20, call(one, 1)), exact(3, 40, call(none))}
	b.Rows[byPattern] = []api.Row{six(1, 255, 1, call(none)), six(2, 0, 1, call(one, 5)), six(3, 0, 3, call(none))}
	b.Rows[keyless] = nil
	b.Defaults = []api.ActionCall{call(none), call(two, 0, 1<<31), call(one, 9)}
	b.NextID = []int{1 << 30, 7, 1}
	b.Registers = [][]uint32{{0, 0, 0, 0}, {5, 6}}
	expectOps(t, "all tables", a, b,
		remove(exactly, 1), remove(exactly, 8), modify(exactly, 4, call(one, 1)), insert(exactly, b.Rows[exactly][1].Entry), setDefault(exactly, call(none)),
		remove(byPattern, 5), remove(byPattern, 70), modify(byPattern, 6, call(none)), insert(byPattern, b.Rows[byPattern][1].Entry), insert(byPattern, b.Rows[byPattern][2].Entry), setDefault(byPattern, call(two, 0, 1<<31)),
		remove(keyless, 4), setDefault(keyless, call(one, 9)))
	c := filled()
	c.NextID, c.Registers = []int{noID, noID, noID}, [][]uint32{{1, 2, 3, 4}, {0, 0}}
	expectOps(t, "another NextID and other registers", a, c)
	expectOps(t, "another NextID and other registers", c, a)
	none := sample()
	none.Tables, none.Control = nil, nil
	if l, e := expectDiff(t, "no tables", none, store.EmptyConfig(none), store.EmptyConfig(none)); len(l) != 0 || e != api.OK {
		t.Errorf("no tables: %+v, %v", l, e)
	}
}

// P30.1: the chapter's example 1
func TestExampleOfDiff(t *testing.T) {
	x, y := exact(1, 10, call(none)), exact(2, 20, call(one, 5))
	expectOps(t, "example 1", filledWith(exactly, x, y), filledWith(exactly, row(1, y.Entry), row(2, x.Entry)), remove(exactly, 1), insert(exactly, x.Entry))
}

// P30.1: an invalid configuration, the first one ahead of the second one
func TestDiffOfInvalid(t *testing.T) {
	l := faults()
	for i, x := range l {
		code := store.Check(x.program, x.config)
		if _, e := expectDiff(t, "both invalid", x.program, x.config, x.config); e != code {
			t.Errorf("fault %d: %v, want %v", i, e, code)
		}
		expectDiff(t, "one of both invalid", x.program, x.config, filled())
		expectDiff(t, "one of both invalid", x.program, filled(), x.config)
		for _, y := range l {
			want := store.Check(x.program, x.config)
			if got, e := expectDiff(t, "two faults", x.program, x.config, y.config); len(got) != 0 || e != want {
				t.Errorf("faults: %+v, %v, want %v", got, e, want)
			}
		}
	}
	far := filledWith(exactly, exact(1, 99, call(none)))
	far.NextID[exactly] = noID
	wrong := filled()
	wrong.Registers = nil
	if _, e := expectDiff(t, "no ID left for an invalid configuration", sample(), far, wrong); e != store.Check(sample(), wrong) {
		t.Errorf("no ID left for an invalid configuration: %v", e)
	}
}

// manyRows answers rows of the table byPattern with keys of their own, from one on.
func manyRows(n, first int) []api.Row {
	var l []api.Row
	for i := range n {
		k := first + i
		l = append(l, six(i+1, k/256, uint32(k%256), call(none)))
	}
	return l
}

// P30.1: as many operations as a transaction has, and one more
func TestDiffLimit(t *testing.T) {
	p, empty := sample(), store.EmptyConfig(sample())
	config := func(l []api.Row, defaults int) api.Config {
		c := store.EmptyConfig(p)
		c.Rows[byPattern], c.NextID[byPattern] = l, len(l)+1
		for t := range defaults {
			c.Defaults[t] = call(one, 99)
		}
		return c
	}
	called := manyRows(api.MaxOps+1, 0)
	for i := range called {
		called[i].Entry.Call = call(one, 1)
	}
	for _, x := range []struct {
		what string
		a, b api.Config
		n    int
	}{
		{"insertions", empty, config(manyRows(64, 0), 0), 64},
		{"too many insertions", empty, config(manyRows(65, 0), 0), 65},
		{"deletions", config(manyRows(64, 0), 0), empty, 64},
		{"too many deletions", config(manyRows(65, 0), 0), empty, 65},
		{"calls", config(manyRows(64, 0), 0), config(called[:64], 0), 64},
		{"too many calls", config(manyRows(65, 0), 0), config(called, 0), 65},
		{"rows for others", config(manyRows(32, 0), 0), config(manyRows(32, 32), 0), 64},
		{"too many rows for others", config(manyRows(32, 0), 0), config(manyRows(33, 32), 0), 65},
		{"insertions and defaults", empty, config(manyRows(61, 0), 3), 64},
		{"too many insertions and defaults", empty, config(manyRows(62, 0), 3), 65},
		{"a full table for another", config(manyRows(256, 0), 0), config(manyRows(256, 256), 0), 512},
		{"the same rows", config(manyRows(256, 0), 3), config(manyRows(256, 0), 3), 0},
	} {
		l, e := expectDiff(t, x.what, p, x.a, x.b)
		if x.n > api.MaxOps && e != api.ErrLimit || x.n <= api.MaxOps && (e != api.OK || len(l) != x.n) {
			t.Errorf("%s: %d operations, %v, want %d", x.what, len(l), e, x.n)
		}
	}
}

// P30.1: tables without an ID for each insertion
func TestDiffFull(t *testing.T) {
	p := sample()
	for _, x := range []struct {
		what     string
		next     int
		inserted int
		want     api.Errno
	}{
		{"no ID and no insertion", noID, 0, api.OK},
		{"no ID", noID, 1, api.ErrFull},
		{"an ID", noID - 1, 1, api.OK},
		{"an ID for two", noID - 1, 2, api.ErrFull},
		{"as many IDs as insertions", noID - 50, 50, api.OK},
		{"one ID too few", noID - 50, 51, api.ErrFull},
		{"too few IDs for too many operations", noID - 50, 66, api.ErrLimit},
	} {
		a := store.EmptyConfig(p)
		b := filledWith(byPattern, manyRows(x.inserted, 0)...)
		b.Rows[exactly], b.Rows[keyless], b.Defaults = nil, nil, a.Defaults
		a.NextID[byPattern] = x.next
		if _, e := expectDiff(t, x.what, p, a, b); e != x.want {
			t.Errorf("%s: %v, want %v", x.what, e, x.want)
		}
	}
	a := filledWith(exactly)
	a.NextID[exactly], a.NextID[byPattern] = noID-4, noID
	b := filled()
	b.Rows[byPattern] = b.Rows[byPattern][:1]
	if _, e := expectDiff(t, "IDs in the one table that needs them", p, a, b); e != api.OK {
		t.Errorf("IDs in the one table that needs them: %v", e)
	}
	a.NextID[keyless], a.Rows[keyless] = noID, nil
	if _, e := expectDiff(t, "no ID in the last table", p, a, b); e != api.ErrFull {
		t.Errorf("no ID in the last table: %v", e)
	}
}

// P30.4: a configuration and itself
func TestDiffOfItself(t *testing.T) {
	for _, c := range []api.Config{filled(), store.EmptyConfig(sample()), filledWith(byPattern, manyRows(256, 0)...)} {
		expectOps(t, "itself", c, c)
		expectOps(t, "a copy", c, copied(c))
	}
}

// rows answers a random table's rows, of which some have keys of before.
func randomRows(r *random, n int, before []api.Row, fresh func() api.Entry) []api.Row {
	var l []api.Row
	id := 0
	for range n {
		x := fresh()
		if len(before) > 0 && !r.chance(4) {
			x = before[(id*2/3+r.below(3))%len(before)].Entry
		}
		if r.chance(3) {
			x.Call = fresh().Call
		}
		if slices.ContainsFunc(l, func(y api.Row) bool { return entry.SameKey(x, y.Entry) }) {
			continue
		}
		id += 1 + r.below(3)/2
		l = append(l, row(id, copied(x)))
	}
	return l
}

// randomConfig answers a configuration with some rows of another one.
func randomConfig(r *random, before api.Config) api.Config {
	c := store.EmptyConfig(sample())
	c.Rows[exactly] = randomRows(r, r.below(7), before.Rows[exactly], func() api.Entry {
		return exact(0, uint32(r.below(8)), pick(r, []api.ActionCall{call(none), call(one, uint32(r.below(2)))})).Entry
	})
	c.Rows[byPattern] = randomRows(r, r.below(30), before.Rows[byPattern], func() api.Entry {
		return six(0, r.below(3), uint32(r.below(20)), pick(r, []api.ActionCall{call(none), call(one, uint32(r.below(3))), call(two, uint32(r.below(2)), r.bits()&1)})).Entry
	})
	c.Rows[keyless] = randomRows(r, r.below(2), before.Rows[keyless], func() api.Entry {
		return entryOf(0, pick(r, []api.ActionCall{call(none), call(one, uint32(r.below(2)))}))
	})
	for t, l := range c.Rows {
		for _, x := range l {
			c.NextID[t] = x.ID + 1 + r.below(2)
		}
		if r.chance(60) {
			c.NextID[t] = noID - r.below(3)
		}
		if r.chance(2) {
			c.Defaults[t] = pick(r, []api.ActionCall{call(none), call(one, uint32(r.below(2)))})
		}
	}
	c.Registers[0][r.below(4)], c.Registers[1][0] = r.bits()%256, r.bits()
	return c
}

// P30.1, P30.4: random configurations, held against the promise's words
func TestRandomDiffs(t *testing.T) {
	p, met := sample(), map[api.Errno]int{}
	kinds := map[int]int{}
	for seed := range 40 {
		r := random(seed)
		a := filled()
		for range 40 {
			b := randomConfig(&r, a)
			l, e := expectDiff(t, "random", p, a, b)
			met[e]++
			for _, o := range l {
				kinds[o.Kind]++
			}
			a = b
			if t.Failed() {
				return
			}
		}
	}
	if met[api.OK] < 1000 || met[api.ErrFull] < 20 {
		t.Errorf("the codes %v", met)
	}
	for k := range 4 {
		if kinds[k+1] < 1000 {
			t.Errorf("operations of the kinds %v", kinds)
		}
	}
}
