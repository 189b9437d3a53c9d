package txn_test

import (
	"slices"
	"testing"

	"patchbay/api"
	"patchbay/store"
	"patchbay/txn"
)

// wantOne executes an operation as the chapter's Definitions say.
func wantOne(s *store.Store, x api.TableOp) (int, api.Errno) {
	switch x.Kind {
	case 1:
		return s.Insert(x.Table, x.Entry)
	case 2:
		return 0, s.Modify(x.Table, x.ID, x.Call)
	case 3:
		return 0, s.Delete(x.Table, x.ID)
	case 4:
		return 0, s.SetDefault(x.Table, x.Call)
	default:
		return 0, api.ErrKind
	}
}

// wantApply is P27.1, word by word.
func wantApply(p api.Program, c api.Config, l []api.TableOp) (api.Config, []int, int, api.Errno) {
	if e := store.Check(p, c); e != api.OK {
		return api.Config{}, nil, -1, e
	}
	if len(l) > 64 {
		return api.Config{}, nil, -1, api.ErrLimit
	}
	s, _ := store.Load(p, c)
	ids := []int{}
	for i, x := range l {
		id, e := wantOne(s, x)
		if e != api.OK {
			return api.Config{}, nil, i, e
		}
		ids = append(ids, id)
	}
	return s.Config(), ids, 0, api.OK
}

// expectApply expects that Apply answers what the promise says, and Commit the same.
func expectApply(t *testing.T, what string, p api.Program, c api.Config, l []api.TableOp) (api.Config, api.Errno) {
	t.Helper()
	before := text(p, c, l)
	d, ids, at, e := txn.Apply(p, c, l)
	wantD, wantIDs, wantAt, wantE := wantApply(p, c, l)
	if !same(d, wantD) || !slices.Equal(ids, wantIDs) || at != wantAt || e != wantE {
		t.Errorf("%s: Apply: %+v, %v, %d, %v, want %+v, %v, %d, %v", what, d, ids, at, e, wantD, wantIDs, wantAt, wantE)
	}
	if text(p, c, l) != before {
		t.Errorf("%s: Apply changes its arguments", what)
	}
	expectApart(t, what+": Apply", d, p, c, l)
	if store.Check(p, c) == api.OK {
		expectCommit(t, what, p, c, l)
	}
	return d, e
}

// expectCommit expects that Commit does on a store of the configuration what Apply answers, or nothing.
func expectCommit(t *testing.T, what string, p api.Program, c api.Config, l []api.TableOp) {
	t.Helper()
	s, _ := store.Load(p, c)
	copyOfS, clone := *s, s.Clone()
	before := text(l)
	ids, at, e := txn.Commit(s, l)
	d, wantIDs, wantAt, wantE := wantApply(p, c, l)
	if wantE != api.OK {
		d = c
	}
	if !slices.Equal(ids, wantIDs) || at != wantAt || e != wantE {
		t.Errorf("%s: Commit: %v, %d, %v, want %v, %d, %v", what, ids, at, e, wantIDs, wantAt, wantE)
	}
	if got := s.Config(); !same(got, d) {
		t.Errorf("%s: behind Commit the store has %+v, want %+v", what, got, d)
	}
	if got := copyOfS.Config(); !same(got, d) {
		t.Errorf("%s: behind Commit a copy of the store has %+v, want %+v", what, got, d)
	}
	if !same(clone.Config(), c) {
		t.Errorf("%s: Commit changes a clone", what)
	}
	if text(l) != before {
		t.Errorf("%s: Commit changes its arguments", what)
	}
}

// P27.1, P27.2: operations of each kind, and the IDs that they answer
func TestApply(t *testing.T) {
	p, c := sample(), filled()
	l := ops(
		remove(exactly, 2),
		insert(exactly, entryOf(0, call(0), match(0, 15), match(7, 7))),
		setDefault(keyless, call(0)),
		modify(exactly, 10, call(1, 77)),
		insert(byPattern, entryOf(3, call(2, 0, 1, 2), match(0, 0), match(0x80, 0xc0))),
		remove(keyless, 4),
		insert(keyless, entryOf(0, call(0))),
		insert(exactly, entryOf(0, call(1, 1), match(1, 15), match(1, 7))),
	)
	expectApply(t, "operations of each kind", p, c, l)
	d, ids, at, e := txn.Apply(p, c, l)
	if !slices.Equal(ids, []int{0, 10, 0, 0, 80, 0, 5, 11}) || at != 0 || e != api.OK {
		t.Errorf("Apply: %v, %d, %v", ids, at, e)
	}
	want := filled()
	want.Rows[exactly] = append(slices.Delete(want.Rows[exactly], 1, 2), row(10, entryOf(0, call(1, 77), match(0, 15), match(7, 7))), row(11, entryOf(0, call(1, 1), match(1, 15), match(1, 7))))
	want.Rows[byPattern] = append(want.Rows[byPattern], row(80, entryOf(3, call(2, 0, 1, 2), match(0, 0), match(0x80, 0xc0))))
	want.Rows[keyless] = []api.Row{row(5, entryOf(0, call(0)))}
	want.NextID, want.Defaults[keyless] = []int{12, 81, 6}, call(0)
	if !same(d, want) {
		t.Errorf("Apply: %+v, want %+v", d, want)
	}
	expectApply(t, "no operations", p, c, nil)
	expectApply(t, "no operations", p, c, []api.TableOp{})
	expectApply(t, "no operations", p, store.EmptyConfig(p), nil)
	for i, x := range l {
		expectApply(t, "the first operations", p, c, l[:i])
		expectApply(t, "one operation", p, c, ops(x))
		expectApply(t, "one operation of an empty configuration", p, store.EmptyConfig(p), ops(x))
	}
}

// P27.1: the chapter's example 1
func TestExampleOfApply(t *testing.T) {
	p, c := sample(), store.EmptyConfig(sample())
	l := ops(insert(exactly, entryOf(0, call(0), match(0, 15), match(7, 7))), remove(exactly, 2))
	d, ids, at, e := txn.Apply(p, c, l)
	if !same(d, api.Config{}) || len(ids) != 0 || at != 1 || e != api.ErrNotFound {
		t.Errorf("Apply: %+v, %v, %d, %v", d, ids, at, e)
	}
	s := loaded(t, c)
	if ids, at, e := txn.Commit(s, l); len(ids) != 0 || at != 1 || e != api.ErrNotFound || !same(s.Config(), c) {
		t.Errorf("Commit: %v, %d, %v: %+v", ids, at, e, s.Config())
	}
}

// badOps are operations that fail on the filled configuration, with the codes they fail with.
func badOps() map[string]struct {
	op   api.TableOp
	code api.Errno
} {
	free := entryOf(0, call(0), match(1, 15), match(1, 7))
	return map[string]struct {
		op   api.TableOp
		code api.Errno
	}{
		"no kind":                  {api.TableOp{Entry: free}, api.ErrKind},
		"a great kind":             {api.TableOp{Kind: 5, Table: 99}, api.ErrKind},
		"a negative kind":          {api.TableOp{Kind: -1, ID: 1}, api.ErrKind},
		"an insertion nowhere":     {insert(3, free), api.ErrNotFound},
		"a negative table":         {insert(-1, free), api.ErrNotFound},
		"too few keys":             {insert(exactly, entryOf(0, call(0), match(1, 15))), api.ErrArg},
		"a wide value":             {insert(exactly, entryOf(0, call(0), match(16, 15), match(1, 7))), api.ErrRange},
		"a value outside its mask": {insert(byPattern, entryOf(0, call(0), match(1, 2), match(0, 0))), api.ErrSyntax},
		"a mask that isn't exact":  {insert(exactly, entryOf(0, call(0), match(1, 3), match(1, 7))), api.ErrKind},
		"an action not allowed":    {insert(exactly, entryOf(0, call(2, 0, 0, 0), match(1, 15), match(1, 7))), api.ErrNotFound},
		"a great argument":         {insert(exactly, entryOf(0, call(1, 256), match(1, 15), match(1, 7))), api.ErrRange},
		"a key of a row":           {insert(exactly, entryOf(0, call(0), match(3, 15), match(7, 7))), api.ErrDuplicate},
		"a key in a full table":    {insert(keyless, entryOf(0, call(0))), api.ErrDuplicate},
		"a modified table":         {modify(3, 1, call(0)), api.ErrNotFound},
		"a modified row":           {modify(exactly, 3, call(0)), api.ErrNotFound},
		"a modified row's action":  {modify(exactly, 1, call(2, 0, 0, 0)), api.ErrNotFound},
		"a modified row's call":    {modify(exactly, 1, call(1)), api.ErrArg},
		"a deletion nowhere":       {remove(-1, 1), api.ErrNotFound},
		"a deletion of nothing":    {remove(byPattern, 6), api.ErrNotFound},
		"a default nowhere":        {setDefault(3, call(0)), api.ErrNotFound},
		"a default's action":       {setDefault(keyless, call(2, 0, 0, 0)), api.ErrNotFound},
		"a default's call":         {setDefault(keyless, call(1, 256)), api.ErrRange},
	}
}

// P27.1, P27.2, P27.5: the first operation that fails, wherever it stands
func TestFailingOperations(t *testing.T) {
	p, c := sample(), filled()
	good := ops(
		modify(exactly, 1, call(0)),
		insert(byPattern, entryOf(3, call(0), match(0, 0), match(0, 0))),
		setDefault(exactly, call(0)),
		remove(byPattern, 5),
		insert(byPattern, entryOf(4, call(0), match(0, 0), match(0, 0))),
	)
	for what, x := range badOps() {
		for i := range len(good) + 1 {
			l := slices.Insert(slices.Clone(good), i, x.op)
			expectApply(t, what, p, c, l)
			if d, ids, at, e := txn.Apply(p, c, l); !same(d, api.Config{}) || len(ids) != 0 || at != i || e != x.code {
				t.Errorf("%s: Apply: %+v, %v, %d, %v, want %d, %v", what, d, ids, at, e, i, x.code)
			}
		}
		for other, y := range badOps() {
			expectApply(t, what+", "+other, p, c, append(slices.Clone(good), x.op, good[0], y.op))
		}
	}
	for _, n := range wrongNumbers {
		expectApply(t, "a wrong kind", p, c, ops(good[0], api.TableOp{Kind: n}))
		expectApply(t, "a wrong table", p, c, ops(good[0], setDefault(n, call(0))))
		expectApply(t, "a wrong table", p, c, ops(good[0], remove(n, 1)))
		expectApply(t, "a wrong ID", p, c, ops(good[0], remove(exactly, n)))
		expectApply(t, "a wrong ID", p, c, ops(good[0], modify(exactly, n, call(0))))
	}
}

// P27.1: a table that becomes full, by its rows or by its IDs
func TestFullTables(t *testing.T) {
	p, c := sample(), filled()
	fresh := func(n int) api.TableOp {
		return insert(exactly, entryOf(0, call(0), match(uint32(n), 15), match(2, 7)))
	}
	expectApply(t, "one row", p, c, ops(fresh(1)))
	if _, _, at, e := txn.Apply(p, c, ops(fresh(1), fresh(2))); at != 1 || e != api.ErrFull {
		t.Errorf("two rows: %d, %v", at, e)
	}
	expectApply(t, "two rows", p, c, ops(fresh(1), fresh(2)))
	expectApply(t, "a row for another", p, c, ops(fresh(1), remove(exactly, 10), fresh(1), remove(exactly, 1), fresh(2)))
	c.NextID[exactly] = noID - 1
	expectApply(t, "the last ID", p, c, ops(fresh(1)))
	if _, _, at, e := txn.Apply(p, c, ops(fresh(1), remove(exactly, 1), fresh(2))); at != 2 || e != api.ErrFull {
		t.Errorf("behind the last ID: %d, %v", at, e)
	}
	expectApply(t, "behind the last ID", p, c, ops(fresh(1), remove(exactly, 1), fresh(2)))
}

// P27.1: store.Check comes first, then the number of operations, then the operations.
func TestOrderOfErrors(t *testing.T) {
	p, c := sample(), filled()
	lists := map[string][]api.TableOp{"none": nil, "one": ops(setDefault(keyless, call(0))), "a bad one": make([]api.TableOp, 1), "too many": make([]api.TableOp, api.MaxOps+1)}
	for what, l := range lists {
		for _, x := range faults() {
			expectApply(t, what, x.program, x.config, l)
			if _, _, at, e := txn.Apply(x.program, x.config, l); at != -1 || e != store.Check(x.program, x.config) {
				t.Errorf("%s on a fault: %d, %v", what, at, e)
			}
		}
	}
	for _, n := range []int{api.MaxOps, api.MaxOps + 1, 2*api.MaxOps + 1, 1000} {
		l := slices.Repeat(ops(setDefault(keyless, call(0))), n)
		want, wantAt := api.ErrLimit, -1
		if n == api.MaxOps {
			want, wantAt = api.OK, 0
		}
		expectApply(t, "many operations", p, c, l)
		if _, ids, at, e := txn.Apply(p, c, l); at != wantAt || e != want || e == api.OK && len(ids) != n {
			t.Errorf("%d operations: %v, %d, %v", n, ids, at, e)
		}
		l[0].Kind = 0
		expectApply(t, "many operations, the first one bad", p, c, l)
		l[0], l[api.MaxOps-1].Table = l[1], 7
		expectApply(t, "many operations, the last one bad", p, c, l)
	}
}

// P27.2: stores that no constructor made
func TestCommitWithoutStore(t *testing.T) {
	for _, s := range []*store.Store{nil, {}, new(store.Store)} {
		for _, l := range [][]api.TableOp{nil, ops(setDefault(0, call(0))), make([]api.TableOp, 1), make([]api.TableOp, 65)} {
			if ids, at, e := txn.Commit(s, l); len(ids) != 0 || at != -1 || e != api.ErrNil {
				t.Errorf("Commit: %v, %d, %v", ids, at, e)
			}
			if s != nil && s.Clone() != nil {
				t.Error("Commit makes a store")
			}
		}
	}
}

// P27.1, rule 8: fields that an operation's kind doesn't use are ignored.
func TestUnusedFields(t *testing.T) {
	p, c := sample(), filled()
	wrong := entryOf(-1, call(9, 9, 9), match(9, 0))
	for _, n := range append([]int{0, 1}, wrongNumbers...) {
		x, y := insert(exactly, entryOf(0, call(0), match(1, 15), match(1, 7))), modify(exactly, 1, call(0))
		z, d := remove(exactly, 2), setDefault(exactly, call(0))
		want, _, _, _ := txn.Apply(p, c, ops(x, y, z, d))
		x.ID, x.Call = n, call(n, 300)
		y.Entry = wrong
		z.Entry, z.Call = wrong, call(n, 300)
		d.Entry, d.ID = wrong, n
		if got, e := expectApply(t, "unused fields", p, c, ops(x, y, z, d)); e != api.OK || !same(got, want) {
			t.Errorf("unused fields: %+v, %v, want %+v", got, e, want)
		}
	}
}

// Rule 4: what is handed in isn't kept, and what is handed out is new.
func TestMemory(t *testing.T) {
	p, c := sample(), filled()
	l := ops(insert(exactly, entryOf(0, call(1, 5), match(1, 15), match(1, 7))), modify(exactly, 1, call(1, 6)), setDefault(byPattern, call(1, 7)))
	s := loaded(t, c)
	d, _, _, e := txn.Apply(p, c, l)
	if e != api.OK {
		t.Fatalf("Apply: %v", e)
	}
	txn.Commit(s, l)
	want := copied(d)
	l[0].Entry.Keys[0], l[0].Entry.Call.Args[0], l[1].Call.Args[0], l[2].Call.Args[0] = match(2, 15), 9, 9, 9
	c.Rows[exactly][1].Entry.Keys[0].Value, c.Defaults[exactly].Args[0], c.Registers[0][0] = 9, 9, 9
	if !same(d, want) || !same(s.Config(), want) {
		t.Errorf("the answer holds the argument: %+v, %+v, want %+v", d, s.Config(), want)
	}
	expectApart(t, "two answers", s.Config(), d)
}

// P27.2: a store that a transaction failed on can be used as before, and so can one of a copy.
func TestCommitAgain(t *testing.T) {
	s := loaded(t, filled())
	c := *s
	bad := ops(remove(exactly, 1), setDefault(exactly, call(0)), remove(exactly, 1))
	good := ops(remove(exactly, 1), insert(exactly, entryOf(0, call(0), match(3, 15), match(7, 7))))
	for i := range 5 {
		want := c.Config()
		if _, at, e := txn.Commit(s, bad); at != 2 && i == 0 || e != api.ErrNotFound || !same(s.Config(), want) {
			t.Errorf("a failing transaction: %d, %v, %+v", at, e, s.Config())
		}
		if ids, at, e := txn.Commit(&c, good); !slices.Equal(ids, []int{0, 10 + i}) || at != 0 || e != api.OK {
			t.Errorf("a transaction: %v, %d, %v", ids, at, e)
		}
		if !same(s.Config(), c.Config()) {
			t.Errorf("a store and its copy: %+v, %+v", s.Config(), c.Config())
		}
		good[0].ID = 10 + i
	}
}
