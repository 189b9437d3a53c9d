package txn_test

import (
	"slices"
	"testing"

	"patchbay/api"
	"patchbay/store"
	"patchbay/txn"
)

// wantInverse is P27.4, word by word.
func wantInverse(p api.Program, c api.Config, l []api.TableOp) ([]api.TableOp, api.Errno) {
	d, ids, _, e := wantApply(p, c, l)
	if e != api.OK {
		return nil, e
	}
	var inverse []api.TableOp
	next, anew := slices.Clone(d.NextID), map[[2]int]int{}
	for i := len(l) - 1; i >= 0; i-- {
		x := l[i]
		before, _, _, _ := wantApply(p, c, l[:i])
		current := func(id int) int {
			if n, ok := anew[[2]int{x.Table, id}]; ok {
				return n
			}
			return id
		}
		entry := func() api.Entry {
			at := slices.IndexFunc(before.Rows[x.Table], func(r api.Row) bool { return r.ID == x.ID })
			return before.Rows[x.Table][at].Entry
		}
		switch x.Kind {
		case api.OpInsert:
			inverse = append(inverse, remove(x.Table, current(ids[i])))
		case api.OpModify:
			inverse = append(inverse, modify(x.Table, current(x.ID), entry().Call))
		case api.OpDelete:
			inverse = append(inverse, insert(x.Table, entry()))
			anew[[2]int{x.Table, x.ID}] = next[x.Table]
			next[x.Table]++
		case api.OpSetDefault:
			inverse = append(inverse, setDefault(x.Table, before.Defaults[x.Table]))
		}
	}
	if back, _, _, e := wantApply(p, d, inverse); e != api.OK || !txn.Equivalent(back, c) {
		return nil, api.ErrOrder
	}
	return inverse, api.OK
}

// expectInverse expects that Inverse answers what the promise says, and that it undoes the operations.
func expectInverse(t *testing.T, what string, p api.Program, c api.Config, l []api.TableOp) api.Errno {
	t.Helper()
	before := text(p, c, l)
	inverse, e := txn.Inverse(p, c, l)
	if want, wantE := wantInverse(p, c, l); !same(inverse, want) || e != wantE {
		t.Errorf("%s: Inverse of %+v: %+v, %v, want %+v, %v", what, l, inverse, e, want, wantE)
	}
	if text(p, c, l) != before {
		t.Errorf("%s: Inverse changes its arguments", what)
	}
	expectApart(t, what+": Inverse", inverse, p, c, l)
	if e == api.OK {
		d, _, _, _ := txn.Apply(p, c, l)
		if back, _, _, e := txn.Apply(p, d, inverse); e != api.OK || !txn.Equivalent(back, c) {
			t.Errorf("%s: the inverse of %+v leads to %+v, %v", what, l, back, e)
		}
	}
	return e
}

// expectInverseIs expects an inverse operation by operation.
func expectInverseIs(t *testing.T, what string, l []api.TableOp, want ...api.TableOp) {
	t.Helper()
	expectInverse(t, what, sample(), filled(), l)
	if got, e := txn.Inverse(sample(), filled(), l); e != api.OK || !same(got, want) {
		t.Errorf("%s: Inverse: %+v, %v, want %+v", what, got, e, want)
	}
}

// P27.4: operations of each kind, alone and with others on the same row
func TestInverse(t *testing.T) {
	c := filled()
	fresh, last := entryOf(0, call(1, 5), match(1, 15), match(1, 7)), c.Rows[exactly][2].Entry
	changed := last
	changed.Call = call(0)
	expectInverseIs(t, "nothing", nil)
	expectInverseIs(t, "an insertion", ops(insert(exactly, fresh)), remove(exactly, 10))
	expectInverseIs(t, "a call", ops(modify(exactly, 1, call(0))), modify(exactly, 1, call(1, 9)))
	expectInverseIs(t, "the same call", ops(modify(exactly, 1, call(1, 9))), modify(exactly, 1, call(1, 9)))
	expectInverseIs(t, "a deletion", ops(remove(exactly, 9)), insert(exactly, last))
	expectInverseIs(t, "a default", ops(setDefault(exactly, call(0))), setDefault(exactly, call(1, 255)))
	expectInverseIs(t, "two defaults", ops(setDefault(exactly, call(0)), setDefault(exactly, call(1, 3))), setDefault(exactly, call(0)), setDefault(exactly, call(1, 255)))
	expectInverseIs(t, "two calls", ops(modify(exactly, 9, call(0)), modify(exactly, 9, call(1, 2))), modify(exactly, 9, call(0)), modify(exactly, 9, call(1, 255)))
	expectInverseIs(t, "an insertion and a deletion", ops(insert(exactly, fresh), remove(exactly, 10)), insert(exactly, fresh), remove(exactly, 11))
	expectInverseIs(t, "an insertion and a call", ops(insert(exactly, fresh), modify(exactly, 10, call(0))), modify(exactly, 10, call(1, 5)), remove(exactly, 10))
	expectInverseIs(t, "a call and a deletion", ops(modify(exactly, 9, call(0)), remove(exactly, 9)), insert(exactly, changed), modify(exactly, 10, call(1, 255)))
	expectInverseIs(t, "the same ID in two tables",
		ops(modify(exactly, 9, call(0)), remove(exactly, 9), insert(byPattern, entryOf(0, call(0), match(0, 0), match(0, 0))), remove(byPattern, 80)),
		insert(byPattern, entryOf(0, call(0), match(0, 0), match(0, 0))), remove(byPattern, 81), insert(exactly, changed), modify(exactly, 10, call(1, 255)))
	expectInverseIs(t, "a row for another", ops(remove(keyless, 4), insert(keyless, entryOf(0, call(0)))), remove(keyless, 5), insert(keyless, c.Rows[keyless][0].Entry))
	expectInverseIs(t, "all of it twice",
		ops(insert(exactly, fresh), modify(exactly, 10, call(0)), remove(exactly, 10), insert(exactly, fresh), modify(exactly, 11, call(0)), remove(exactly, 11)),
		insert(exactly, entryOf(0, call(0), fresh.Keys...)), modify(exactly, 12, call(1, 5)), remove(exactly, 12),
		insert(exactly, entryOf(0, call(0), fresh.Keys...)), modify(exactly, 13, call(1, 5)), remove(exactly, 13))
}

// P27.4: rows deleted from the last one on come back in their order; others don't (the chapter's example 2).
func TestInverseOrder(t *testing.T) {
	p, c := sample(), filled()
	for _, x := range []struct {
		l    []api.TableOp
		want api.Errno
	}{
		{ops(remove(byPattern, 5)), api.ErrOrder},
		{ops(remove(byPattern, 70)), api.OK},
		{ops(remove(byPattern, 70), remove(byPattern, 5)), api.OK},
		{ops(remove(byPattern, 5), remove(byPattern, 70)), api.ErrOrder},
		{ops(remove(exactly, 9), remove(exactly, 2), remove(exactly, 1)), api.OK},
		{ops(remove(exactly, 9), remove(exactly, 1), remove(exactly, 2)), api.ErrOrder},
		{ops(remove(exactly, 9), remove(exactly, 1)), api.ErrOrder},
		{ops(remove(exactly, 2), remove(byPattern, 70)), api.ErrOrder},
		{ops(remove(exactly, 9), remove(byPattern, 70), remove(exactly, 2), remove(keyless, 4), remove(byPattern, 5)), api.OK},
		{ops(remove(exactly, 9), insert(exactly, entryOf(0, call(1, 5), match(1, 15), match(1, 7)))), api.OK},
		// The row that the inverse inserts stands behind another one, which the inverse then deletes.
		{ops(insert(exactly, entryOf(0, call(1, 5), match(1, 15), match(1, 7))), remove(exactly, 9)), api.OK},
		{ops(insert(exactly, entryOf(0, call(1, 5), match(1, 15), match(1, 7))), remove(exactly, 2)), api.ErrOrder},
	} {
		if e := expectInverse(t, "deletions", p, c, x.l); e != x.want {
			t.Errorf("Inverse of %+v: %v, want %v", x.l, e, x.want)
		}
	}
	// The first row goes to the end and away; the inverse can bring it back to the end only.
	first := c.Rows[byPattern][0].Entry
	if e := expectInverse(t, "a row moved", p, c, ops(remove(byPattern, 5), insert(byPattern, first), remove(byPattern, 80))); e != api.ErrOrder {
		t.Errorf("a row moved: %v", e)
	}
	// The operations lead back to the rows as they were, and their inverse leads away from them.
	second := c.Rows[byPattern][1].Entry
	if e := expectInverse(t, "rows turned twice", p, c, ops(remove(byPattern, 5), insert(byPattern, first), remove(byPattern, 70), insert(byPattern, second))); e != api.ErrOrder {
		t.Errorf("rows turned twice: %v", e)
	}
}

// P27.4: a table that has no ID left for the row that the inverse inserts again
func TestInverseWithoutID(t *testing.T) {
	p := sample()
	for _, x := range []struct {
		next int
		l    []api.TableOp
		want api.Errno
	}{
		{noID, ops(remove(exactly, 9)), api.ErrOrder},
		{noID, ops(modify(exactly, 9, call(0))), api.OK},
		{noID, ops(remove(byPattern, 70)), api.OK},
		{noID - 1, ops(remove(exactly, 9)), api.OK},
		{noID - 1, ops(remove(exactly, 9), remove(exactly, 2)), api.ErrOrder},
		{noID - 1, ops(insert(exactly, entryOf(0, call(0), match(1, 15), match(1, 7)))), api.OK},
		{noID - 1, ops(insert(exactly, entryOf(0, call(0), match(1, 15), match(1, 7))), remove(exactly, noID-1)), api.ErrOrder},
		{noID - 2, ops(insert(exactly, entryOf(0, call(0), match(1, 15), match(1, 7))), remove(exactly, noID-2)), api.OK},
	} {
		c := filled()
		c.NextID[exactly] = x.next
		if e := expectInverse(t, "few IDs", p, c, x.l); e != x.want {
			t.Errorf("Inverse of %+v with NextID %d: %v, want %v", x.l, x.next, e, x.want)
		}
	}
}

// P27.4: the errors of Apply
func TestInverseErrors(t *testing.T) {
	p, c := sample(), filled()
	for _, x := range faults() {
		for _, l := range [][]api.TableOp{nil, ops(remove(exactly, 1)), make([]api.TableOp, api.MaxOps+1)} {
			if e := expectInverse(t, "a fault", x.program, x.config, l); e != store.Check(x.program, x.config) {
				t.Errorf("a fault: %v", e)
			}
		}
	}
	for what, x := range badOps() {
		for _, l := range [][]api.TableOp{ops(x.op), ops(remove(exactly, 9), x.op), ops(x.op, remove(exactly, 9)), ops(remove(byPattern, 5), x.op)} {
			if e := expectInverse(t, what, p, c, l); e == api.OK {
				t.Errorf("%s: %v", what, e)
			}
		}
		if e := expectInverse(t, what, p, c, ops(x.op)); e != x.code {
			t.Errorf("%s: %v, want %v", what, e, x.code)
		}
	}
	l := slices.Repeat(ops(setDefault(keyless, call(0)), modify(exactly, 2, call(1, 1))), api.MaxOps/2)
	if e := expectInverse(t, "as many operations as may be", p, c, l); e != api.OK {
		t.Errorf("%d operations: %v", len(l), e)
	}
	if e := expectInverse(t, "too many operations", p, c, append(l, l[0])); e != api.ErrLimit {
		t.Errorf("%d operations: %v", len(l)+1, e)
	}
}

// P27.4, rule 4: an inverse holds nothing of what it was made of.
func TestInverseMemory(t *testing.T) {
	p, c := sample(), filled()
	l := ops(
		insert(byPattern, entryOf(7, call(1, 5), match(1, 3), match(0, 0))), modify(byPattern, 80, call(1, 6)), modify(byPattern, 80, call(1, 7)), remove(byPattern, 80),
		setDefault(keyless, call(1, 8)), setDefault(keyless, call(1, 9)), modify(exactly, 9, call(1, 10)), remove(exactly, 9),
	)
	inverse, e := txn.Inverse(p, c, l)
	if e != api.OK {
		t.Fatalf("Inverse: %v", e)
	}
	want := copied(inverse)
	for i := range l {
		for _, args := range [][]uint32{l[i].Call.Args, l[i].Entry.Call.Args} {
			if len(args) > 0 {
				args[0] = 99
			}
		}
	}
	l[0].Entry.Keys[0], c.Rows[exactly][2].Entry.Keys[0], c.Rows[exactly][2].Entry.Call.Args[0], c.Defaults[keyless].Args[0] = match(0, 0), match(0, 0), 99, 99
	if !same(inverse, want) {
		t.Errorf("the inverse holds its arguments: %+v, want %+v", inverse, want)
	}
	for i := range inverse {
		before := copied(inverse)
		if len(inverse[i].Call.Args) > 0 {
			inverse[i].Call.Args[0] = 77
			before[i].Call.Args[0] = 77
		}
		if len(inverse[i].Entry.Call.Args) > 0 {
			inverse[i].Entry.Call.Args[0], inverse[i].Entry.Keys[0].Value = 78, 79
			before[i].Entry.Call.Args[0], before[i].Entry.Keys[0].Value = 78, 79
		}
		if !same(inverse, before) {
			t.Errorf("operation %d of the inverse shares memory with another one", i)
		}
	}
}
