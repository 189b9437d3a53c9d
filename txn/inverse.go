package txn

import (
	"slices"

	"patchbay/api"
	"patchbay/store"
)

// rowName tells a row from all other rows of a store, also from those that were deleted or are yet to be inserted.
type rowName struct{ table, id int }

// contents is what operations change of a store.
type contents struct {
	entries  map[rowName]api.Entry
	defaults []api.ActionCall
}

func newContents(c api.Config) contents {
	x := contents{map[rowName]api.Entry{}, c.Defaults}
	for t, rows := range c.Rows {
		for _, r := range rows {
			x.entries[rowName{t, r.ID}] = r.Entry
		}
	}
	return x
}

func cloneOp(x api.TableOp) api.TableOp {
	x.Entry.Keys = slices.Clone(x.Entry.Keys)
	x.Entry.Call.Args = slices.Clone(x.Entry.Call.Args)
	x.Call.Args = slices.Clone(x.Call.Args)
	return x
}

// follow does what an operation has done to the store, where inserted is the ID that the store gave to the row of an
// OpInsert. It answers the operation that undoes it; an OpInsert has the ID of the row that was deleted. What leaves the
// contents goes into the answer, so that no two answers share memory.
func (c contents) follow(x api.TableOp, inserted int) api.TableOp {
	x = cloneOp(x)
	row := rowName{x.Table, x.ID}
	before := c.entries[row]
	switch x.Kind {
	case api.OpInsert:
		c.entries[rowName{x.Table, inserted}] = x.Entry
		return api.TableOp{Kind: api.OpDelete, Table: x.Table, ID: inserted}
	case api.OpModify:
		c.entries[row] = api.Entry{Keys: before.Keys, Priority: before.Priority, Call: x.Call}
		return api.TableOp{Kind: api.OpModify, Table: x.Table, ID: x.ID, Call: before.Call}
	case api.OpDelete:
		delete(c.entries, row)
		return api.TableOp{Kind: api.OpInsert, Table: x.Table, ID: x.ID, Entry: before}
	}
	call := c.defaults[x.Table]
	c.defaults[x.Table] = x.Call
	return api.TableOp{Kind: api.OpSetDefault, Table: x.Table, Call: call}
}

// undoing executes the operations, and answers those that undo them, as follow does, the last one first.
func undoing(s *store.Store, l []api.TableOp) ([]api.TableOp, api.Errno) {
	c := newContents(s.Config())
	ids, _, e := execute(s, l)
	if e != api.OK {
		return nil, e
	}
	var undo []api.TableOp
	for i, x := range l {
		undo = append(undo, c.follow(x, ids[i]))
	}
	slices.Reverse(undo)
	return undo, api.OK
}

// takeBack executes the operations of undoing, and gives each one the ID that its row has by then. It answers false if
// one fails.
func takeBack(s *store.Store, undo []api.TableOp) bool {
	again := map[rowName]int{}
	for i, x := range undo {
		row := rowName{x.Table, x.ID}
		if id, found := again[row]; found {
			x.ID = id
		}
		id, e := executeOne(s, x)
		if e != api.OK {
			return false
		}
		if x.Kind == api.OpInsert {
			again[row], x.ID = id, 0
		}
		undo[i] = x
	}
	return true
}

// Inverse is specified by P27.4.
func Inverse(p api.Program, c api.Config, l []api.TableOp) ([]api.TableOp, api.Errno) {
	s, e := store.Load(p, c)
	if e != api.OK {
		return nil, e
	}
	undo, e := undoing(s, l)
	if e != api.OK {
		return nil, e
	}
	if !takeBack(s, undo) || !Equivalent(s.Config(), c) {
		return nil, api.ErrOrder
	}
	return undo, api.OK
}
