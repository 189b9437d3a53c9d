package store

import (
	"slices"

	"patchbay/action"
	"patchbay/api"
	"patchbay/entry"
	"patchbay/program"
	"patchbay/register"
	"patchbay/table"
)

// The first ID of a table's rows, and the NextID with which a table has no ID left.
const (
	firstID    = 1
	lastNextID = 1 << 30
)

// hasKeyOf tells whether one of the rows has the key of x.
func hasKeyOf(l []api.Row, x api.Entry) bool {
	return slices.ContainsFunc(l, func(r api.Row) bool { return entry.SameKey(r.Entry, x) })
}

// idsAscend tells whether the IDs of rows ascend from firstID on, and next comes behind them.
func idsAscend(l []api.Row, next int) bool {
	last := firstID - 1
	for _, r := range l {
		if r.ID <= last {
			return false
		}
		last = r.ID
	}
	return last < next && next <= lastNextID
}

func checkRows(p api.Program, t int, l []api.Row) api.Errno {
	for i, r := range l {
		if e := entry.Check(p, t, r.Entry); e != api.OK {
			return e
		}
		if hasKeyOf(l[:i], r.Entry) {
			return api.ErrDuplicate
		}
	}
	return api.OK
}

// checkCall checks a call for a row of table t or as its default action.
func checkCall(p api.Program, t int, c api.ActionCall) api.Errno {
	if !table.Allows(p, t, c.Action) {
		return api.ErrNotFound
	}
	return action.CheckCall(p, c)
}

// checkTable checks what a configuration, of the shape of p, has for table t.
func checkTable(p api.Program, c api.Config, t int) api.Errno {
	switch {
	case len(c.Rows[t]) > p.Tables[t].Size:
		return api.ErrLimit
	case !idsAscend(c.Rows[t], c.NextID[t]):
		return api.ErrOrder
	}
	if e := checkRows(p, t, c.Rows[t]); e != api.OK {
		return e
	}
	return checkCall(p, t, c.Defaults[t])
}

// Check is specified by P25.2.
func Check(p api.Program, c api.Config) api.Errno {
	if e := program.Check(p).Code; e != api.OK {
		return e
	}
	n := len(p.Tables)
	if len(c.Rows) != n || len(c.NextID) != n || len(c.Defaults) != n {
		return api.ErrArg
	}
	for t := range n {
		if e := checkTable(p, c, t); e != api.OK {
			return e
		}
	}
	return register.CheckContents(p, c.Registers)
}
