package interp

import (
	"slices"

	"patchbay/api"
)

// cloneAll answers a new list of the clones of the elements.
func cloneAll[T any](l []T, clone func(T) T) []T {
	c := slices.Clone(l)
	for i, x := range c {
		c[i] = clone(x)
	}
	return c
}

func cloneCall(c api.ActionCall) api.ActionCall {
	c.Args = slices.Clone(c.Args)
	return c
}

func cloneRows(l []api.Row) []api.Row {
	return cloneAll(l, func(r api.Row) api.Row {
		r.Entry.Keys, r.Entry.Call = slices.Clone(r.Entry.Keys), cloneCall(r.Entry.Call)
		return r
	})
}

func cloneCells(l []uint32) []uint32 { return slices.Clone(l) }

// clone copies any configuration: one that store.Check rejects, and no store holds, is handed back as it is.
func clone(c api.Config) api.Config {
	return api.Config{
		Rows:      cloneAll(c.Rows, cloneRows),
		NextID:    slices.Clone(c.NextID),
		Defaults:  cloneAll(c.Defaults, cloneCall),
		Registers: cloneAll(c.Registers, cloneCells),
	}
}
