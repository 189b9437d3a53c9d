package store

import (
	"slices"

	"patchbay/api"
	"patchbay/entry"
	"patchbay/register"
)

// cloneAll answers a new list of the clones of the elements.
func cloneAll[T any](l []T, clone func(T) T) []T {
	c := slices.Clone(l)
	for i, x := range c {
		c[i] = clone(x)
	}
	return c
}

func cloneCall(c api.ActionCall) api.ActionCall {
	c.Args = slices.Clone(c.Args)
	return c
}

func cloneRow(r api.Row) api.Row {
	r.Entry.Keys, r.Entry.Call = slices.Clone(r.Entry.Keys), cloneCall(r.Entry.Call)
	return r
}

func cloneRows(l []api.Row) []api.Row { return cloneAll(l, cloneRow) }

func cloneCells(l []uint32) []uint32 { return slices.Clone(l) }

func cloneConfig(c api.Config) api.Config {
	return api.Config{
		Rows:      cloneAll(c.Rows, cloneRows),
		NextID:    slices.Clone(c.NextID),
		Defaults:  cloneAll(c.Defaults, cloneCall),
		Registers: cloneAll(c.Registers, cloneCells),
	}
}

// EmptyConfig is specified by P25.1.
func EmptyConfig(p api.Program) api.Config {
	c := api.Config{Rows: make([][]api.Row, len(p.Tables)), Registers: register.New(p)}
	for _, t := range p.Tables {
		c.NextID = append(c.NextID, firstID)
		c.Defaults = append(c.Defaults, cloneCall(t.Default))
	}
	return c
}

func sameRow(a, b api.Row) bool { return a.ID == b.ID && entry.Equal(a.Entry, b.Entry) }

func sameRows(a, b []api.Row) bool { return slices.EqualFunc(a, b, sameRow) }

func sameCall(a, b api.ActionCall) bool {
	return a.Action == b.Action && slices.Equal(a.Args, b.Args)
}

// Equal is specified by P25.7.
func Equal(a, b api.Config) bool {
	return slices.EqualFunc(a.Rows, b.Rows, sameRows) && slices.Equal(a.NextID, b.NextID) &&
		slices.EqualFunc(a.Defaults, b.Defaults, sameCall) && register.Equal(a.Registers, b.Registers)
}
