package program

import (
	"slices"
	"strings"

	"patchbay/api"
)

// cloneAll answers a new list of the clones of the elements.
func cloneAll[T any](l []T, clone func(T) T) []T {
	c := make([]T, len(l))
	for i, x := range l {
		c[i] = clone(x)
	}
	return c
}

// cloneName copies the bytes too: a name may be a piece of a long text, all of which it would keep.
func cloneName(name string) string { return strings.Clone(name) }

func cloneField(f api.Field) api.Field {
	f.Name = cloneName(f.Name)
	return f
}

func cloneHeader(h api.Header) api.Header {
	h.Name, h.Fields = cloneName(h.Name), cloneAll(h.Fields, cloneField)
	return h
}

func cloneRegister(r api.Register) api.Register {
	r.Name = cloneName(r.Name)
	return r
}

func cloneStatement(s api.Statement) api.Statement {
	s.Index, s.Value = slices.Clone(s.Index), slices.Clone(s.Value)
	return s
}

func cloneAction(a api.Action) api.Action {
	a.Name, a.Params, a.Body = cloneName(a.Name), cloneAll(a.Params, cloneField), cloneAll(a.Body, cloneStatement)
	return a
}

func cloneTable(t api.Table) api.Table {
	t.Name, t.Keys, t.Actions = cloneName(t.Name), slices.Clone(t.Keys), slices.Clone(t.Actions)
	t.Default.Args = slices.Clone(t.Default.Args)
	return t
}

func cloneState(s api.ParserState) api.ParserState {
	s.Name, s.Extract, s.Cases = cloneName(s.Name), slices.Clone(s.Extract), slices.Clone(s.Cases)
	return s
}

func cloneNode(n api.ControlNode) api.ControlNode {
	n.Cond, n.Then, n.Else = slices.Clone(n.Cond), cloneAll(n.Then, cloneNode), cloneAll(n.Else, cloneNode)
	return n
}

// Clone is specified by P21.2.
func Clone(p api.Program) api.Program {
	return api.Program{
		Name:      cloneName(p.Name),
		Headers:   cloneAll(p.Headers, cloneHeader),
		Metadata:  cloneAll(p.Metadata, cloneField),
		Registers: cloneAll(p.Registers, cloneRegister),
		Actions:   cloneAll(p.Actions, cloneAction),
		Tables:    cloneAll(p.Tables, cloneTable),
		States:    cloneAll(p.States, cloneState),
		Control:   cloneAll(p.Control, cloneNode),
		Deparser:  slices.Clone(p.Deparser),
	}
}
