package program

import (
	"slices"

	"patchbay/api"
)

func sameHeader(a, b api.Header) bool {
	return a.Name == b.Name && slices.Equal(a.Fields, b.Fields)
}

func sameStatement(a, b api.Statement) bool {
	return a.Kind == b.Kind && a.Dst == b.Dst && a.Register == b.Register && a.Header == b.Header &&
		slices.Equal(a.Index, b.Index) && slices.Equal(a.Value, b.Value)
}

func sameAction(a, b api.Action) bool {
	return a.Name == b.Name && slices.Equal(a.Params, b.Params) && slices.EqualFunc(a.Body, b.Body, sameStatement)
}

func sameCall(a, b api.ActionCall) bool {
	return a.Action == b.Action && slices.Equal(a.Args, b.Args)
}

func sameTable(a, b api.Table) bool {
	return a.Name == b.Name && slices.Equal(a.Keys, b.Keys) && slices.Equal(a.Actions, b.Actions) &&
		sameCall(a.Default, b.Default) && a.Size == b.Size
}

func sameState(a, b api.ParserState) bool {
	return a.Name == b.Name && slices.Equal(a.Extract, b.Extract) && a.Select == b.Select && a.On == b.On &&
		slices.Equal(a.Cases, b.Cases) && a.Default == b.Default
}

func sameNode(a, b api.ControlNode) bool {
	return a.Kind == b.Kind && a.Table == b.Table && slices.Equal(a.Cond, b.Cond) &&
		sameNodes(a.Then, b.Then) && sameNodes(a.Else, b.Else)
}

func sameNodes(a, b []api.ControlNode) bool { return slices.EqualFunc(a, b, sameNode) }

// Equal is specified by P21.2.
func Equal(a, b api.Program) bool {
	return a.Name == b.Name &&
		slices.EqualFunc(a.Headers, b.Headers, sameHeader) &&
		slices.Equal(a.Metadata, b.Metadata) &&
		slices.Equal(a.Registers, b.Registers) &&
		slices.EqualFunc(a.Actions, b.Actions, sameAction) &&
		slices.EqualFunc(a.Tables, b.Tables, sameTable) &&
		slices.EqualFunc(a.States, b.States, sameState) &&
		sameNodes(a.Control, b.Control) &&
		slices.Equal(a.Deparser, b.Deparser)
}
