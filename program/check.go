package program

import (
	"slices"

	"patchbay/action"
	"patchbay/api"
	"patchbay/control"
	"patchbay/deparser"
	"patchbay/env"
	"patchbay/header"
	"patchbay/lexer"
	"patchbay/parser"
	"patchbay/register"
	"patchbay/table"
)

// metaName stands for the metadata in texts, so no header may have it.
const metaName = "meta"

// predefined is the metadata fields that every program declares first.
var predefined = [...]api.Field{
	api.MetaIn:   {Name: "in", Width: 8},
	api.MetaOut:  {Name: "out", Width: 8},
	api.MetaDrop: {Name: "drop", Width: 1},
}

// fault is what the first error of a program is raised as.
type fault api.Diagnostic

func raise(code api.Errno, part, item, sub int) {
	if code != api.OK {
		panic(fault{Code: code, Part: part, Item: item, Sub: sub})
	}
}

// require raises an error unless what it is required for holds.
func require(holds bool, code api.Errno, part, item int) {
	if !holds {
		raise(code, part, item, 0)
	}
}

// requireNewName holds the name of an element against those ahead of it.
func requireNewName(p api.Program, part, item int) {
	l := names(p, part)
	require(!slices.Contains(l[:item], l[item]), api.ErrDuplicate, part, item)
}

func checkWhole(p api.Program) {
	require(lexer.IsIdentifier(p.Name), api.ErrName, PartProgram, 0)
	require(len(p.Headers) <= api.MaxHeaders, api.ErrLimit, PartProgram, PartHeader)
	require(len(p.Registers) <= api.MaxRegisters, api.ErrLimit, PartProgram, PartRegister)
	require(len(p.Actions) <= api.MaxActions, api.ErrLimit, PartProgram, PartAction)
	require(len(p.Tables) <= api.MaxTables, api.ErrLimit, PartProgram, PartTable)
}

func checkHeaders(p api.Program) {
	for i, h := range p.Headers {
		raise(header.Check(h), PartHeader, i, 0)
		require(h.Name != metaName, api.ErrName, PartHeader, i)
		requireNewName(p, PartHeader, i)
	}
}

func checkMetadata(p api.Program) {
	require(len(p.Metadata) <= api.MaxFields, api.ErrLimit, PartMetadata, 0)
	for i, f := range p.Metadata {
		require(lexer.IsIdentifier(f.Name), api.ErrName, PartMetadata, i)
		require(env.Width(p, api.FieldRef{Header: api.Metadata, Field: i}) > 0, api.ErrWidth, PartMetadata, i)
		requireNewName(p, PartMetadata, i)
	}
	for i, f := range predefined {
		require(i < len(p.Metadata) && p.Metadata[i] == f, api.ErrSyntax, PartMetadata, i)
	}
}

func checkRegisters(p api.Program) {
	for i, r := range p.Registers {
		raise(register.Check(r), PartRegister, i, 0)
		requireNewName(p, PartRegister, i)
	}
}

func checkActions(p api.Program) {
	for i := range p.Actions {
		at, e := action.Check(p, i)
		raise(e, PartAction, i, at)
		requireNewName(p, PartAction, i)
	}
}

func checkTables(p api.Program) {
	for i := range p.Tables {
		at, e := table.Check(p, i)
		raise(e, PartTable, i, at)
		requireNewName(p, PartTable, i)
	}
}

func checkParser(p api.Program) {
	item, sub, e := parser.Check(p)
	raise(e, PartParser, item, sub)
}

func checkControl(p api.Program) {
	at, e := control.Check(p)
	raise(e, PartControl, at, 0)
}

func checkDeparser(p api.Program) {
	at, e := deparser.Check(p)
	raise(e, PartDeparser, at, 0)
}

// Check is specified by P21.1.
func Check(p api.Program) (d api.Diagnostic) {
	defer func() {
		raised := recover()
		if f, ok := raised.(fault); ok {
			d = api.Diagnostic(f)
		} else if raised != nil {
			panic(raised) // no error of p: it must not pass for a valid program
		}
	}()
	checkWhole(p)
	checkHeaders(p)
	checkMetadata(p)
	checkRegisters(p)
	checkActions(p)
	checkTables(p)
	checkParser(p)
	checkControl(p)
	checkDeparser(p)
	return api.Diagnostic{}
}
