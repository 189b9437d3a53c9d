package program_test

import (
	"reflect"
	"slices"
	"strconv"
	"testing"

	"patchbay/action"
	"patchbay/api"
	"patchbay/control"
	"patchbay/deparser"
	"patchbay/header"
	"patchbay/lexer"
	"patchbay/parser"
	"patchbay/program"
	"patchbay/register"
	"patchbay/table"
)

func expectCheck(t *testing.T, what string, p api.Program, want api.Diagnostic) {
	t.Helper()
	if d := program.Check(p); d != want {
		t.Errorf("%s: Check = %v, want %v", what, d, want)
	}
}

func expectUnchanged(t *testing.T, p api.Program) {
	t.Helper()
	before := text(p)
	first := program.Check(p)
	if program.Check(p) != first || text(p) != before {
		t.Error("Check changes something")
	}
}

func diagnostic(code api.Errno, part, item, sub int) api.Diagnostic {
	return api.Diagnostic{Code: code, Part: part, Item: item, Sub: sub}
}

// Examples of the chapter
func TestExamples(t *testing.T) {
	expectCheck(t, "zero program", api.Program{}, diagnostic(api.ErrName, program.PartProgram, 0, 0))
	p := api.Program{Name: "p", Metadata: goodMetadata()}
	p.Metadata[2].Width = 2
	expectCheck(t, "drop of 2 bits", p, diagnostic(api.ErrSyntax, program.PartMetadata, 2, 0))
	p.Metadata[2].Width = 1
	expectCheck(t, "no states", p, diagnostic(api.ErrNotFound, program.PartParser, -1, -1))
	p.States = []api.ParserState{{Name: "s", Default: api.Accept}}
	expectCheck(t, "the least program", p, api.Diagnostic{})
}

// P21.1: valid programs
func TestCheckValid(t *testing.T) {
	expectCheck(t, "sample", sample(), api.Diagnostic{})
	expectCheck(t, "greatest", greatest(), api.Diagnostic{})
	expectUnchanged(t, sample())
	expectUnchanged(t, full())
	p := sample()
	p.Metadata = append(p.Metadata[:4], api.Field{Name: "meta", Width: 32}) // only a header may not have this name
	p.Registers[0].Name, p.Actions[0].Name, p.Tables[0].Name, p.States[0].Name, p.Name = "meta", "meta", "meta", "meta", "meta"
	p.Headers[0].Fields[0].Name, p.Actions[1].Params[0].Name = "meta", "meta"
	expectCheck(t, "named meta", p, api.Diagnostic{})
}

// greatest answers a valid program with as many elements as each list may have.
func greatest() api.Program {
	p := api.Program{Name: longName, Metadata: goodMetadata()}
	for i := range api.MaxHeaders {
		p.Headers = append(p.Headers, api.Header{Name: "h" + strconv.Itoa(i), Fields: []api.Field{{Name: "f", Width: 8}}})
		p.Deparser = append(p.Deparser, i)
	}
	for i := len(p.Metadata); i < api.MaxFields; i++ {
		p.Metadata = append(p.Metadata, api.Field{Name: "m" + strconv.Itoa(i), Width: 32})
	}
	for i := range api.MaxRegisters {
		p.Registers = append(p.Registers, api.Register{Name: "r" + strconv.Itoa(i), Width: 32, Size: api.MaxRegSize})
	}
	for i := range api.MaxActions {
		p.Actions = append(p.Actions, api.Action{Name: "a" + strconv.Itoa(i)})
	}
	for i := range api.MaxTables {
		p.Tables = append(p.Tables, api.Table{Name: "t" + strconv.Itoa(i), Actions: []int{i}, Default: api.ActionCall{Action: i}, Size: api.MaxRows})
		p.Control = append(p.Control, api.ControlNode{Kind: api.ControlIf, Cond: constant(1, 1), Then: []api.ControlNode{{Kind: api.ControlApply, Table: i}}})
	}
	for i := range api.MaxStates {
		p.States = append(p.States, api.ParserState{Name: "s" + strconv.Itoa(i), Default: api.Accept})
	}
	return p
}

// P21.1: one element more than a list may have
func TestCheckLimits(t *testing.T) {
	for what, x := range map[string]struct {
		change func(p *api.Program)
		want   api.Diagnostic
	}{
		"headers":   {func(p *api.Program) { p.Headers = append(p.Headers, api.Header{}) }, diagnostic(api.ErrLimit, program.PartProgram, program.PartHeader, 0)},
		"metadata":  {func(p *api.Program) { p.Metadata = append(p.Metadata, api.Field{}) }, diagnostic(api.ErrLimit, program.PartMetadata, 0, 0)},
		"registers": {func(p *api.Program) { p.Registers = append(p.Registers, api.Register{}) }, diagnostic(api.ErrLimit, program.PartProgram, program.PartRegister, 0)},
		"actions":   {func(p *api.Program) { p.Actions = append(p.Actions, api.Action{}) }, diagnostic(api.ErrLimit, program.PartProgram, program.PartAction, 0)},
		"tables":    {func(p *api.Program) { p.Tables = append(p.Tables, api.Table{}) }, diagnostic(api.ErrLimit, program.PartProgram, program.PartTable, 0)},
		"states":    {func(p *api.Program) { p.States = append(p.States, api.ParserState{}) }, diagnostic(api.ErrLimit, program.PartParser, -1, -1)},
		"control":   {func(p *api.Program) { p.Control = append(p.Control, api.ControlNode{}) }, diagnostic(api.ErrLimit, program.PartControl, -1, 0)},
		"deparser":  {func(p *api.Program) { p.Deparser = append(p.Deparser, 0) }, diagnostic(api.ErrLimit, program.PartDeparser, -1, 0)},
	} {
		p := greatest()
		x.change(&p)
		expectCheck(t, what, p, x.want)
	}
}

// P21.1: lists far longer than any limit
func TestCheckLong(t *testing.T) {
	const n = 1 << 20
	p := sample()
	p.Headers = make([]api.Header, n)
	expectCheck(t, "headers", p, diagnostic(api.ErrLimit, program.PartProgram, program.PartHeader, 0))
	p = sample()
	p.Headers[0].Fields = make([]api.Field, n)
	expectCheck(t, "fields", p, diagnostic(api.ErrLimit, program.PartHeader, 0, 0))
	p = sample()
	p.Metadata = slices.Repeat(p.Metadata, n/8)
	expectCheck(t, "metadata", p, diagnostic(api.ErrLimit, program.PartMetadata, 0, 0))
	p = sample()
	p.Actions[1].Body[0].Value = make([]api.ExprNode, n)
	expectCheck(t, "expression", p, diagnostic(api.ErrLimit, program.PartAction, 1, 0))
	p = sample()
	p.Tables[2].Actions = make([]int, n)
	expectCheck(t, "actions of a table", p, diagnostic(api.ErrLimit, program.PartTable, 2, -1))
	p = sample()
	shared := []api.ControlNode{{}}
	for range 60 {
		shared = []api.ControlNode{{Then: shared, Else: shared}}
	}
	p.Control = shared
	expectCheck(t, "shared branches", p, diagnostic(api.ErrLimit, program.PartControl, -1, 0))
}

// flaw is a change that makes the sample invalid, and what Check answers then.
type flaw struct {
	what   string
	change func(p *api.Program)
	want   api.Diagnostic
}

func wholeFlaws() []flaw {
	d := func(code api.Errno, item int) api.Diagnostic { return diagnostic(code, program.PartProgram, item, 0) }
	return []flaw{
		{"program's name", func(p *api.Program) { p.Name = "9" }, d(api.ErrName, 0)},
		{"headers", func(p *api.Program) { p.Headers = append(p.Headers, make([]api.Header, 6)...) }, d(api.ErrLimit, program.PartHeader)},
		{"registers", func(p *api.Program) { p.Registers = append(p.Registers, make([]api.Register, 3)...) }, d(api.ErrLimit, program.PartRegister)},
		{"actions", func(p *api.Program) { p.Actions = append(p.Actions, make([]api.Action, 14)...) }, d(api.ErrLimit, program.PartAction)},
		{"tables", func(p *api.Program) { p.Tables = append(p.Tables, make([]api.Table, 10)...) }, d(api.ErrLimit, program.PartTable)},
	}
}

func headerFlaws() []flaw {
	d := func(code api.Errno, item int) api.Diagnostic {
		return diagnostic(code, program.PartHeader, item, 0)
	}
	fields := func(n int) []api.Field {
		var l []api.Field
		for i := range n {
			l = append(l, api.Field{Name: "x" + strconv.Itoa(i), Width: 8})
		}
		return l
	}
	return []flaw{
		{"header 0's name", func(p *api.Program) { p.Headers[0].Name = "" }, d(api.ErrName, 0)},
		{"header 0's fields", func(p *api.Program) { p.Headers[0].Fields = fields(13) }, d(api.ErrLimit, 0)},
		{"header 0 named meta", func(p *api.Program) { p.Headers[0].Name = "meta" }, d(api.ErrName, 0)},
		{"header 1's name", func(p *api.Program) { p.Headers[1].Name = "a b" }, d(api.ErrName, 1)},
		{"header 1 without fields", func(p *api.Program) { p.Headers[1].Fields = nil }, d(api.ErrNotFound, 1)},
		{"header 1's field's name", func(p *api.Program) { p.Headers[1].Fields = append(fields(1), api.Field{Width: 99}) }, d(api.ErrName, 1)},
		{"header 1's field's width", func(p *api.Program) { p.Headers[1].Fields = append(fields(1), api.Field{Name: "x0", Width: 33}) }, d(api.ErrWidth, 1)},
		{"header 1's fields", func(p *api.Program) { p.Headers[1].Fields = append(fields(1), fields(1)...) }, d(api.ErrDuplicate, 1)},
		{"header 1's bits", func(p *api.Program) { p.Headers[1].Fields = append(fields(1), api.Field{Name: "y", Width: 1}) }, d(api.ErrWidth, 1)},
		{"header 1 named meta", func(p *api.Program) { p.Headers[1].Name = "meta" }, d(api.ErrName, 1)},
		{"header 1's name twice", func(p *api.Program) { p.Headers[1].Name = p.Headers[0].Name }, d(api.ErrDuplicate, 1)},
		{"header 2's bits", func(p *api.Program) { p.Headers[2].Fields[0].Width = 9 }, d(api.ErrWidth, 2)},
		{"header 2's name twice", func(p *api.Program) { p.Headers[2].Name = p.Headers[0].Name }, d(api.ErrDuplicate, 2)},
	}
}

func metadataFlaws() []flaw {
	d := func(code api.Errno, item int) api.Diagnostic {
		return diagnostic(code, program.PartMetadata, item, 0)
	}
	l := []flaw{
		{"metadata", func(p *api.Program) { p.Metadata = append(p.Metadata[:5], make([]api.Field, 8)...) }, d(api.ErrLimit, 0)},
		{"metadata 0's name", func(p *api.Program) { p.Metadata[0].Name = "a-" }, d(api.ErrName, 0)},
		{"metadata 0's width", func(p *api.Program) { p.Metadata[0].Width = 0 }, d(api.ErrWidth, 0)},
		{"metadata 1's name", func(p *api.Program) { p.Metadata[1].Name = "" }, d(api.ErrName, 1)},
		{"metadata 1's width", func(p *api.Program) { p.Metadata[1].Width = 33 }, d(api.ErrWidth, 1)},
		{"metadata 1's name twice", func(p *api.Program) { p.Metadata[1].Name = p.Metadata[0].Name }, d(api.ErrDuplicate, 1)},
		{"metadata 3's name", func(p *api.Program) { p.Metadata[3].Name = "9" }, d(api.ErrName, 3)},
		{"metadata 3's width", func(p *api.Program) { p.Metadata[3].Width = -1 }, d(api.ErrWidth, 3)},
		{"metadata 3's name twice", func(p *api.Program) { p.Metadata[3].Name = p.Metadata[2].Name }, d(api.ErrDuplicate, 3)},
		{"metadata 4's name twice", func(p *api.Program) { p.Metadata[4].Name = p.Metadata[3].Name }, d(api.ErrDuplicate, 4)},
	}
	for i, name := range []string{"in", "out", "drop"} {
		l = append(l,
			flaw{name + "'s name", func(p *api.Program) { p.Metadata[i].Name += "x" }, d(api.ErrSyntax, i)},
			flaw{name + "'s width", func(p *api.Program) { p.Metadata[i].Width++ }, d(api.ErrSyntax, i)})
	}
	return l
}

func registerFlaws() []flaw {
	d := func(code api.Errno, item int) api.Diagnostic {
		return diagnostic(code, program.PartRegister, item, 0)
	}
	return []flaw{
		{"register 0's name", func(p *api.Program) { p.Registers[0].Name = "" }, d(api.ErrName, 0)},
		{"register 0's width", func(p *api.Program) { p.Registers[0].Width = 0 }, d(api.ErrWidth, 0)},
		{"register 0's size", func(p *api.Program) { p.Registers[0].Size = 65 }, d(api.ErrRange, 0)},
		{"register 1's name", func(p *api.Program) { p.Registers[1].Name = longName + "x" }, d(api.ErrName, 1)},
		{"register 1's width", func(p *api.Program) { p.Registers[1].Width = 33 }, d(api.ErrWidth, 1)},
		{"register 1's size", func(p *api.Program) { p.Registers[1].Size = 0 }, d(api.ErrRange, 1)},
		{"register 1's name twice", func(p *api.Program) { p.Registers[1].Name = p.Registers[0].Name }, d(api.ErrDuplicate, 1)},
	}
}

func actionFlaws() []flaw {
	d := func(code api.Errno, item, sub int) api.Diagnostic {
		return diagnostic(code, program.PartAction, item, sub)
	}
	return []flaw{
		{"action 0's name", func(p *api.Program) { p.Actions[0].Name = "" }, d(api.ErrName, 0, -1)},
		{"action 0's statement", func(p *api.Program) { p.Actions[0].Body = make([]api.Statement, 1) }, d(api.ErrKind, 0, 0)},
		{"action 1's name", func(p *api.Program) { p.Actions[1].Name = "a.b" }, d(api.ErrName, 1, -1)},
		{"action 1's body", func(p *api.Program) { p.Actions[1].Body = append(p.Actions[1].Body[:5], make([]api.Statement, 8)...) }, d(api.ErrLimit, 1, -1)},
		{"action 1's parameter", func(p *api.Program) { p.Actions[1].Params[1].Width = 33 }, d(api.ErrWidth, 1, -1)},
		{"action 1's statement 0", func(p *api.Program) { p.Actions[1].Body[0].Dst.Field = 1 }, d(api.ErrWidth, 1, 0)},
		{"action 1's statement 1", func(p *api.Program) { p.Actions[1].Body[1].Header = 3 }, d(api.ErrNotFound, 1, 1)},
		{"action 1's statement 3", func(p *api.Program) { p.Actions[1].Body[3].Register = 2 }, d(api.ErrNotFound, 1, 3)},
		{"action 1's statement 4", func(p *api.Program) { p.Actions[1].Body[4].Kind = 6 }, d(api.ErrKind, 1, 4)},
		{"action 1's name twice", func(p *api.Program) { p.Actions[1].Name = p.Actions[0].Name }, d(api.ErrDuplicate, 1, 0)},
		{"action 2's parameter", func(p *api.Program) { p.Actions[2].Params[0].Name = "9" }, d(api.ErrName, 2, -1)},
		{"action 2's name twice", func(p *api.Program) { p.Actions[2].Name = p.Actions[0].Name }, d(api.ErrDuplicate, 2, 0)},
	}
}

func tableFlaws() []flaw {
	d := func(code api.Errno, item, sub int) api.Diagnostic {
		return diagnostic(code, program.PartTable, item, sub)
	}
	return []flaw{
		{"table 0's name", func(p *api.Program) { p.Tables[0].Name = "" }, d(api.ErrName, 0, -1)},
		{"table 0's size", func(p *api.Program) { p.Tables[0].Size = 257 }, d(api.ErrRange, 0, -1)},
		{"table 0's key 0", func(p *api.Program) { p.Tables[0].Keys[0].Field.Field = 3 }, d(api.ErrNotFound, 0, 0)},
		{"table 0's key 2", func(p *api.Program) { p.Tables[0].Keys[2].Kind = 4 }, d(api.ErrKind, 0, 2)},
		{"table 0's keys", func(p *api.Program) { p.Tables[0].Keys[0].Kind = api.MatchLPM }, d(api.ErrDuplicate, 0, -2)},
		{"table 0's actions", func(p *api.Program) { p.Tables[0].Actions[1] = 1 }, d(api.ErrDuplicate, 0, -3)},
		{"table 0's default", func(p *api.Program) { p.Tables[0].Default.Args = p.Tables[0].Default.Args[:1] }, d(api.ErrArg, 0, -3)},
		{"table 1's size", func(p *api.Program) { p.Tables[1].Size = 0 }, d(api.ErrRange, 1, -1)},
		{"table 1's default", func(p *api.Program) { p.Tables[1].Default.Action = 1 }, d(api.ErrNotFound, 1, -3)},
		{"table 1's name twice", func(p *api.Program) { p.Tables[1].Name = p.Tables[0].Name }, d(api.ErrDuplicate, 1, 0)},
		{"table 2's argument", func(p *api.Program) { p.Tables[2].Default.Args[0] = 2 }, d(api.ErrRange, 2, -3)},
		{"table 2's name twice", func(p *api.Program) { p.Tables[2].Name = p.Tables[0].Name }, d(api.ErrDuplicate, 2, 0)},
	}
}

func flowFlaws() []flaw {
	inParser := func(code api.Errno, item, sub int) api.Diagnostic {
		return diagnostic(code, program.PartParser, item, sub)
	}
	inControl := func(code api.Errno, at int) api.Diagnostic { return diagnostic(code, program.PartControl, at, 0) }
	inDeparser := func(code api.Errno, at int) api.Diagnostic {
		return diagnostic(code, program.PartDeparser, at, 0)
	}
	return []flaw{
		{"states", func(p *api.Program) { p.States = append(p.States, make([]api.ParserState, 10)...) }, inParser(api.ErrLimit, -1, -1)},
		{"state 0's name", func(p *api.Program) { p.States[0].Name = "" }, inParser(api.ErrName, 0, -1)},
		{"state 0's case 1", func(p *api.Program) { p.States[0].Cases[1].Value = 3 }, inParser(api.ErrSyntax, 0, 1)},
		{"state 0's default", func(p *api.Program) { p.States[0].Default = 0 }, inParser(api.ErrOrder, 0, -1)},
		{"state 1's name twice", func(p *api.Program) { p.States[1].Name = p.States[0].Name }, inParser(api.ErrDuplicate, 1, -1)},
		{"state 1's headers", func(p *api.Program) { p.States[1].Extract[1] = 3 }, inParser(api.ErrNotFound, 1, -1)},
		{"state 2's cases", func(p *api.Program) { p.States[2].Cases = make([]api.SelectCase, 9) }, inParser(api.ErrLimit, 2, -1)},
		{"control", func(p *api.Program) { p.Control = append(p.Control, make([]api.ControlNode, 24)...) }, inControl(api.ErrLimit, -1)},
		{"node 0's condition", func(p *api.Program) { p.Control[0].Cond = param(0) }, inControl(api.ErrNotFound, 0)},
		{"node 1's table", func(p *api.Program) { p.Control[0].Then[0].Table = 3 }, inControl(api.ErrNotFound, 1)},
		{"node 2's table", func(p *api.Program) { p.Control[0].Else[0].Table = 0 }, inControl(api.ErrDuplicate, 2)},
		{"node 3's branch", func(p *api.Program) { p.Control[0].Else[0].Then[0].Else = make([]api.ControlNode, 1) }, inControl(api.ErrSyntax, 3)},
		{"node 4's kind", func(p *api.Program) { p.Control[1].Kind = 0 }, inControl(api.ErrKind, 4)},
		{"deparser", func(p *api.Program) { p.Deparser = append(p.Deparser, make([]int, 6)...) }, inDeparser(api.ErrLimit, -1)},
		{"deparser 0", func(p *api.Program) { p.Deparser[0] = -1 }, inDeparser(api.ErrNotFound, 0)},
		{"deparser 1", func(p *api.Program) { p.Deparser[1] = p.Deparser[0] }, inDeparser(api.ErrDuplicate, 1)},
		{"deparser 2", func(p *api.Program) { p.Deparser[2] = 3 }, inDeparser(api.ErrNotFound, 2)},
	}
}

// flaws answers all flaws in the order in which Check looks for them.
func flaws() []flaw {
	return slices.Concat(wholeFlaws(), headerFlaws(), metadataFlaws(), registerFlaws(), actionFlaws(), tableFlaws(), flowFlaws())
}

// P21.1: every kind of error
func TestCheckErrors(t *testing.T) {
	for _, x := range flaws() {
		p := sample()
		x.change(&p)
		expectCheck(t, x.what, p, x.want)
		expectUnchanged(t, p)
	}
}

// P21.1: of two errors that one program can have together, the first one
func TestCheckOrder(t *testing.T) {
	l := flaws()
	for i, x := range l {
		for _, y := range l[i+1:] {
			p := sample()
			y.change(&p)
			x.change(&p)
			want := x.want
			if x.want.Part == y.want.Part {
				want = model(p) // they may change one thing, so that only the first is left, or none
			}
			expectCheck(t, x.what+", "+y.what, p, want)
		}
	}
}

// P21.1: the order of the errors of one element
func TestCheckOneElement(t *testing.T) {
	p := sample()
	p.Headers[0], p.Headers[1] = api.Header{Name: "meta"}, api.Header{Name: "meta"}
	expectCheck(t, "a header named meta without fields", p, diagnostic(api.ErrNotFound, program.PartHeader, 0, 0))
	p.Headers[0] = sample().Headers[0]
	p.Headers[1] = api.Header{Name: "h"}
	expectCheck(t, "a header's name twice, without fields", p, diagnostic(api.ErrNotFound, program.PartHeader, 1, 0))
	p = sample()
	p.Metadata[1] = api.Field{Name: "in", Width: 99}
	expectCheck(t, "a metadata field's name twice, with a width too great", p, diagnostic(api.ErrWidth, program.PartMetadata, 1, 0))
	p.Metadata = append(goodMetadata()[1:], api.Field{Name: "out", Width: 8})
	expectCheck(t, "metadata in wrong order, a name twice", p, diagnostic(api.ErrDuplicate, program.PartMetadata, 2, 0))
	p.Metadata[2] = api.Field{Name: "in", Width: 8}
	expectCheck(t, "metadata in wrong order", p, diagnostic(api.ErrSyntax, program.PartMetadata, 0, 0))
	for n := range 3 {
		p.Metadata = goodMetadata()[:n]
		expectCheck(t, "metadata missing", p, diagnostic(api.ErrSyntax, program.PartMetadata, n, 0))
	}
	p = sample()
	p.Registers[1] = api.Register{Name: "r", Width: 8}
	expectCheck(t, "a register's name twice, without cells", p, diagnostic(api.ErrRange, program.PartRegister, 1, 0))
	p = sample()
	p.Actions[1].Name, p.Actions[1].Body[4].Header = "nop", 9
	expectCheck(t, "an action's name twice, with a wrong statement", p, diagnostic(api.ErrNotFound, program.PartAction, 1, 4))
	p.Actions[1].Body[4].Header = 0
	p.Actions[2].Body[0].Kind = 0
	expectCheck(t, "an action's name twice, ahead of a wrong action", p, diagnostic(api.ErrDuplicate, program.PartAction, 1, 0))
	p = sample()
	p.Tables[1] = api.Table{Name: "t", Size: 1}
	expectCheck(t, "a table's name twice, without actions", p, diagnostic(api.ErrNotFound, program.PartTable, 1, -3))
	p.Tables[1].Actions = []int{0}
	p.Tables[2].Size = 0
	expectCheck(t, "a table's name twice, ahead of a wrong table", p, diagnostic(api.ErrDuplicate, program.PartTable, 1, 0))
}

// P21.1: names that are and aren't identifiers
func TestCheckNames(t *testing.T) {
	for _, name := range append([]string{"a", "Z", "a_", "a9", "program", "meta_", "Meta", longName}, wrongNames...) {
		p := api.Program{Name: name, Metadata: append(goodMetadata(), api.Field{Name: name, Width: 1}), States: []api.ParserState{{Name: "s", Default: -1}}}
		want := api.Diagnostic{}
		if !lexer.IsIdentifier(name) {
			want = diagnostic(api.ErrName, program.PartProgram, 0, 0)
		}
		expectCheck(t, name, p, want)
		p.Name = "p"
		if want.Code != api.OK {
			want = diagnostic(api.ErrName, program.PartMetadata, 3, 0)
		}
		expectCheck(t, name, p, want)
	}
}

// P21.1: widths of metadata fields
func TestCheckWidths(t *testing.T) {
	for _, w := range append([]int{31, 32}, wrongNumbers...) {
		p := sample()
		p.Metadata[4].Width = w
		p.States[2].Select = false
		want := api.Diagnostic{}
		if w < 1 || w > 32 {
			want = diagnostic(api.ErrWidth, program.PartMetadata, 4, 0)
		}
		expectCheck(t, strconv.Itoa(w), p, want)
	}
}

// errorList notes every error of a program in the order of the chapter's table, and stops at none.
type errorList []api.Diagnostic

func (l *errorList) add(wrong bool, code api.Errno, part, item, sub int) {
	if wrong && code != api.OK {
		*l = append(*l, diagnostic(code, part, item, sub))
	}
}

func (l *errorList) addNames(part, item int, names []string) {
	l.add(slices.Index(names, names[item]) < item, api.ErrDuplicate, part, item, 0)
}

func (l *errorList) addDeclarations(p api.Program) {
	all := partNames(p)
	l.add(!lexer.IsIdentifier(p.Name), api.ErrName, 0, 0, 0)
	l.add(len(p.Headers) > 8, api.ErrLimit, 0, 1, 0)
	l.add(len(p.Registers) > 4, api.ErrLimit, 0, 3, 0)
	l.add(len(p.Actions) > 16, api.ErrLimit, 0, 4, 0)
	l.add(len(p.Tables) > 12, api.ErrLimit, 0, 5, 0)
	for i, h := range p.Headers {
		l.add(true, header.Check(h), 1, i, 0)
		l.add(h.Name == "meta", api.ErrName, 1, i, 0)
		l.addNames(1, i, all[0])
	}
	l.add(len(p.Metadata) > 12, api.ErrLimit, 2, 0, 0)
	for i, f := range p.Metadata {
		l.add(!lexer.IsIdentifier(f.Name), api.ErrName, 2, i, 0)
		l.add(f.Width < 1 || f.Width > 32, api.ErrWidth, 2, i, 0)
		l.addNames(2, i, all[1])
	}
	for i, f := range goodMetadata() {
		l.add(i >= len(p.Metadata) || p.Metadata[i] != f, api.ErrSyntax, 2, i, 0)
	}
	for i, r := range p.Registers {
		l.add(true, register.Check(r), 3, i, 0)
		l.addNames(3, i, all[2])
	}
}

// model is the plain form of Check.
func model(p api.Program) api.Diagnostic {
	var l errorList
	l.addDeclarations(p)
	all := partNames(p)
	for i := range p.Actions {
		at, e := action.Check(p, i)
		l.add(true, e, 4, i, at)
		l.addNames(4, i, all[3])
	}
	for i := range p.Tables {
		at, e := table.Check(p, i)
		l.add(true, e, 5, i, at)
		l.addNames(5, i, all[4])
	}
	item, sub, e := parser.Check(p)
	l.add(true, e, 6, item, sub)
	item, e = control.Check(p)
	l.add(true, e, 7, item, 0)
	item, e = deparser.Check(p)
	l.add(true, e, 8, item, 0)
	return append(l, api.Diagnostic{})[0]
}

// P21.1: damaged programs against the plain form
func TestCheckRandom(t *testing.T) {
	r := random(1)
	counts := map[[2]int]int{}
	for i := range 40000 {
		p := sample()
		if i%5 == 0 {
			p = greatest()
		}
		for range 1 + r.below(3) {
			damage(&r, &p)
		}
		want := model(p)
		counts[[2]int{want.Part, int(want.Code)}]++
		if d := program.Check(p); d != want {
			t.Fatalf("Check(%+v) = %v, want %v", p, d, want)
		}
	}
	for _, part := range []int{program.PartProgram, program.PartHeader, program.PartMetadata, program.PartRegister, program.PartAction, program.PartTable, program.PartParser, program.PartControl, program.PartDeparser} {
		seen := 0
		for k, n := range counts {
			if k[0] == part {
				seen += n
			}
		}
		if seen < 100 {
			t.Errorf("only %d programs with an error of part %d", seen, part)
		}
	}
	if len(counts) < 30 {
		t.Errorf("only %d kinds of errors: %v", len(counts), counts)
	}
}

// fill gives a place any contents, in lists within few lists.
func fill(r *random, v reflect.Value, depth int) {
	switch v.Kind() {
	case reflect.Struct:
		for i := range v.NumField() {
			fill(r, v.Field(i), depth)
		}
	case reflect.Slice:
		n := r.below(4)
		if depth > 5 {
			n = 0
		}
		v.Set(reflect.MakeSlice(v.Type(), n, n))
		for i := range n {
			fill(r, v.Index(i), depth+1)
		}
	case reflect.Int:
		v.SetInt(int64(pick(r, wrongNumbers)))
	case reflect.Uint32:
		v.SetUint(uint64(r.bits() >> r.below(32)))
	case reflect.Bool:
		v.SetBool(r.below(2) == 0)
	case reflect.String:
		v.SetString(pick(r, append([]string{"a", "b", "in", "meta"}, wrongNames...)))
	}
}

// P21.1, P21.4: programs of any contents
func TestAnyContents(t *testing.T) {
	r := random(7)
	for range 3000 {
		p := sample()
		v := reflect.ValueOf(&p).Elem()
		for i := range v.NumField() {
			if r.below(4) == 0 {
				fill(&r, v.Field(i), 0)
			}
		}
		if d := program.Check(p); d != model(p) {
			t.Fatalf("Check(%+v) = %v, want %v", p, d, model(p))
		}
		if !program.Equal(p, program.Clone(p)) {
			t.Fatalf("Clone of %+v isn't equal", p)
		}
	}
}
