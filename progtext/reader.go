package progtext

import (
	"slices"

	"patchbay/api"
	"patchbay/expr"
	"patchbay/exprtext"
	"patchbay/lexer"
	"patchbay/program"
)

// fault is what the reader panics with at the first error.
type fault struct {
	line int
	code api.Errno
}

// jump is a transition to a state that may be declared behind it.
type jump struct {
	state lexer.Token // the name
	from  int
	at    int // the case, or noCase for the default
}

const noCase = -1

// reader reads tokens from left to right, by recursive descent. Its program is what it has read so far.
type reader struct {
	tokens  []lexer.Token
	next    int
	program api.Program
	jumps   []jump
}

// peek answers the token that is some tokens ahead. Behind the last one it is the zero token: its line is that of an
// early end, and its text is no other token's.
func (r *reader) peek(ahead int) lexer.Token {
	if at := r.next + ahead; at < len(r.tokens) {
		return r.tokens[at]
	}
	return lexer.Token{}
}

func (r *reader) sees(text string) bool { return r.peek(0).Text == text }

func (r *reader) take(allowed bool) lexer.Token {
	t := r.peek(0)
	if !allowed {
		panic(fault{t.Line, api.ErrSyntax})
	}
	r.next++
	return t
}

func (r *reader) expect(text string) { r.take(r.sees(text)) }

// skips reads a token if it has this text.
func (r *reader) skips(text string) bool {
	if !r.sees(text) {
		return false
	}
	r.next++
	return true
}

func (r *reader) name() lexer.Token { return r.take(r.peek(0).Kind == lexer.TokenName) }

func (r *reader) number() uint32 { return r.take(r.peek(0).Kind == lexer.TokenNumber).Value }

// oneOf reads one of some words and answers its index.
func (r *reader) oneOf(words ...string) int {
	i := slices.Index(words, r.peek(0).Text)
	r.take(i >= 0)
	return i
}

// list reads one or more elements.
func (r *reader) list(element func()) {
	element()
	for r.skips(",") {
		element()
	}
}

// arguments reads a list in parentheses, which may be empty.
func (r *reader) arguments(element func()) {
	r.expect("(")
	if !r.sees(")") {
		r.list(element)
	}
	r.expect(")")
}

// block reads elements in braces. It ends, as an element that reads no token panics.
func (r *reader) block(element func()) {
	r.expect("{")
	for !r.sees("}") {
		element()
	}
	r.expect("}")
}

// requireFound answers what a name refers to, if it refers to something.
func requireFound(i int, ok bool, name lexer.Token) int {
	if !ok {
		panic(fault{name.Line, api.ErrNotFound})
	}
	return i
}

// find answers the first element of a part that has a name.
func (r *reader) find(part int, name lexer.Token) int {
	i, ok := program.Lookup(r.program, part, name.Text)
	return requireFound(i, ok, name)
}

// reference reads the name of an element of a part that has been read.
func (r *reader) reference(part int) int { return r.find(part, r.name()) }

func (r *reader) ref() api.FieldRef {
	h, fields := api.Metadata, r.program.Metadata
	if name := r.name(); name.Text != metaName {
		h = r.find(program.PartHeader, name)
		fields = r.program.Headers[h].Fields
	}
	r.expect(".")
	name := r.name()
	i := slices.IndexFunc(fields, func(f api.Field) bool { return f.Name == name.Text })
	return api.FieldRef{Header: h, Field: requireFound(i, i >= 0, name)}
}

func (r *reader) expression(params []api.Field) []api.ExprNode {
	n, next, e := exprtext.ParseTokens(r.tokens, r.next, expr.Scope{Program: r.program, Params: params})
	if e != api.OK {
		panic(fault{r.peek(0).Line, e})
	}
	r.next = next
	return n
}

func (r *reader) field() api.Field {
	name := r.name()
	r.expect(":")
	return api.Field{Name: name.Text, Width: int(r.number())}
}

func (r *reader) fields() (l []api.Field) {
	r.block(func() { l = append(l, r.field()) })
	return l
}

func (r *reader) header() api.Header {
	name := r.name()
	return api.Header{Name: name.Text, Fields: r.fields()}
}

func (r *reader) register() api.Register {
	f := r.field()
	r.expect("[")
	size := int(r.number())
	r.expect("]")
	return api.Register{Name: f.Name, Width: f.Width, Size: size}
}

func (r *reader) cell(params []api.Field) (register int, index []api.ExprNode) {
	register = r.reference(program.PartRegister)
	r.expect("[")
	index = r.expression(params)
	r.expect("]")
	return register, index
}

// assignment reads a statement that begins with a field.
func (r *reader) assignment(params []api.Field) api.Statement {
	s := api.Statement{Kind: api.StmtAssign, Dst: r.ref()}
	r.expect("=")
	if r.peek(0).Kind == lexer.TokenName && r.peek(1).Text == "[" {
		s.Kind = api.StmtRead
		s.Register, s.Index = r.cell(params)
		return s
	}
	s.Value = r.expression(params)
	return s
}

func (r *reader) write(params []api.Field) api.Statement {
	s := api.Statement{Kind: api.StmtWrite}
	s.Register, s.Index = r.cell(params)
	r.expect("=")
	s.Value = r.expression(params)
	return s
}

// change reads a statement that adds or removes a header.
func (r *reader) change(kind int) api.Statement {
	r.next++
	return api.Statement{Kind: kind, Header: r.reference(program.PartHeader)}
}

func (r *reader) statement(params []api.Field) api.Statement {
	first, second := r.peek(0), r.peek(1)
	switch {
	case first.Kind != lexer.TokenName:
		panic(fault{first.Line, api.ErrSyntax})
	case second.Text == ".":
		return r.assignment(params)
	case second.Text == "[":
		return r.write(params)
	case first.Text == "add" && second.Kind == lexer.TokenName:
		return r.change(api.StmtAddHeader)
	case first.Text == "remove" && second.Kind == lexer.TokenName:
		return r.change(api.StmtRemoveHeader)
	}
	panic(fault{second.Line, api.ErrSyntax})
}

func (r *reader) action() api.Action {
	a := api.Action{Name: r.name().Text}
	r.arguments(func() { a.Params = append(a.Params, r.field()) })
	r.block(func() { a.Body = append(a.Body, r.statement(a.Params)) })
	return a
}

func (r *reader) key() api.TableKey {
	field := r.ref()
	r.expect(":")
	return api.TableKey{Field: field, Kind: firstKind + r.oneOf(kindWords()...)}
}

func (r *reader) call() api.ActionCall {
	c := api.ActionCall{Action: r.reference(program.PartAction)}
	r.arguments(func() { c.Args = append(c.Args, r.number()) })
	return c
}

func (r *reader) table() api.Table {
	t := api.Table{Name: r.name().Text}
	r.expect("{")
	for r.skips("key") {
		t.Keys = append(t.Keys, r.key())
	}
	r.expect("actions")
	r.list(func() { t.Actions = append(t.Actions, r.reference(program.PartAction)) })
	r.expect("default")
	t.Default = r.call()
	r.expect("size")
	t.Size = int(r.number())
	r.expect("}")
	return t
}

// transition reads where a case of the state under way leads, or its default. A jump leads to 0 until it is resolved.
func (r *reader) transition(at int) int {
	switch r.oneOf("accept", "reject", "goto") {
	case 0:
		return api.Accept
	case 1:
		return api.Reject
	}
	r.jumps = append(r.jumps, jump{r.name(), len(r.program.States), at})
	return 0
}

func (r *reader) selectCase(at int) api.SelectCase {
	var c api.SelectCase
	c.Value = r.number()
	r.expect("&")
	c.Mask = r.number()
	r.expect("->")
	c.Next = r.transition(at)
	return c
}

func (r *reader) state() api.ParserState {
	s := api.ParserState{Name: r.name().Text}
	r.expect("{")
	for r.skips("extract") {
		s.Extract = append(s.Extract, r.reference(program.PartHeader))
	}
	if r.skips("select") {
		s.Select, s.On = true, r.ref()
	}
	for r.skips("case") {
		s.Cases = append(s.Cases, r.selectCase(len(s.Cases)))
	}
	r.expect("default")
	s.Default = r.transition(noCase)
	r.expect("}")
	return s
}

func (r *reader) nodes() (l []api.ControlNode) {
	r.block(func() { l = append(l, r.node()) })
	return l
}

func (r *reader) node() api.ControlNode {
	var n api.ControlNode
	switch r.oneOf("apply", "if", "hit") {
	case 0:
		return api.ControlNode{Kind: api.ControlApply, Table: r.reference(program.PartTable)}
	case 1:
		n.Kind = api.ControlIf
		r.expect("(")
		n.Cond = r.expression(nil)
		r.expect(")")
	default:
		n.Kind, n.Table = api.ControlHit, r.reference(program.PartTable)
	}
	n.Then = r.nodes()
	r.expect("else")
	n.Else = r.nodes()
	return n
}

// resolve gives the jumps their states, once all of these are read.
func (r *reader) resolve() {
	for _, j := range r.jumps {
		next := r.find(program.PartParser, j.state)
		from := &r.program.States[j.from]
		if j.at == noCase {
			from.Default = next
		} else {
			from.Cases[j.at].Next = next
		}
	}
}

// end tells whether all tokens are read.
func (r *reader) end() bool { return r.next == len(r.tokens) }

func (r *reader) deparser() {
	p := &r.program
	r.expect("deparser")
	if !r.end() {
		r.list(func() { p.Deparser = append(p.Deparser, r.reference(program.PartHeader)) })
	}
	if !r.end() {
		panic(fault{r.peek(0).Line, api.ErrSyntax})
	}
}

func (r *reader) whole() {
	p := &r.program
	r.expect("program")
	p.Name = r.name().Text
	for r.skips("header") {
		p.Headers = append(p.Headers, r.header())
	}
	r.expect("metadata")
	p.Metadata = r.fields()
	for r.skips("register") {
		p.Registers = append(p.Registers, r.register())
	}
	for r.skips("action") {
		p.Actions = append(p.Actions, r.action())
	}
	for r.skips("table") {
		p.Tables = append(p.Tables, r.table())
	}
	for r.skips("state") {
		p.States = append(p.States, r.state())
	}
	r.expect("control")
	p.Control = r.nodes()
	r.deparser()
	r.resolve()
}
