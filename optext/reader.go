package optext

import (
	"patchbay/api"
	"patchbay/lexer"
	"patchbay/program"
)

// cursor answers a function that returns the next token at each call. Behind the last one it returns the zero token,
// which the syntax allows nowhere.
func cursor(l []lexer.Token) func() lexer.Token {
	return func() lexer.Token {
		if len(l) == 0 {
			return lexer.Token{}
		}
		t := l[0]
		l = l[1:]
		return t
	}
}

// reader reads tokens from left to right. Behind its first error it reads on, and what it reads counts for nothing.
type reader struct {
	program api.Program
	next    func() lexer.Token
	code    api.Errno // the first error
}

func (r *reader) require(ok bool, e api.Errno) {
	if !ok && r.code == api.OK {
		r.code = e
	}
}

func (r *reader) allow(ok bool) { r.require(ok, api.ErrSyntax) }

func (r *reader) expect(text string) { r.allow(r.next().Text == text) }

// valueOf answers the value of a number in any form of the lexer's: Parse compares the form with Format's.
func (r *reader) valueOf(t lexer.Token) uint32 {
	r.allow(t.Kind == lexer.TokenNumber)
	return t.Value
}

func (r *reader) number() uint32 { return r.valueOf(r.next()) }

// reference reads the name of an element of a part of the program, and answers its index.
func (r *reader) reference(part int) int {
	t := r.next()
	r.allow(t.Kind == lexer.TokenName)
	i, found := program.Lookup(r.program, part, t.Text)
	r.require(found, api.ErrNotFound)
	return i
}

// keys reads the matches and the word behind them, which tells where they end.
func (r *reader) keys() (l []api.KeyMatch) {
	t := r.next()
	for t.Kind == lexer.TokenNumber {
		r.expect("/")
		l = append(l, api.KeyMatch{Value: t.Value, Mask: r.number()})
		t = r.next()
	}
	r.allow(t.Text == priorityWord)
	return l
}

// arguments reads the numbers ahead of a closing parenthesis, and the parenthesis.
func (r *reader) arguments() (l []uint32) {
	t := r.next()
	if t.Text == ")" {
		return nil
	}
	l = append(l, r.valueOf(t))
	for t = r.next(); t.Text == ","; t = r.next() {
		l = append(l, r.number())
	}
	r.allow(t.Text == ")")
	return l
}

// call reads an arrow and the call behind it.
func (r *reader) call() api.ActionCall {
	r.expect("->")
	c := api.ActionCall{Action: r.reference(program.PartAction)}
	r.expect("(")
	c.Args = r.arguments()
	return c
}

func (r *reader) operation() api.TableOp {
	kind, known := kinds()[r.next().Text]
	r.allow(known)
	o := api.TableOp{Kind: kind, Table: r.reference(program.PartTable)}
	switch kind {
	case api.OpInsert:
		o.Entry.Keys = r.keys()
		o.Entry.Priority = int(r.number())
		o.Entry.Call = r.call()
	case api.OpModify:
		o.ID = int(r.number())
		o.Call = r.call()
	case api.OpDelete:
		o.ID = int(r.number())
	case api.OpSetDefault:
		o.Call = r.call()
	}
	return o
}

// end allows no token that is left.
func (r *reader) end() { r.allow(r.next() == lexer.Token{}) }

// read answers the operation that the tokens spell, whether Format accepts it or not.
func read(p api.Program, l []lexer.Token) (api.TableOp, api.Errno) {
	r := reader{program: p, next: cursor(l)}
	o := r.operation()
	r.end()
	if r.code != api.OK {
		return api.TableOp{}, r.code
	}
	return o, api.OK
}
