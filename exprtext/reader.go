package exprtext

import (
	"slices"

	"patchbay/api"
	"patchbay/expr"
	"patchbay/lexer"
)

// reader reads tokens from left to right up to the first fault, and takes none from there on.
type reader struct {
	tokens []lexer.Token
	next   int
	scope  expr.Scope
	nodes  []api.ExprNode
	fault  api.Errno
}

// put inserts a node. Nodes beyond one too many are let go, as they don't change that the expression is too long.
func (r *reader) put(at int, node api.ExprNode) {
	n := slices.Insert(r.nodes, at, node)
	r.nodes = n[:min(len(n), api.MaxExpr+1)]
}

func (r *reader) fail(e api.Errno) {
	if r.fault == api.OK {
		r.fault = e
	}
}

// peek answers the next token, or one of no kind if none may be taken.
func (r *reader) peek() lexer.Token {
	if r.fault != api.OK || r.next == len(r.tokens) {
		return lexer.Token{}
	}
	return r.tokens[r.next]
}

func (r *reader) take(allowed bool) {
	switch {
	case r.next == len(r.tokens):
		r.fail(api.ErrShort)
	case !allowed:
		r.fail(api.ErrSyntax)
	default:
		r.next++
	}
}

func (r *reader) sees(symbol string) bool {
	t := r.peek()
	return t.Kind == lexer.TokenSymbol && t.Text == symbol
}

func (r *reader) symbol(text string) { r.take(r.sees(text)) }

func (r *reader) number() int {
	t := r.peek()
	r.take(t.Kind == lexer.TokenNumber)
	return int(t.Value)
}

func (r *reader) name() string {
	t := r.peek()
	r.take(t.Kind == lexer.TokenName)
	return t.Text
}

// refer puts a node for a name that has been read, if the name refers to something.
func (r *reader) refer(node api.ExprNode, found bool) {
	if !found {
		r.fail(api.ErrNotFound)
	}
	r.put(len(r.nodes), node)
}

func (r *reader) constant() {
	n := r.number()
	r.symbol(":")
	r.put(len(r.nodes), api.ExprNode{Op: api.ExprConst, N: n, W: r.number()})
}

func (r *reader) param() {
	r.symbol("@")
	i, ok := findField(r.scope.Params, r.name())
	r.refer(api.ExprNode{Op: api.ExprParam, N: i}, ok)
}

// named reads one of the two primary forms that begin with a name.
func (r *reader) named() {
	name := r.name()
	if name == validName && r.sees("(") {
		r.symbol("(")
		h, ok := findHeader(r.scope.Program, r.name())
		r.refer(api.ExprNode{Op: api.ExprValid, N: h}, ok)
		r.symbol(")")
		return
	}
	r.symbol(".")
	ref, ok := findRef(r.scope.Program, name, r.name())
	r.refer(api.ExprNode{Op: api.ExprField, N: ref.Header, W: ref.Field}, ok)
}

func (r *reader) operand() {
	switch {
	case r.sees("("):
		r.symbol("(")
		r.expression()
		r.symbol(")")
	case r.sees("@"):
		r.param()
	case r.peek().Kind == lexer.TokenNumber:
		r.constant()
	default:
		r.named()
	}
}

func (r *reader) expression() {
	start := len(r.nodes)
	if r.sees("~") {
		r.symbol("~")
		r.put(start, api.ExprNode{Op: api.ExprNot})
		r.operand()
		return
	}
	r.operand()
	if node, ok := r.continuation(); ok {
		r.put(start, node)
	}
}

// continuation reads what may follow the first operand, and answers the operator that it makes that operand one of.
func (r *reader) continuation() (api.ExprNode, bool) {
	switch {
	case r.sees("<<"):
		return r.shift("<<", api.ExprShl), true
	case r.sees(">>"):
		return r.shift(">>", api.ExprShr), true
	case r.sees("["):
		return r.slice(), true
	case r.sees("?"):
		return r.choice(), true
	}
	for i, symbol := range symbols {
		if r.sees(symbol) {
			r.symbol(symbol)
			r.operand()
			return api.ExprNode{Op: firstBinary + i}, true
		}
	}
	return api.ExprNode{}, false
}

func (r *reader) shift(symbol string, op int) api.ExprNode {
	r.symbol(symbol)
	return api.ExprNode{Op: op, N: r.number()}
}

func (r *reader) slice() api.ExprNode {
	r.symbol("[")
	lo := r.number()
	r.symbol("+")
	w := r.number()
	r.symbol("]")
	return api.ExprNode{Op: api.ExprSlice, N: lo, W: w}
}

func (r *reader) choice() api.ExprNode {
	r.symbol("?")
	r.operand()
	r.symbol(":")
	r.operand()
	return api.ExprNode{Op: api.ExprIf}
}
