package exprtext

import (
	"patchbay/api"
	"patchbay/expr"
	"patchbay/lexer"
	"patchbay/numtext"
)

// writer writes the nodes of a valid expression from left to right.
type writer struct {
	nodes   []api.ExprNode
	next    int
	scope   expr.Scope
	badName bool
}

// isPrimary tells the primary forms from the others by their runes: names, numbers and what binds them are none of these.
func isPrimary(text string) bool {
	for _, r := range text {
		switch r {
		case ' ', '~', '[':
			return false
		}
	}
	return true
}

// name answers a name for the text. In place of one that isn't fit for it, it takes note of that and answers nothing.
func (w *writer) name(name string, refers bool) string {
	if !refers || !lexer.IsIdentifier(name) {
		w.badName = true
		return ""
	}
	return name
}

func (w *writer) field(r api.FieldRef) string {
	header, fields := metaName, w.scope.Program.Metadata
	if r.Header != api.Metadata {
		h := w.scope.Program.Headers[r.Header]
		header, fields = h.Name, h.Fields
	}
	field := fields[r.Field].Name
	found, ok := findRef(w.scope.Program, header, field)
	refers := ok && found == r
	return w.name(header, refers) + "." + w.name(field, refers)
}

func (w *writer) param(i int) string {
	name := w.scope.Params[i].Name
	found, ok := findField(w.scope.Params, name)
	return "@" + w.name(name, ok && found == i)
}

// valid writes no header named meta, though such a text could be read back: P14.1 rules it out.
func (w *writer) valid(h int) string {
	name := w.scope.Program.Headers[h].Name
	found, ok := findHeader(w.scope.Program, name)
	return validName + "(" + w.name(name, ok && found == h && name != metaName) + ")"
}

func (w *writer) operand() string {
	text := w.expression()
	if isPrimary(text) {
		return text
	}
	return "(" + text + ")"
}

// expression writes the subexpression at the next node, and goes past it.
func (w *writer) expression() string {
	node := w.nodes[w.next]
	w.next++
	number := numtext.FormatInt
	switch node.Op {
	case api.ExprConst:
		return number(node.N) + ":" + number(node.W)
	case api.ExprField:
		return w.field(api.FieldRef{Header: node.N, Field: node.W})
	case api.ExprParam:
		return w.param(node.N)
	case api.ExprValid:
		return w.valid(node.N)
	case api.ExprNot:
		return "~" + w.operand()
	case api.ExprShl:
		return w.operand() + " << " + number(node.N)
	case api.ExprShr:
		return w.operand() + " >> " + number(node.N)
	case api.ExprSlice:
		return w.operand() + "[" + number(node.N) + "+" + number(node.W) + "]"
	case api.ExprIf:
		return w.operand() + " ? " + w.operand() + " : " + w.operand()
	}
	return w.operand() + " " + symbols[node.Op-firstBinary] + " " + w.operand()
}
