package progtext

import (
	"strings"

	"patchbay/api"
	"patchbay/expr"
	"patchbay/exprtext"
	"patchbay/numtext"
)

const indent = "  "

// writer writes the lines of a valid program.
type writer struct {
	program api.Program
	text    strings.Builder
	depth   int // the number of open braces
}

// joined answers the texts of a list as one.
func joined[T any](l []T, text func(T) string) string {
	texts := make([]string, len(l))
	for i, x := range l {
		texts[i] = text(x)
	}
	return strings.Join(texts, ", ")
}

func fieldText(f api.Field) string { return f.Name + ": " + numtext.FormatInt(f.Width) }

func (w *writer) line(text string) {
	w.text.WriteString(strings.Repeat(indent, w.depth))
	w.text.WriteString(text)
	w.text.WriteString("\n")
}

func (w *writer) open(head string) {
	w.line(head + " {")
	w.depth++
}

// shut writes the line of a closing brace and what stands behind it.
func (w *writer) shut(rest string) {
	w.depth--
	w.line("}" + rest)
}

func (w *writer) headerName(h int) string { return w.program.Headers[h].Name }

func (w *writer) actionName(a int) string { return w.program.Actions[a].Name }

func (w *writer) ref(r api.FieldRef) string {
	if r.Header == api.Metadata {
		return metaName + "." + w.program.Metadata[r.Field].Name
	}
	h := w.program.Headers[r.Header]
	return h.Name + "." + h.Fields[r.Field].Name
}

func (w *writer) expression(n []api.ExprNode, params []api.Field) string {
	text, _ := exprtext.Format(n, expr.Scope{Program: w.program, Params: params}) // can't fail: all names of a valid program are fit for a text
	return text
}

func (w *writer) fields(head string, l []api.Field) {
	w.open(head)
	for _, f := range l {
		w.line(fieldText(f))
	}
	w.shut("")
}

func (w *writer) cell(s api.Statement, params []api.Field) string {
	return w.program.Registers[s.Register].Name + "[" + w.expression(s.Index, params) + "]"
}

// statement answers the text of a statement of a kind that program.Check accepts.
func (w *writer) statement(s api.Statement, params []api.Field) string {
	switch s.Kind {
	case api.StmtAssign:
		return w.ref(s.Dst) + " = " + w.expression(s.Value, params)
	case api.StmtAddHeader:
		return "add " + w.headerName(s.Header)
	case api.StmtRemoveHeader:
		return "remove " + w.headerName(s.Header)
	case api.StmtRead:
		return w.ref(s.Dst) + " = " + w.cell(s, params)
	}
	return w.cell(s, params) + " = " + w.expression(s.Value, params)
}

func (w *writer) action(a api.Action) {
	w.open("action " + a.Name + "(" + joined(a.Params, fieldText) + ")")
	for _, s := range a.Body {
		w.line(w.statement(s, a.Params))
	}
	w.shut("")
}

func (w *writer) table(t api.Table) {
	w.open("table " + t.Name)
	for _, k := range t.Keys {
		w.line("key " + w.ref(k.Field) + ": " + kindWords()[k.Kind-firstKind])
	}
	w.line("actions " + joined(t.Actions, w.actionName))
	w.line("default " + w.actionName(t.Default.Action) + "(" + joined(t.Default.Args, numtext.FormatUint32) + ")")
	w.line("size " + numtext.FormatInt(t.Size))
	w.shut("")
}

func (w *writer) transition(next int) string {
	switch next {
	case api.Accept:
		return "accept"
	case api.Reject:
		return "reject"
	}
	return "goto " + w.program.States[next].Name
}

func (w *writer) state(s api.ParserState) {
	number := numtext.FormatUint32
	w.open("state " + s.Name)
	for _, h := range s.Extract {
		w.line("extract " + w.headerName(h))
	}
	if s.Select {
		w.line("select " + w.ref(s.On))
	}
	for _, c := range s.Cases {
		w.line("case " + number(c.Value) + " & " + number(c.Mask) + " -> " + w.transition(c.Next))
	}
	w.line("default " + w.transition(s.Default))
	w.shut("")
}

func (w *writer) nodes(c []api.ControlNode) {
	for _, n := range c {
		w.node(n)
	}
}

// node writes a node of a kind that program.Check accepts.
func (w *writer) node(n api.ControlNode) {
	switch n.Kind {
	case api.ControlApply:
		w.line("apply " + w.program.Tables[n.Table].Name)
		return
	case api.ControlIf:
		w.open("if (" + w.expression(n.Cond, nil) + ")")
	case api.ControlHit:
		w.open("hit " + w.program.Tables[n.Table].Name)
	}
	w.nodes(n.Then)
	w.shut(" else {")
	w.depth++
	w.nodes(n.Else)
	w.shut("")
}

func (w *writer) deparser() {
	text := "deparser"
	if len(w.program.Deparser) > 0 {
		text += " " + joined(w.program.Deparser, w.headerName)
	}
	w.line(text)
}

func (w *writer) whole() {
	w.line("program " + w.program.Name)
	for _, h := range w.program.Headers {
		w.fields("header "+h.Name, h.Fields)
	}
	w.fields("metadata", w.program.Metadata)
	for _, r := range w.program.Registers {
		w.line("register " + fieldText(api.Field{Name: r.Name, Width: r.Width}) + "[" + numtext.FormatInt(r.Size) + "]")
	}
	for _, a := range w.program.Actions {
		w.action(a)
	}
	for _, t := range w.program.Tables {
		w.table(t)
	}
	for _, s := range w.program.States {
		w.state(s)
	}
	w.open("control")
	w.nodes(w.program.Control)
	w.shut("")
	w.deparser()
}
