package optext_test

import (
	"testing"

	"patchbay/api"
	"patchbay/lexer"
	"patchbay/optext"
	"patchbay/program"
)

// finished is the state of syntax in which an operation is complete.
const finished = "finished"

// syntax is the chapter's table of texts as an automaton: what may stand next in a state, with the state behind it.
// NUMBER, TABLE and ACTION stand for tokens of many texts.
var syntax = map[string]map[string]string{
	"start":        {"insert": "insert", "modify": "modify", "delete": "delete", "default": "default"},
	"insert":       {"TABLE": "keys"},
	"modify":       {"TABLE": "modified row"},
	"delete":       {"TABLE": "deleted row"},
	"default":      {"TABLE": "arrow"},
	"keys":         {"NUMBER": "slash", "priority": "priority"},
	"slash":        {"/": "mask"},
	"mask":         {"NUMBER": "keys"},
	"priority":     {"NUMBER": "arrow"},
	"modified row": {"NUMBER": "arrow"},
	"deleted row":  {"NUMBER": finished},
	"arrow":        {"->": "action"},
	"action":       {"ACTION": "opening"},
	"opening":      {"(": "arguments"},
	"arguments":    {"NUMBER": "comma", ")": finished},
	"comma":        {",": "argument", ")": finished},
	"argument":     {"NUMBER": "comma"},
	finished:       {},
}

func tableNamed(p api.Program, name string) int {
	for i, x := range p.Tables {
		if x.Name == name {
			return i
		}
	}
	return -1
}

func actionNamed(p api.Program, name string) int {
	for i, x := range p.Actions {
		if x.Name == name {
			return i
		}
	}
	return -1
}

// follow answers the state behind a token, or the error of the token.
func follow(p api.Program, state string, t lexer.Token) (string, api.Errno) {
	next := syntax[state]
	switch {
	case next["TABLE"] != "" && t.Kind == lexer.TokenName:
		if tableNamed(p, t.Text) < 0 {
			return "", api.ErrNotFound
		}
		return next["TABLE"], api.OK
	case next["ACTION"] != "" && t.Kind == lexer.TokenName:
		if actionNamed(p, t.Text) < 0 {
			return "", api.ErrNotFound
		}
		return next["ACTION"], api.OK
	case next["NUMBER"] != "" && t.Kind == lexer.TokenNumber:
		return next["NUMBER"], api.OK
	case next[t.Text] != "":
		return next[t.Text], api.OK
	}
	return "", api.ErrSyntax
}

// heard is what a token means in the state in which it is read.
func heard(p api.Program, o *api.TableOp, state string, t lexer.Token) {
	c := &o.Call
	if o.Kind == api.OpInsert {
		c = &o.Entry.Call
	}
	switch state {
	case "start":
		o.Kind = map[string]int{"insert": 1, "modify": 2, "delete": 3, "default": 4}[t.Text]
	case "insert", "modify", "delete", "default":
		o.Table = tableNamed(p, t.Text)
	case "keys":
		if t.Kind == lexer.TokenNumber {
			o.Entry.Keys = append(o.Entry.Keys, match(t.Value, 0))
		}
	case "mask":
		o.Entry.Keys[len(o.Entry.Keys)-1].Mask = t.Value
	case "priority":
		o.Entry.Priority = int(t.Value)
	case "modified row", "deleted row":
		o.ID = int(t.Value)
	case "action":
		c.Action = actionNamed(p, t.Text)
	case "arguments", "argument":
		if t.Kind == lexer.TokenNumber {
			c.Args = append(c.Args, t.Value)
		}
	}
}

// wantParse is P29.2, word by word.
func wantParse(p api.Program, s string) (api.TableOp, api.Errno) {
	if e := program.Check(p).Code; e != api.OK {
		return api.TableOp{}, e
	}
	l, _, e := lexer.Tokenize(s)
	if e != api.OK {
		return api.TableOp{}, e
	}
	var o api.TableOp
	state := "start"
	for _, t := range l {
		next, e := follow(p, state, t)
		if e != api.OK {
			return api.TableOp{}, e
		}
		heard(p, &o, state, t)
		state = next
	}
	if state != finished {
		return api.TableOp{}, api.ErrSyntax
	}
	switch again, e := wantFormat(p, o); {
	case e != api.OK:
		return api.TableOp{}, e
	case again != s:
		return api.TableOp{}, api.ErrFormat
	}
	return o, api.OK
}

// expectParse expects what Parse answers, and that Format inverts it.
func expectParse(t *testing.T, p api.Program, s string, want api.TableOp, code api.Errno) {
	t.Helper()
	before := text(p)
	o, e := optext.Parse(p, s)
	if !same(o, want) || e != code {
		t.Errorf("Parse(%q): %+v, %v, want %+v, %v", s, o, e, want, code)
	}
	if text(p) != before {
		t.Errorf("Parse(%q) changes the program", s)
	}
	if e != api.OK {
		return
	}
	expectApart(t, "Parse", o, p)
	if again, e := optext.Format(p, o); again != s || e != api.OK {
		t.Errorf("Format(Parse(%q)): %q, %v", s, again, e)
	}
}

// expectCode expects the error of a text, and answers it.
func expectCode(t *testing.T, p api.Program, s string, code api.Errno) {
	t.Helper()
	expectParse(t, p, s, api.TableOp{}, code)
	if _, e := wantParse(p, s); e != code {
		t.Errorf("the tests' own code of %q: %v, want %v", s, e, code)
	}
}

// expectAsTold expects that Parse answers what the promise says, and answers the error.
func expectAsTold(t *testing.T, p api.Program, s string) api.Errno {
	t.Helper()
	o, e := wantParse(p, s)
	expectParse(t, p, s, o, e)
	return e
}
