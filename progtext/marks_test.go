package progtext_test

import (
	"slices"
	"strings"
	"testing"

	"patchbay/api"
	"patchbay/expr"
	"patchbay/exprtext"
	"patchbay/lexer"
	"patchbay/progtext"
)

// marked is a valid program whose tokens tell what else may stand in their place. A token without a letter and a colon
// ahead of it is a keyword or symbol. Behind a slash stand other tokens that the syntax allows there; * is any name.
//
//	N a new name, # a number
//	H, R, A, T the name of a header, register, action, table; G the name of a state behind goto
//	M the first name of a FIELD, F the second one
//	S the first token of a statement, P and Q the period and the bracket behind it, D the header's name behind add or remove
//	V, B the first two tokens of a register read
//	e the first token of an expression in the action set, c that of a condition, E any further one of an expression
const marked = `
program N:q
header/metadata N:h { N:f/} : #:8 N:k/} : #:8 }/*
header/metadata N:g { N:f/} : #:16 }/*
metadata/header { N:in/} : #:8 N:out/} : #:8 N:drop/} : #:1 N:n/} : #:16 }/*
register/action/table/state/control N:r : #:8 [ #:4 ]
register/action/table/state/control N:s : #:16 [ #:0x40 ]
action/register/table/state/control N:nop ( )/* { }/*
action/table/state/control N:set ( N:v/) : #:8 ,/) N:w : #:16 )/, {
  S:h P:. F:f = e:@ E:v
  S:meta P:. F:n = e:( E:g E:. E:f E:) E:+ E:@ E:w
  S:add D:g
  S:remove D:h
  S:h P:. F:k = V:r B:[ e:3 E:: E:8 ]
  S:s Q:[ e:h E:. E:f E:[ E:2 E:+ E:3 E:] ] = e:valid E:( E:h E:) E:? E:@ E:w E:: E:g E:. E:f
  S:g P:. F:f = V:s B:[ e:~ E:( E:h E:. E:f E:<< E:1 E:) ]
  S:r Q:[ e:1 E:: E:1 ] = e:( E:( E:h E:. E:f E:) E:)
}/*
table/action/state/control N:t {
  key/actions M:h . F:f : exact/lpm/ternary
  key/actions M:meta . F:n : lpm/exact/ternary
  actions/key A:set ,/default A:nop
  default/, A:set ( #:255/) ,/) #:0 )/,
  size #:256
}
table/state/control N:u { actions/key A:nop default/, A:nop ( )/# size #:1 }
state/table/control N:start {
  extract/select/case/default H:h extract/select/case/default H:g
  select/extract/case/default M:h . F:k
  case/default #:1 & #:255 -> goto/accept/reject G:end
  case/default #:2 & #:0xff -> accept/reject/goto
  case/default #:0 & #:0 -> reject/accept/goto
  default/case goto/accept/reject G:end
}
state/control N:end { default/extract/select/case reject/accept/goto }
control/state {
  if/hit/apply/} ( c:h E:. E:f E:== E:0x7 E:: E:8 ) {
    apply/if/hit/} T:t
    if/apply/hit/} ( c:valid E:( E:h E:) ) { }/if/apply/hit else { }/if/apply/hit
  }/if/apply/hit else {
    hit/apply/if/} T:u { }/if/apply/hit else { }/if/apply/hit
  }/if/apply/hit
}/if/apply/hit
deparser H:g , H:h
`

// The names that something in marked has, as what the marks ask for.
var (
	declared = []string{"q", "h", "f", "k", "g", "meta", "in", "out", "drop", "n", "r", "s", "nop", "set", "v", "w", "t", "u"}
	states   = []string{"start", "end"}
)

// substitutes are the tokens that are put in the place of others.
var substitutes = append(strings.Fields("% 7 0x1f zz Zz_9 { } ( ) [ ] , : . = & -> ; == ~ @ + < ? := && valid program header metadata meta register action table state control deparser add remove key actions default size extract select case exact lpm ternary accept reject goto if else apply hit"), declared...)

// mark is a token of marked.
type mark struct {
	class byte
	text  string
	also  []string
}

func marks() []mark {
	var l []mark
	for _, s := range strings.Fields(marked) {
		m := mark{class: 'K'}
		if len(s) > 2 && s[1] == ':' {
			m.class, s = s[0], s[2:]
		}
		parts := strings.Split(s, "/")
		m.text, m.also = parts[0], parts[1:]
		l = append(l, m)
	}
	return l
}

func textsOf(l []mark) []string {
	var texts []string
	for _, m := range l {
		texts = append(texts, m.text)
	}
	return texts
}

func isName(s string) bool { return lexer.IsIdentifier(s) }

func isNumber(s string) bool { return s[0] >= '0' && s[0] <= '9' }

// verdict is what becomes of a token: it is allowed or may be, or code is the error of the token that is so many tokens
// further on.
type verdict struct {
	allowed bool
	further int
	code    api.Errno
}

// judgeStatement judges the first token of a statement. Behind it stands next.
func judgeStatement(s, next string) verdict {
	switch {
	case s == "}":
		return verdict{allowed: true}
	case !isName(s):
		return verdict{code: api.ErrSyntax}
	case next == "." || next == "[":
		return verdict{allowed: slices.Contains(declared, s), code: api.ErrNotFound}
	case isName(next) && (s == "add" || s == "remove"):
		return verdict{allowed: true}
	}
	return verdict{further: 1, code: api.ErrSyntax}
}

// judge judges a token in the place of a mark that belongs to no expression. Behind it stands next.
func (m mark) judge(s, next string) verdict {
	switch {
	case m.class == 'S':
		return judgeStatement(s, next)
	case s == m.text || slices.Contains(m.also, s) || isName(s) && slices.Contains(m.also, "*") || isNumber(s) && slices.Contains(m.also, "#"):
		return verdict{allowed: true}
	case m.class == 'N' && isName(s), m.class == '#' && isNumber(s), m.class == 'B' && s == ".":
		return verdict{allowed: true}
	case m.class == 'B':
		return verdict{further: -1, code: api.ErrSyntax}
	case m.class == 'P' && s == "[", m.class == 'Q' && s == ".", m.class == 'D' && (s == "." || s == "["):
		return verdict{further: -1, code: api.ErrNotFound}
	case strings.IndexByte("DHRATMFV", m.class) >= 0 && isName(s):
		return verdict{allowed: slices.Contains(declared, s), code: api.ErrNotFound}
	case m.class == 'G' && isName(s):
		return verdict{allowed: slices.Contains(states, s), code: api.ErrNotFound}
	}
	return verdict{code: api.ErrSyntax}
}

func (m mark) inExpression() bool { return strings.IndexByte("ecE", m.class) >= 0 }

// stretch answers where the expression begins that token i belongs to, and where it ends.
func stretch(l []mark, i int) (start, end int) {
	for l[i].class == 'E' {
		i--
	}
	start = i
	for i++; l[i].class == 'E'; i++ {
	}
	return start, i
}

func scopeOf(t *testing.T, m mark) expr.Scope {
	t.Helper()
	p, _, e := progtext.Parse(onLines(textsOf(marks())))
	if e != api.OK {
		t.Fatal(e)
	}
	if m.class == 'c' {
		return expr.Scope{Program: p}
	}
	return expr.Scope{Program: p, Params: p.Actions[1].Params}
}

func lexed(t *testing.T, texts []string) []lexer.Token {
	t.Helper()
	l, _, e := lexer.Tokenize(onLines(texts))
	if e != api.OK {
		t.Fatal(e)
	}
	return l
}

// judgeExpression judges texts that differ from the marks in token i, which belongs to the expression that has token
// inside, or stands right behind it.
func judgeExpression(t *testing.T, l []mark, texts []string, inside, i int) verdict {
	t.Helper()
	start, end := stretch(l, inside)
	_, next, e := exprtext.ParseTokens(lexed(t, texts), start, scopeOf(t, l[start]))
	if e != api.OK {
		return verdict{further: start - i, code: e}
	}
	v := l[end].judge(texts[next], texts[next+1])
	v.further += next - i
	return v
}

// judgeAt judges texts that differ from the marks in token i.
func judgeAt(t *testing.T, l []mark, texts []string, i int) verdict {
	t.Helper()
	switch {
	case l[i].inExpression():
		return judgeExpression(t, l, texts, i, i)
	case i > 0 && l[i-1].inExpression():
		return judgeExpression(t, l, texts, i-1, i)
	}
	next := ""
	if i+1 < len(texts) {
		next = texts[i+1]
	}
	return l[i].judge(texts[i], next)
}

// The marks are those of a valid program.
func TestMarks(t *testing.T) {
	s := onLines(textsOf(marks()))
	p, line, e := progtext.Parse(s)
	if line != 0 || e != api.OK {
		t.Fatalf("Parse(%q): %d, %v", s, line, e)
	}
	if len(p.Headers) != 2 || len(p.Actions) != 2 || len(p.Actions[1].Body) != 8 || len(p.Tables) != 2 || len(p.States) != 2 || len(p.Control) != 1 || len(p.Deparser) != 2 {
		t.Errorf("Parse(%q) = %+v", s, p)
	}
}

// P22.2: every token in turn, with another one in its place
func TestSubstitutes(t *testing.T) {
	l := marks()
	counts := map[api.Errno]int{}
	for i := range l {
		for _, s := range substitutes {
			texts := textsOf(l)
			texts[i] = s
			if s == "[" && l[i].class == 'E' && l[i-1].class == 'e' && l[i-2].text == "=" {
				continue // makes a register read
			}
			v := judgeAt(t, l, texts, i)
			if v.allowed {
				continue
			}
			counts[v.code]++
			expectFault(t, onLines(texts), i+1+v.further, v.code)
		}
	}
	if counts[api.ErrSyntax] < 10000 || counts[api.ErrNotFound] < 1000 {
		t.Errorf("only these faults: %v", counts)
	}
}

// P22.2: the first so many tokens
func TestEarlyEnd(t *testing.T) {
	l := marks()
	texts := textsOf(l)
	for i := range l {
		last := slices.Index(texts, "deparser")
		if i == last+1 || i == last+2 {
			continue // a whole program
		}
		line, want := 0, api.ErrSyntax
		switch class := l[i].class; {
		case class == 'e' || class == 'c' || class == 'V':
			want = api.ErrShort
		case class == 'B':
			line, want = i, api.ErrShort
		case class == 'E':
			start, _ := stretch(l, i)
			if _, _, e := exprtext.ParseTokens(lexed(t, texts[:i]), start, scopeOf(t, l[start])); e != api.OK {
				line, want = start+1, e
			}
		}
		expectFault(t, onLines(texts[:i]), line, want)
	}
}

// P22.3: a token behind the deparser's list
func TestBehindEnd(t *testing.T) {
	texts := textsOf(marks())
	for _, s := range substitutes {
		if s == "," {
			continue
		}
		expectFault(t, onLines(append(texts, s)), len(texts)+1, api.ErrSyntax)
		expectFault(t, onLines(append(texts, s, "%")), len(texts)+1, api.ErrSyntax)
	}
	expectFault(t, onLines(append(texts, ",")), 0, api.ErrSyntax)
	expectFault(t, onLines(append(texts, ",", "%")), len(texts)+2, api.ErrSyntax)
	expectFault(t, onLines(append(texts, ",", "zz")), len(texts)+2, api.ErrNotFound)
	expectFault(t, onLines(append(texts, ",", "h")), 0, api.ErrDuplicate)
}
