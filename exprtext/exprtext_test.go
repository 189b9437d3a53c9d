package exprtext_test

import (
	"slices"
	"strings"
	"testing"

	"patchbay/api"
	"patchbay/expr"
	"patchbay/exprtext"
	"patchbay/lexer"
)

// random is a row of numbers that look like no rule, the same ones for the same seed.
type random uint64

func (r *random) bits() uint32 {
	*r = *r*6364136223846793005 + 1442695040888963407
	return uint32(*r >> 32)
}

func (r *random) below(n int) int { return int(r.bits()>>4) % n }

func nd(op, n, w int) api.ExprNode { return api.ExprNode{Op: op, N: n, W: w} }

func op(o int) api.ExprNode { return nd(o, 0, 0) }

func con(n, w int) api.ExprNode { return nd(api.ExprConst, n, w) }

func fld(h, f int) api.ExprNode { return nd(api.ExprField, h, f) }

func par(i int) api.ExprNode { return nd(api.ExprParam, i, 0) }

func val(h int) api.ExprNode { return nd(api.ExprValid, h, 0) }

func list(n ...api.ExprNode) []api.ExprNode { return n }

// fields answers fields of 8 bits.
func fields(names ...string) []api.Field {
	var l []api.Field
	for _, name := range names {
		l = append(l, api.Field{Name: name, Width: 8})
	}
	return l
}

func header(name string, names ...string) api.Header {
	return api.Header{Name: name, Fields: fields(names...)}
}

func scope(metadata []api.Field, params []api.Field, headers ...api.Header) expr.Scope {
	return expr.Scope{Program: api.Program{Metadata: metadata, Headers: headers}, Params: params}
}

const longName = "abcdefghijklmn_9" // of MaxName bytes

// plain has names of all kinds, which are all fit for a text.
func plain() expr.Scope {
	return scope(fields("in", "out", "meta", "valid", longName), fields("p", "meta", "valid", "h", longName),
		header("h", "b", "c", "h", "meta", "valid"), header("valid", "b", "valid"), header(longName, longName, "A_"), header("empty"))
}

func texts(s expr.Scope) map[string][]api.ExprNode {
	b, c := fld(0, 0), fld(0, 1)
	return map[string][]api.ExprNode{
		"0:1":                                list(con(0, 1)),
		"5:8":                                list(con(5, 8)),
		"4294967295:32":                      list(con(1<<32-1, 32)),
		"h.b":                                list(b),
		"h.meta":                             list(fld(0, 3)),
		"valid.valid":                        list(fld(1, 1)),
		longName + "." + longName:            list(fld(2, 0)),
		longName + ".A_":                     list(fld(2, 1)),
		"meta.in":                            list(fld(-1, 0)),
		"meta.meta":                          list(fld(-1, 2)),
		"meta.valid":                         list(fld(-1, 3)),
		"@p":                                 list(par(0)),
		"@meta":                              list(par(1)),
		"@valid":                             list(par(2)),
		"@" + longName:                       list(par(4)),
		"valid(h)":                           list(val(0)),
		"valid(valid)":                       list(val(1)),
		"valid(empty)":                       list(val(3)),
		"~h.b":                               list(op(api.ExprNot), b),
		"~(~h.b)":                            list(op(api.ExprNot), op(api.ExprNot), b),
		"h.b << 0":                           list(nd(api.ExprShl, 0, 0), b),
		"h.b >> 31":                          list(nd(api.ExprShr, 31, 0), b),
		"(h.b << 3) >> 4":                    list(nd(api.ExprShr, 4, 0), nd(api.ExprShl, 3, 0), b),
		"h.b[2+4]":                           list(nd(api.ExprSlice, 2, 4), b),
		"7:8[0+8]":                           list(nd(api.ExprSlice, 0, 8), con(7, 8)),
		"(h.b[2+4])[0+1]":                    list(nd(api.ExprSlice, 0, 1), nd(api.ExprSlice, 2, 4), b),
		"(~h.b)[2+4]":                        list(nd(api.ExprSlice, 2, 4), op(api.ExprNot), b),
		"~(h.b[2+4])":                        list(op(api.ExprNot), nd(api.ExprSlice, 2, 4), b),
		"h.b + h.c":                          list(op(api.ExprAdd), b, c),
		"h.b - h.c":                          list(op(api.ExprSub), b, c),
		"h.b & h.c":                          list(op(api.ExprAnd), b, c),
		"h.b | h.c":                          list(op(api.ExprOr), b, c),
		"h.b ^ h.c":                          list(op(api.ExprXor), b, c),
		"h.b ++ h.c":                         list(op(api.ExprConcat), b, c),
		"h.b == h.c":                         list(op(api.ExprEqual), b, c),
		"h.b < h.c":                          list(op(api.ExprLess), b, c),
		"(h.b + h.c) - @p":                   list(op(api.ExprSub), op(api.ExprAdd), b, c, par(0)),
		"h.b + (h.c - @p)":                   list(op(api.ExprAdd), b, op(api.ExprSub), c, par(0)),
		"valid(h) ? h.b : h.c":               list(op(api.ExprIf), val(0), b, c),
		"1:1 ? 2:8 : 3:8":                    list(op(api.ExprIf), con(1, 1), con(2, 8), con(3, 8)),
		"(h.b < h.c) ? (~h.b) : (h.c << 31)": list(op(api.ExprIf), op(api.ExprLess), b, c, op(api.ExprNot), b, nd(api.ExprShl, 31, 0), c),
		"(valid(h) ? h.b : h.c) == (valid(h) ? h.b : ((h.b[0+4]) ++ 0:4))": list(op(api.ExprEqual), op(api.ExprIf), val(0), b, c,
			op(api.ExprIf), val(0), b, op(api.ExprConcat), nd(api.ExprSlice, 0, 4), b, con(0, 4)),
	}
}

// P14.1, P14.3: the form of every operator, both ways
func TestForms(t *testing.T) {
	s := plain()
	for text, n := range texts(s) {
		before := slices.Clone(n)
		if got, e := exprtext.Format(n, s); got != text || e != api.OK {
			t.Errorf("Format(%v) = %q, %v, want %q", n, got, e, text)
		}
		if !slices.Equal(n, before) {
			t.Errorf("Format changes %v to %v", before, n)
		}
		if got, e := exprtext.Parse(text, s); !slices.Equal(got, n) || e != api.OK {
			t.Errorf("Parse(%q) = %v, %v, want %v", text, got, e, n)
		}
	}
}

// Example of the chapter
func TestExample(t *testing.T) {
	s := scope(nil, nil, header("h", "b"))
	n := list(op(api.ExprAdd), fld(0, 0), nd(api.ExprShl, 2, 0), con(5, 8))
	if got, e := exprtext.Format(n, s); got != "h.b + (5:8 << 2)" || e != api.OK {
		t.Errorf("Format = %q, %v", got, e)
	}
}

// P14.1: fields of a node that its operator doesn't use don't matter.
func TestFormatIgnoresUnused(t *testing.T) {
	n := list(nd(api.ExprIf, 5, -1), nd(api.ExprValid, 0, 9), nd(api.ExprNot, 7, 7), nd(api.ExprParam, 0, 99), nd(api.ExprShl, 2, -5), nd(api.ExprAdd, -1, -1), con(1, 8), con(2, 8))
	if got, e := exprtext.Format(n, plain()); got != "valid(h) ? (~@p) : ((1:8 + 2:8) << 2)" || e != api.OK {
		t.Errorf("Format = %q, %v", got, e)
	}
}

// P14.1: the error of expr.Check, ahead of ErrName
func TestFormatCheckErrors(t *testing.T) {
	s := scope(nil, nil, header("9", "?"))
	for _, n := range [][]api.ExprNode{
		nil,
		make([]api.ExprNode, api.MaxExpr),
		make([]api.ExprNode, api.MaxExpr+1),
		list(con(1, 1), con(1, 1)),
		list(con(2, 1)), list(con(-1, 8)), list(con(1, 0)), list(con(1, 33)),
		list(fld(1, 0)), list(fld(0, 1)), list(fld(-1, 0)), list(par(0)), list(val(1)), list(val(-1)),
		list(nd(api.ExprShl, 32, 0), fld(0, 0)),
		list(nd(api.ExprSlice, 1, 8), fld(0, 0)),
		list(op(api.ExprAdd), fld(0, 0), con(1, 1)),
		list(op(api.ExprAdd), fld(0, 0)),
		list(op(18)),
	} {
		_, want := expr.Check(n, s)
		if want == api.OK {
			t.Errorf("Check takes %v", n)
		}
		if got, e := exprtext.Format(n, s); got != "" || e != want {
			t.Errorf("Format(%v) = %q, %v, want %v", n, got, e, want)
		}
	}
}

var wrongNames = []string{"", " ", "9", "_a", "a b", "a.b", "a-", "é", "aé", "a\xff", "\xff", "a\x00", "@a", "a)", longName + "x", strings.Repeat("x", 1000)}

func expectName(t *testing.T, s expr.Scope, n []api.ExprNode, text string) {
	t.Helper()
	want := api.OK
	if text == "" {
		want = api.ErrName
	}
	if got, e := exprtext.Format(n, s); got != text || e != want {
		t.Errorf("Format(%v) = %q, %v, want %q, %v", n, got, e, text, want)
	}
	deep := append(list(op(api.ExprXor), con(1, 8), op(api.ExprNot), op(api.ExprIf), con(1, 1), con(1, 8), op(api.ExprConcat), con(0, 7), nd(api.ExprSlice, 0, 1)), n...)
	if got, e := exprtext.Format(deep, s); (got == "") != (text == "") || e != want {
		t.Errorf("Format(%v) = %q, %v, want %v", deep, got, e, want)
	}
}

// P14.1: ErrName, for names that aren't identifiers; those that the text doesn't have don't matter.
func TestFormatWrongNames(t *testing.T) {
	for _, name := range wrongNames {
		s := scope(fields("in", name), fields("p", name), header("h", "b", name), header(name, "b", name))
		expectName(t, s, list(fld(0, 1)), "")
		expectName(t, s, list(fld(1, 0)), "")
		expectName(t, s, list(fld(1, 1)), "")
		expectName(t, s, list(val(1)), "")
		expectName(t, s, list(par(1)), "")
		expectName(t, s, list(fld(-1, 1)), "")
		expectName(t, s, list(fld(0, 0)), "h.b")
		expectName(t, s, list(fld(-1, 0)), "meta.in")
		expectName(t, s, list(val(0)), "valid(h)")
		expectName(t, s, list(par(0)), "@p")
	}
}

// P14.1: ErrName, for a name that refers to something else
func TestFormatDuplicates(t *testing.T) {
	s := scope(fields("a", "b", "a"), fields("p", "q", "p"), header("h", "a", "b", "a"), header("g", "a"), header("h", "a", "b", "c"))
	expectName(t, s, list(fld(-1, 0)), "meta.a")
	expectName(t, s, list(fld(-1, 1)), "meta.b")
	expectName(t, s, list(fld(-1, 2)), "")
	expectName(t, s, list(par(0)), "@p")
	expectName(t, s, list(par(1)), "@q")
	expectName(t, s, list(par(2)), "")
	expectName(t, s, list(fld(0, 0)), "h.a")
	expectName(t, s, list(fld(0, 1)), "h.b")
	expectName(t, s, list(fld(0, 2)), "")
	expectName(t, s, list(fld(1, 0)), "g.a")
	for f := range 3 {
		expectName(t, s, list(fld(2, f)), "")
	}
	expectName(t, s, list(val(0)), "valid(h)")
	expectName(t, s, list(val(1)), "valid(g)")
	expectName(t, s, list(val(2)), "")
}

// P14.1: ErrName, for a header named meta, whatever the metadata is
func TestFormatHeaderMeta(t *testing.T) {
	for _, metadata := range [][]api.Field{nil, fields("b"), fields("x", "b")} {
		s := scope(metadata, fields("meta"), header("meta", "b", "meta"), header("h", "meta"))
		expectName(t, s, list(fld(0, 0)), "")
		expectName(t, s, list(fld(0, 1)), "")
		expectName(t, s, list(val(0)), "")
		expectName(t, s, list(par(0)), "@meta")
		expectName(t, s, list(fld(1, 0)), "h.meta")
		expectName(t, s, list(val(1)), "valid(h)")
	}
}

func tokens(t *testing.T, text string) []lexer.Token {
	t.Helper()
	l, _, e := lexer.Tokenize(text)
	if e != api.OK {
		t.Fatalf("Tokenize(%q): %v", text, e)
	}
	return l
}

// expectTokens holds ParseTokens against what it should answer, also with other tokens ahead of the expression.
// A nil n leaves the nodes open where there is no error.
func expectTokens(t *testing.T, l []lexer.Token, s expr.Scope, n []api.ExprNode, next int, want api.Errno) {
	t.Helper()
	before := slices.Clone(l)
	for _, ahead := range []int{0, 1, 3} {
		all := append(slices.Repeat([]lexer.Token{{Kind: lexer.TokenSymbol, Text: "~"}}, ahead), l...)
		got, at, e := exprtext.ParseTokens(all, ahead, s)
		wantAt := next + ahead
		if want != api.OK {
			wantAt = 0
		}
		if at != wantAt || e != want || want != api.OK && len(got) > 0 || n != nil && !slices.Equal(got, n) {
			t.Fatalf("ParseTokens(%v, %d) = %v, %d, %v, want %v, %d, %v", all, ahead, got, at, e, n, wantAt, want)
		}
	}
	if !slices.Equal(l, before) {
		t.Fatal("the tokens are changed")
	}
}

// P14.2: what may stand around operands, and numbers of all forms
func TestParseTokens(t *testing.T) {
	s := plain()
	b, c := fld(0, 0), fld(0, 1)
	sum := list(op(api.ExprAdd), b, c)
	for _, x := range []struct {
		text string
		n    []api.ExprNode
		next int
	}{
		{"h.b", list(b), 3},
		{"(h.b)", list(b), 5},
		{"((((h.b))))", list(b), 11},
		{"h . b+ h\n.\n\tc # h", sum, 7},
		{"(h.b)+((h.c))", sum, 13},
		{"((h.b)+h.c)", sum, 11},
		{"( ( h.b + h.c ) )", sum, 11},
		{"h.b;", list(b), 3},
		{"h.b )", list(b), 3},
		{"h.b h.c", list(b), 3},
		{"h.b ~ h.c", list(b), 3},
		{"h.b ] : + :", list(b), 3},
		{"h.b , + h.c", list(b), 3},
		{"h.b && h.c", list(b), 3},
		{"h.b <= h.c", list(b), 3},
		{"h.b . c", list(b), 3},
		{"h.b + h.c + h.b", sum, 7},
		{"h.b + h.c [ 0 + 1 ]", sum, 7},
		{"h.b + h.c ? h.b : h.c", sum, 7},
		{"h.b + h.c << 1", sum, 7},
		{"~h.b + h.c", list(op(api.ExprNot), b), 4},
		{"~h.b [ 0 + 1 ]", list(op(api.ExprNot), b), 4},
		{"~ ( h.b ) ? 1 : 1", list(op(api.ExprNot), b), 6},
		{"h.b << 1 << 2", list(nd(api.ExprShl, 1, 0), b), 5},
		{"h.b[0+1][0+1]", list(nd(api.ExprSlice, 0, 1), b), 8},
		{"1:1?h.b:h.c:h.b", list(op(api.ExprIf), con(1, 1), b, c), 11},
		{"1:1?(h.b):(h.c)?", list(op(api.ExprIf), con(1, 1), b, c), 15},
		{"1:1?2:8:3:8", list(op(api.ExprIf), con(1, 1), con(2, 8), con(3, 8)), 11},
		{"(~(h.b))<h.c", list(op(api.ExprLess), op(api.ExprNot), b, c), 12},
		{"0x1f:0x8", list(con(31, 8)), 3},
		{"0xffffffff:0x00000020", list(con(1<<32-1, 32)), 3},
		{"h.b>>0x1f", list(nd(api.ExprShr, 31, 0), b), 5},
		{"h.b[0x2+0x04]", list(nd(api.ExprSlice, 2, 4), b), 8},
		{"valid(h)", list(val(0)), 4},
		{"valid.b", list(fld(1, 0)), 3},
		{"valid(valid)", list(val(1)), 4},
		{"@ valid", list(par(2)), 2},
		{"@valid(h)", list(par(2)), 2},
		{"meta.in", list(fld(-1, 0)), 3},
	} {
		expectTokens(t, tokens(t, x.text), s, x.n, x.next, api.OK)
	}
}

// P14.2: names refer to the first of their kind; meta before a period is the metadata.
func TestParseNames(t *testing.T) {
	s := scope(fields("a", "b", "a"), fields("p", "q", "p"), header("g", "a"), header("h", "a", "b", "a"), header("meta", "x", "a"), header("h", "c"), header("meta"))
	for text, n := range map[string][]api.ExprNode{
		"h.a": list(fld(1, 0)), "h.b": list(fld(1, 1)), "g.a": list(fld(0, 0)), "meta.a": list(fld(-1, 0)), "meta.b": list(fld(-1, 1)),
		"@p": list(par(0)), "@q": list(par(1)), "valid(h)": list(val(1)), "valid(g)": list(val(0)), "valid(meta)": list(val(2)),
	} {
		l := tokens(t, text)
		expectTokens(t, l, s, n, len(l), api.OK)
	}
	for _, text := range []string{"h.c", "g.b", "meta.x", "x.a", "@x", "@h", "@a", "valid(x)", "valid(a)", "valid(p)", "H.a", "h.A"} {
		expectTokens(t, tokens(t, text), s, nil, 0, api.ErrNotFound)
	}
	expectTokens(t, tokens(t, "valid(meta)"), scope(fields("a"), nil), nil, 0, api.ErrNotFound)
	expectTokens(t, tokens(t, "meta.a"), scope(nil, nil, header("meta", "a")), nil, 0, api.ErrNotFound)
	if n, e := exprtext.Parse("valid(meta)", s); len(n) > 0 || e != api.ErrFormat {
		t.Errorf("Parse of valid(meta) = %v, %v", n, e)
	}
}

// P14.2: ErrArg
func TestParseTokensAt(t *testing.T) {
	l := tokens(t, "h.b + h.c")
	s := plain()
	for _, at := range []int{-1 << 63, -1, 8, 9, 1<<63 - 1} {
		for _, part := range [][]lexer.Token{l, l[:0], nil, l[:7]} {
			if n, next, e := exprtext.ParseTokens(part, at, s); len(n) > 0 || next != 0 || e != api.ErrArg {
				t.Errorf("ParseTokens at %d of %d = %v, %d, %v", at, len(part), n, next, e)
			}
		}
	}
	for at, want := range []api.Errno{api.OK, api.ErrSyntax, api.ErrSyntax, api.ErrSyntax, api.OK, api.ErrSyntax, api.ErrShort, api.ErrShort} {
		next := 7
		if want != api.OK {
			next = 0
		}
		if _, got, e := exprtext.ParseTokens(l, at, s); got != next || e != want {
			t.Errorf("ParseTokens at %d = %d, %v, want %v", at, got, e, want)
		}
	}
	for _, part := range [][]lexer.Token{nil, l[:0]} {
		if n, next, e := exprtext.ParseTokens(part, 0, s); len(n) > 0 || next != 0 || e != api.ErrShort {
			t.Errorf("ParseTokens of nothing = %v, %d, %v", n, next, e)
		}
	}
}

// P14.2: the first error in the order of the tokens; the error of expr.Check comes last.
func TestParseTokensErrors(t *testing.T) {
	s := scope(fields("in"), fields("p"), header("h", "b", "c"))
	for text, want := range map[string]api.Errno{
		"(": api.ErrShort, "~": api.ErrShort, "@": api.ErrShort, "h": api.ErrShort, "h.": api.ErrShort, "x": api.ErrShort, "x.": api.ErrShort, "5": api.ErrShort, "5:": api.ErrShort,
		"valid": api.ErrShort, "valid(": api.ErrShort, "valid(h": api.ErrShort, "valid.": api.ErrShort, "(h.b": api.ErrShort, "(h.b + h.c": api.ErrShort,
		"h.b +": api.ErrShort, "h.b <<": api.ErrShort, "h.b >>": api.ErrShort, "h.b [": api.ErrShort, "h.b [ 1": api.ErrShort, "h.b [ 1 +": api.ErrShort, "h.b [ 1 + 1": api.ErrShort,
		"h.b ?": api.ErrShort, "h.b ? h.b": api.ErrShort, "h.b ? h.b :": api.ErrShort, "h.b ? 1:": api.ErrShort, "h.b ? (h.b": api.ErrShort,

		")": api.ErrSyntax, "]": api.ErrSyntax, "+": api.ErrSyntax, ". b": api.ErrSyntax, "~~h.b": api.ErrSyntax, "()": api.ErrSyntax, "(h.b]": api.ErrSyntax, "(h.b;)": api.ErrSyntax,
		"h b": api.ErrSyntax, "h(b)": api.ErrSyntax, "h.5": api.ErrSyntax, "h.@": api.ErrSyntax, "h..b": api.ErrSyntax, "@@": api.ErrSyntax, "@5": api.ErrSyntax, "@(p)": api.ErrSyntax, "5 8": api.ErrSyntax, "5:h": api.ErrSyntax, "5:(8)": api.ErrSyntax, "5:=8": api.ErrSyntax, "-5:8": api.ErrSyntax,
		"valid h": api.ErrSyntax, "valid()": api.ErrSyntax, "valid(5)": api.ErrSyntax, "valid((h))": api.ErrSyntax, "valid(h.b)": api.ErrSyntax, "valid(h h": api.ErrSyntax,
		"h.b + )": api.ErrSyntax, "h.b + + h.c": api.ErrSyntax, "h.b + ~h.c": api.ErrSyntax, "h.b << h.c": api.ErrSyntax, "h.b << (1)": api.ErrSyntax, "h.b << -1": api.ErrSyntax, "h.b >> @p": api.ErrSyntax,
		"h.b[h.c+1]": api.ErrSyntax, "h.b[1]": api.ErrSyntax, "h.b[1:1]": api.ErrSyntax, "h.b[1++1]": api.ErrSyntax, "h.b[1+(1)]": api.ErrSyntax, "h.b[1+1)": api.ErrSyntax, "h.b[]": api.ErrSyntax,
		"h.b ? h.c h.b": api.ErrSyntax, "h.b ? : h.c": api.ErrSyntax, "h.b ? h.b + h.c : h.b": api.ErrSyntax, "h.b ? ~h.b : h.c": api.ErrSyntax, "h.b ? h.b : ~h.c": api.ErrSyntax,
		"(h.b + h.c + h.b)": api.ErrSyntax, "(~h.b + h.c)": api.ErrSyntax, "(h.b : h.c)": api.ErrSyntax, "(h.b << 1 << 1)": api.ErrSyntax, "(h.b h.c)": api.ErrSyntax,
		"h.b * h.c": api.OK, "h.b = h.c": api.OK,

		"x.b": api.ErrNotFound, "h.x": api.ErrNotFound, "meta.x": api.ErrNotFound, "@x": api.ErrNotFound, "valid(x)": api.ErrNotFound, "valid(x": api.ErrNotFound, "valid(x]": api.ErrNotFound, "(@x": api.ErrNotFound, "(@x]": api.ErrNotFound, "x.b + )": api.ErrNotFound,
		"x b": api.ErrSyntax, "x.5": api.ErrSyntax, "h.b + ) + x.b": api.ErrSyntax, "x.x + x.": api.ErrNotFound, "h.b + x.": api.ErrShort, "valid.b": api.ErrNotFound, "h.b ? @x": api.ErrNotFound,
		"@x + h.b ]": api.ErrNotFound, "(h.b ? h.b + @x": api.ErrSyntax,

		"5:0": api.ErrWidth, "5:33": api.ErrWidth, "5:4294967295": api.ErrWidth, "256:8": api.ErrRange, "4294967295:31": api.ErrRange, "h.b << 32": api.ErrRange, "h.b >> 4294967295": api.ErrRange,
		"h.b[0+9]": api.ErrWidth, "h.b[1+8]": api.ErrWidth, "h.b[4294967295+1]": api.ErrWidth, "h.b[0+0]": api.ErrWidth, "h.b + 1:9": api.ErrWidth, "h.b ? h.b : h.c": api.ErrWidth,
		"5:0 + )": api.ErrSyntax, "5:0 + @x": api.ErrNotFound, "(5:0": api.ErrShort, "5:0 + 256:8": api.ErrWidth, "256:8 + 5:0": api.ErrRange, "(h.b + 1:9": api.ErrShort,
	} {
		next := 0
		if want == api.OK {
			next = 3
		}
		expectTokens(t, tokens(t, text), s, nil, next, want)
	}
}

// P14.2: an element behind the length isn't read.
func TestParseTokensBehindLength(t *testing.T) {
	l := tokens(t, "h.b + h.c")
	for size, want := range []api.Errno{api.ErrShort, api.ErrShort, api.ErrShort, api.OK, api.ErrShort, api.ErrShort, api.ErrShort, api.OK} {
		expectTokens(t, l[:size], plain(), nil, size, want)
	}
}

// P14.2: tokens that no lexer made
func TestParseTokensStrange(t *testing.T) {
	s := scope(fields("", "5"), fields("", ")"), header("", "", "+"), header("h", "b"), header("\xff", "b"), header("\xfe", "b"))
	name := func(text string) lexer.Token { return lexer.Token{Kind: lexer.TokenName, Text: text} }
	symbol := func(text string) lexer.Token { return lexer.Token{Kind: lexer.TokenSymbol, Text: text} }
	number := func(v uint32, text string) lexer.Token {
		return lexer.Token{Kind: lexer.TokenNumber, Text: text, Value: v}
	}
	line := func(l ...lexer.Token) []lexer.Token { return l }
	dot, at, colon, add := symbol("."), symbol("@"), symbol(":"), symbol("+")
	expectTokens(t, line(name(""), dot, name("")), s, list(fld(0, 0)), 3, api.OK)
	expectTokens(t, line(name(""), dot, name("+")), s, list(fld(0, 1)), 3, api.OK)
	expectTokens(t, line(name("\xfe"), dot, name("b")), s, list(fld(3, 0)), 3, api.OK)
	expectTokens(t, line(name("\xfd"), dot, name("b")), s, nil, 0, api.ErrNotFound)
	expectTokens(t, line(at, name("")), s, list(par(0)), 2, api.OK)
	expectTokens(t, line(at, name(")")), s, list(par(1)), 2, api.OK)
	expectTokens(t, line(at, symbol(")")), s, nil, 0, api.ErrSyntax)
	expectTokens(t, line(number(9, "h"), colon, number(8, "")), s, list(con(9, 8)), 3, api.OK)
	expectTokens(t, line(number(9, "h"), colon, name("8")), s, nil, 0, api.ErrSyntax)
	expectTokens(t, line(name("("), dot, name("b")), s, nil, 0, api.ErrNotFound)
	expectTokens(t, line(name("~"), dot, name("b")), s, nil, 0, api.ErrNotFound)
	expectTokens(t, line(name("valid"), name("("), name("h"), symbol(")")), s, nil, 0, api.ErrSyntax)
	expectTokens(t, line(symbol("valid"), symbol("("), name("h"), symbol(")")), s, nil, 0, api.ErrSyntax)
	expectTokens(t, line(name("h"), dot, name("b"), name("+"), name("h")), s, list(fld(1, 0)), 3, api.OK)
	expectTokens(t, line(name("h"), dot, name("b"), symbol(""), name("h")), s, list(fld(1, 0)), 3, api.OK)
	for _, kind := range []int{-1, 0, 4, 1 << 40} {
		odd := lexer.Token{Kind: kind, Text: "h", Value: 1}
		expectTokens(t, line(odd), s, nil, 0, api.ErrSyntax)
		expectTokens(t, line(odd, dot, name("b")), s, nil, 0, api.ErrSyntax)
		expectTokens(t, line(number(1, "1"), colon, odd), s, nil, 0, api.ErrSyntax)
		expectTokens(t, line(name("h"), dot, name("b"), add, odd), s, nil, 0, api.ErrSyntax)
		expectTokens(t, line(name("h"), dot, name("b"), lexer.Token{Kind: kind, Text: "+"}), s, list(fld(1, 0)), 3, api.OK)
	}
}

// P14.2: more nodes than an expression may have, in depth and in length, and many parentheses
func TestParseTokensLong(t *testing.T) {
	s := plain()
	const depth = 1 << 16
	repeat := func(text string, n int) []lexer.Token { return slices.Repeat(tokens(t, text), n) }
	b := tokens(t, "h.b")
	open, closed := repeat("(", depth), repeat(")", depth)
	nested := slices.Concat(open, b, closed)
	expectTokens(t, nested, s, list(fld(0, 0)), len(nested), api.OK)
	expectTokens(t, nested[:len(nested)-1], s, nil, 0, api.ErrShort)
	expectTokens(t, nested[1:], s, list(fld(0, 0)), len(nested)-2, api.OK)
	expectTokens(t, open, s, nil, 0, api.ErrShort)
	left := slices.Concat(open, b, repeat("+ h.c)", depth))
	expectTokens(t, left, s, nil, 0, api.ErrLimit)
	expectTokens(t, left[:len(left)-1], s, nil, 0, api.ErrShort)
	right := slices.Concat(repeat("(h.b +", depth), b, closed)
	expectTokens(t, right, s, nil, 0, api.ErrLimit)
	expectTokens(t, slices.Concat(right[:len(right)-1], tokens(t, "]")), s, nil, 0, api.ErrSyntax)
	expectTokens(t, slices.Concat(repeat("~(", depth), tokens(t, "@x"), closed), s, nil, 0, api.ErrNotFound)
	expectTokens(t, slices.Concat(repeat("~(", depth), b, closed), s, nil, 0, api.ErrLimit)
	for size := 1; size <= api.MaxExpr; size++ {
		n := append(slices.Repeat(list(op(api.ExprNot)), size-1), fld(0, 0))
		l := slices.Concat(repeat("~(", size-1), b, repeat(")", size-1))
		expectTokens(t, l, s, n, len(l), api.OK)
		shifts := append(slices.Repeat(list(nd(api.ExprShl, 3, 0)), size-1), fld(0, 0))
		l = slices.Concat(repeat("(", size-1), b, repeat("<< 3)", size-1))
		if size > 1 {
			l = slices.Concat(repeat("(", size-2), b, repeat("<< 3)", size-2), tokens(t, "<< 3"))
		}
		expectTokens(t, l, s, shifts, len(l), api.OK)
	}
	for _, size := range []int{api.MaxExpr, api.MaxExpr + 1, api.MaxExpr + 2} {
		l := slices.Concat(repeat("~(", size), b, repeat(")", size))
		expectTokens(t, l, s, nil, 0, api.ErrLimit)
		l = slices.Concat(repeat("(", size), tokens(t, "999:8"), repeat("+ h.c)", size))
		expectTokens(t, l, s, nil, 0, api.ErrLimit)
	}
}

// sentences answers all the expressions of at most size tokens over this small alphabet, by the chapter's grammar.
// Every number is 1, every name is h or, written v, valid, and + stands for all binary operators.
func sentences(size int) map[string]bool {
	operands, all := make([][]string, size+1), make([][]string, size+1)
	for n := 2; n <= size; n++ {
		for _, primary := range []string{"1:1", "v(h)", "v(v)", "h.h", "h.v", "v.h", "v.v", "@h", "@v"} {
			if len(primary) == n {
				operands[n] = append(operands[n], primary)
			}
		}
		for _, x := range all[n-2] {
			operands[n] = append(operands[n], "("+x+")")
		}
		all[n] = slices.Clone(operands[n])
		for _, x := range operands[n-1] {
			all[n] = append(all[n], "~"+x)
		}
		for k := 2; k < n; k++ {
			for _, x := range operands[k] {
				switch n - k {
				case 2:
					all[n] = append(all[n], x+"<1", x+">1")
				case 5:
					all[n] = append(all[n], x+"[1+1]")
				}
				for _, y := range operands[n-k-1] {
					all[n] = append(all[n], x+"+"+y)
				}
				for m := 2; m < n-k-2; m++ {
					for _, y := range operands[m] {
						for _, z := range operands[n-k-m-2] {
							all[n] = append(all[n], x+"?"+y+":"+z)
						}
					}
				}
			}
		}
	}
	set := map[string]bool{}
	for _, l := range all {
		for _, x := range l {
			set[x] = true
		}
	}
	return set
}

// spelt answers the tokens that the letters of a sentence stand for.
func spelt(sentence string) []lexer.Token {
	var l []lexer.Token
	for i := range len(sentence) {
		token := lexer.Token{Kind: lexer.TokenSymbol, Text: sentence[i : i+1]}
		switch sentence[i] {
		case '1':
			token = lexer.Token{Kind: lexer.TokenNumber, Text: "1", Value: 1}
		case 'v':
			token = lexer.Token{Kind: lexer.TokenName, Text: "valid"}
		case 'h':
			token = lexer.Token{Kind: lexer.TokenName, Text: "h"}
		case '<', '>':
			token.Text += token.Text
		}
		l = append(l, token)
	}
	return l
}

// P14.2: every row of few tokens against the sentences of the grammar. The expression reaches as far as any sentence
// does; if it is none itself, the token behind it is at fault.
func TestGrammar(t *testing.T) {
	const length = 7
	names := []api.Field{{Name: "h", Width: 1}, {Name: "valid", Width: 1}}
	s := scope(nil, names, api.Header{Name: "h", Fields: names}, api.Header{Name: "valid", Fields: names})
	all, prefixes := sentences(length+9), map[string]bool{"": true} // 9 tokens end every row that can be ended: ((((((( needs as many
	for x := range all {
		for i := range len(x) + 1 {
			prefixes[x[:i]] = true
		}
	}
	counts := map[api.Errno]int{}
	var try func(row string)
	try = func(row string) {
		reach := 0
		for reach < len(row) && prefixes[row[:reach+1]] {
			reach++
		}
		want, next := api.ErrSyntax, 0
		switch {
		case all[row[:reach]] && strings.Contains(row[:reach], "["):
			want = api.ErrWidth // the only way to go wrong with numbers that are all 1
		case all[row[:reach]]:
			want, next = api.OK, reach
		case reach == len(row):
			want = api.ErrShort
		}
		counts[want]++
		if n, got, e := exprtext.ParseTokens(spelt(row), 0, s); got != next || e != want || (e == api.OK) != (len(n) > 0) {
			t.Fatalf("ParseTokens(%q) = %v, %d, %v, want %d, %v", row, n, got, e, next, want)
		}
		if len(row) == length || reach+2 < len(row) {
			return
		}
		for _, c := range "1vh:.@()~<>[]+?" {
			try(row + string(c))
		}
	}
	try("")
	for _, e := range []api.Errno{api.OK, api.ErrShort, api.ErrSyntax} {
		if counts[e] < 500 {
			t.Errorf("only %d rows with %v", counts[e], e)
		}
	}
}

// P14.3: errors, in their order
func TestParseErrors(t *testing.T) {
	s := scope(fields("in"), fields("p"), header("h", "b", "c"), header("meta", "b"), header("h", "d"))
	long := strings.Repeat(" ", api.MaxText)
	for text, want := range map[string]api.Errno{
		"":                          api.ErrShort,
		"  # h.b":                   api.ErrShort,
		"$":                         api.ErrSyntax,
		") $":                       api.ErrSyntax,
		") 4294967296":              api.ErrRange, // the lexer's error comes ahead of the parser's
		"x.x " + longName + "x":     api.ErrLong,
		"h.x 4294967296":            api.ErrRange,
		"h.b + 007":                 api.ErrSyntax,
		long:                        api.ErrShort,
		long + " ":                  api.ErrLong,
		strings.Repeat(") ", 4096):  api.ErrSyntax,
		strings.Repeat(") ", 4097):  api.ErrLimit,
		"h.b +":                     api.ErrShort,
		"h.b + )":                   api.ErrSyntax,
		"h.x":                       api.ErrNotFound,
		"h.x h.b":                   api.ErrNotFound,
		"h.d":                       api.ErrNotFound,
		"h.b + 5:4":                 api.ErrWidth,
		"h.b + 5:4 h.b":             api.ErrWidth,
		"h.b h.c":                   api.ErrLong,
		"h.b )":                     api.ErrLong,
		"h.b  h.c":                  api.ErrLong,
		"h.b + h.c + h.b":           api.ErrLong,
		"~h.b + h.c":                api.ErrLong,
		"(h.b) )":                   api.ErrLong,
		"valid(meta) )":             api.ErrLong,
		"valid(meta)":               api.ErrFormat,
		"(h.b)":                     api.ErrFormat,
		"((h.b) + h.c)":             api.ErrFormat,
		"(h.b) + h.c":               api.ErrFormat,
		"h.b + (h.c)":               api.ErrFormat,
		"h.b + ((h.c + h.b))":       api.ErrFormat,
		"~(h.b)":                    api.ErrFormat,
		"~ h.b":                     api.ErrFormat,
		" h.b":                      api.ErrFormat,
		"h.b ":                      api.ErrFormat,
		"h.b\n":                     api.ErrFormat,
		"h.b # h":                   api.ErrFormat,
		"h . b":                     api.ErrFormat,
		"h.b+h.c":                   api.ErrFormat,
		"h.b  + h.c":                api.ErrFormat,
		"h.b +\th.c":                api.ErrFormat,
		"h.b<<2":                    api.ErrFormat,
		"h.b << 0x2":                api.ErrFormat,
		"h.b [0+1]":                 api.ErrFormat,
		"h.b[0 + 1]":                api.ErrFormat,
		"h.b[0x0+1]":                api.ErrFormat,
		"0x5:8":                     api.ErrFormat,
		"5:0x8":                     api.ErrFormat,
		"5 : 8":                     api.ErrFormat,
		"@ p":                       api.ErrFormat,
		"valid (h)":                 api.ErrFormat,
		"valid( h )":                api.ErrFormat,
		"1:1?h.b:h.c":               api.ErrFormat,
		"1:1 ? h.b: h.c":            api.ErrFormat,
		"valid(h) ? (h.b) : h.c":    api.ErrFormat,
		"(valid(h)) ? h.b : h.c":    api.ErrFormat,
		"(valid(h) ? h.b : h.c)":    api.ErrFormat,
		"(h.b < h.c) ? h.b : (h.c)": api.ErrFormat,
	} {
		if n, e := exprtext.Parse(text, s); len(n) > 0 || e != want {
			t.Errorf("Parse(%.40q) = %v, %v, want %v", text, n, e, want)
		}
	}
}

// names answers distinct names.
func names(r *random, n int) []string {
	var l []string
	for len(l) < n {
		name := []string{"a", "Z", "meta", "valid", longName, "x_", "h", "b9", "in"}[r.below(9)] + strings.Repeat("q", r.below(4))
		if len(name) <= api.MaxName && !slices.Contains(l, name) {
			l = append(l, name)
		}
	}
	return l
}

// anyScope has a header of two fields of every width from 1 to 4, and metadata and parameters of these widths.
func anyScope(r *random) expr.Scope {
	widths := func(l []api.Field, w int) []api.Field {
		for i := range l {
			l[i].Width = min(w+i*w, 32)
		}
		return l
	}
	s := scope(fields(names(r, 4)...), fields(names(r, 4)...))
	widths(s.Program.Metadata, 1)
	widths(s.Params, 1)
	for i, name := range names(r, 5) {
		if name != "meta" && len(s.Program.Headers) < 4 {
			s.Program.Headers = append(s.Program.Headers, api.Header{Name: name, Fields: widths(fields(names(r, 2)...), i+1)})
		}
	}
	return s
}

// grow answers an expression of at most size nodes that fits the scope; what doesn't come out valid is tried again.
func grow(r *random, s expr.Scope, size int) []api.ExprNode {
	for {
		var n []api.ExprNode
		for missing := 1; missing > 0 && len(n) <= size; missing-- {
			x := anyNode(r, s)
			n = append(n, x)
			switch {
			case x.Op == api.ExprIf:
				missing += 3
			case x.Op >= api.ExprAdd:
				missing += 2
			case x.Op >= api.ExprNot:
				missing++
			}
		}
		if _, e := expr.Check(n, s); e == api.OK {
			return n
		}
	}
}

func anyNode(r *random, s expr.Scope) api.ExprNode {
	w := 1 + r.below(4)
	switch o := 1 + r.below(17+8); o {
	case api.ExprField:
		if h := r.below(len(s.Program.Headers)+1) - 1; h >= 0 {
			return fld(h, r.below(2))
		}
		return fld(-1, r.below(4))
	case api.ExprParam, api.ExprValid:
		return nd(o, r.below(4), 0)
	case api.ExprShl, api.ExprShr:
		return nd(o, r.below(32), 0)
	case api.ExprSlice:
		return nd(o, r.below(3), w)
	case api.ExprNot, api.ExprAdd, api.ExprSub, api.ExprAnd, api.ExprOr, api.ExprXor, api.ExprConcat, api.ExprEqual, api.ExprLess, api.ExprIf:
		return op(o)
	}
	return con(r.below(1<<w), w)
}

// loosened inserts separators between the tokens of a text, and parentheses around its operands.
func loosened(r *random, l []lexer.Token, operands []int) string {
	var b strings.Builder
	ends := map[int]int{}
	for i, token := range l {
		if end := operands[i]; end > 0 {
			extra := r.below(3)
			b.WriteString(strings.Repeat("( ", extra))
			ends[end] += extra
		}
		b.WriteString(token.Text)
		b.WriteString([]string{" ", "\n", "\t ", " # a comment ~\n", "  "}[r.below(5)])
		b.WriteString(strings.Repeat(") ", ends[i+1]))
	}
	return b.String()
}

// operandEnds answers for each token of a canonical text the index behind the operand that begins there, or 0.
// An operand begins at the first token of a primary or at a parenthesis.
func operandEnds(l []lexer.Token) []int {
	ends := make([]int, len(l)+1)
	for i := 0; i < len(l); i++ {
		isName, isValid := l[i].Kind == lexer.TokenName, l[i].Text == "valid" && i+1 < len(l) && l[i+1].Text == "("
		switch {
		case isValid:
			ends[i], i = i+4, i+3
		case isName || l[i].Kind == lexer.TokenNumber && i+1 < len(l) && l[i+1].Text == ":":
			ends[i], i = i+3, i+2
		case l[i].Text == "@":
			ends[i], i = i+2, i+1
		case l[i].Text == "[":
			i += 4
		case l[i].Text == "<<" || l[i].Text == ">>":
			i++
		}
	}
	return ends
}

// P14.4: what Format writes is read back, also with separators and parentheses put in.
func TestRoundTrip(t *testing.T) {
	r := random(8)
	used := map[int]bool{}
	for range 20000 {
		s := anyScope(&r)
		n := grow(&r, s, 1+r.below(api.MaxExpr))
		for _, x := range n {
			used[x.Op] = true
		}
		text, e := exprtext.Format(n, s)
		if e != api.OK {
			t.Fatalf("Format(%v) of %v: %v", n, s, e)
		}
		if got, e := exprtext.Parse(text, s); e != api.OK || !slices.Equal(got, n) {
			t.Fatalf("Parse(%q) = %v, %v, want %v", text, got, e, n)
		}
		l := tokens(t, text)
		expectTokens(t, l, s, n, len(l), api.OK)
		wide := loosened(&r, l, operandEnds(l))
		l = tokens(t, wide)
		expectTokens(t, l, s, n, len(l), api.OK)
		if got, e := exprtext.Parse(wide, s); e != api.ErrFormat || len(got) > 0 {
			t.Fatalf("Parse(%q) = %v, %v", wide, got, e)
		}
	}
	if len(used) != api.ExprIf {
		t.Errorf("only the operators %v are tried", used)
	}
}

// P14.1, P14.4: every expression that Check takes is read back or refused for a name, whatever the names are.
func TestRoundTripAnyNames(t *testing.T) {
	r := random(9)
	anyName := func() string {
		if r.below(6) == 0 {
			return wrongNames[r.below(len(wrongNames))]
		}
		return []string{"a", "b", "meta", "valid", "h"}[r.below(5)]
	}
	counts := map[api.Errno]int{}
	for range 20000 {
		s := anyScope(&r)
		rename := func(l []api.Field) {
			for i := range l {
				l[i].Name = anyName()
			}
		}
		rename(s.Program.Metadata)
		rename(s.Params)
		for i := range s.Program.Headers {
			s.Program.Headers[i].Name = anyName()
			rename(s.Program.Headers[i].Fields)
		}
		n := grow(&r, s, 1+r.below(6))
		text, e := exprtext.Format(n, s)
		counts[e]++
		switch e {
		case api.OK:
			if got, e := exprtext.Parse(text, s); e != api.OK || !slices.Equal(got, n) {
				t.Fatalf("Parse(%q) = %v, %v, want %v", text, got, e, n)
			}
		case api.ErrName:
			if text != "" {
				t.Fatalf("Format(%v) = %q, %v", n, text, e)
			}
		default:
			t.Fatalf("Format(%v) = %q, %v", n, text, e)
		}
	}
	if counts[api.OK] < 1000 || counts[api.ErrName] < 1000 {
		t.Errorf("counts %v", counts)
	}
}

// P14.2, P14.3: any tokens and texts end, and what is answered beside an error is zero.
func TestGarbage(t *testing.T) {
	r := random(10)
	s := plain()
	words := []string{"h", "valid", "meta", "x", "p", "b", "in", "1", "8", "0x2", ":", ".", "@", "(", ")", "~", "<<", ">>", "[", "]", "+", "-", "&", "|", "^", "++", "==", "<", "?", ";", "$", "99999999999"}
	for range 100000 {
		var l []string
		for range r.below(12) {
			l = append(l, words[r.below(len(words))])
		}
		text := strings.Join(l, " ")
		n, e := exprtext.Parse(text, s)
		if (e == api.OK) != (len(n) > 0) {
			t.Fatalf("Parse(%q) = %v, %v", text, n, e)
		}
		all, _, fault := lexer.Tokenize(text)
		if fault != api.OK && e != fault {
			t.Fatalf("Parse(%q) = %v, but Tokenize says %v", text, e, fault)
		}
		for at := range len(all) + 1 {
			n, next, e := exprtext.ParseTokens(all, at, s)
			switch {
			case e != api.OK && (len(n) > 0 || next != 0):
				t.Fatalf("ParseTokens(%q, %d) = %v, %d, %v", text, at, n, next, e)
			case e == api.OK && (next <= at || next > len(all)):
				t.Fatalf("ParseTokens(%q, %d) = %v, %d", text, at, n, next)
			case e == api.OK:
				if _, e := expr.Check(n, s); e != api.OK {
					t.Fatalf("ParseTokens(%q, %d) = %v, which Check refuses: %v", text, at, n, e)
				}
			}
		}
	}
}

// General rule 4: what is answered is memory of its own.
func TestOwnMemory(t *testing.T) {
	s := plain()
	l := tokens(t, "h.b + (h.c - @p)")
	want := list(op(api.ExprAdd), fld(0, 0), op(api.ExprSub), fld(0, 1), par(0))
	for range 2 {
		n, _, _ := exprtext.ParseTokens(l, 0, s)
		if !slices.Equal(n, want) {
			t.Fatalf("ParseTokens = %v", n)
		}
		clear(n[:cap(n)])
		n, _ = exprtext.Parse("h.b + (h.c - @p)", s)
		if !slices.Equal(n, want) {
			t.Fatalf("Parse = %v", n)
		}
		clear(n[:cap(n)])
	}
}
