package lexer_test

import (
	"regexp"
	"slices"
	"strconv"
	"strings"
	"testing"
	"unsafe"

	"patchbay/api"
	"patchbay/lexer"
)

const allSymbols = "<= << >> == && || ++ -> := ( ) [ ] { } , ; : . < > + - & | ^ ~ ! * / = ? @ %"

func symbols() []string { return strings.Fields(allSymbols) }

func name(text string, line int) lexer.Token {
	return lexer.Token{Kind: lexer.TokenName, Text: text, Line: line}
}

func number(text string, value uint32, line int) lexer.Token {
	return lexer.Token{Kind: lexer.TokenNumber, Text: text, Value: value, Line: line}
}

func symbol(text string, line int) lexer.Token {
	return lexer.Token{Kind: lexer.TokenSymbol, Text: text, Line: line}
}

func expectTokens(t *testing.T, s string, want ...lexer.Token) {
	t.Helper()
	l, line, e := lexer.Tokenize(s)
	if line != 0 || e != api.OK || !slices.Equal(l, want) {
		t.Errorf("Tokenize(%.60q) = %.200v, %d, %v, want %.200v", s, l, line, e, want)
	}
}

func expectError(t *testing.T, s string, wantLine int, want api.Errno) {
	t.Helper()
	l, line, e := lexer.Tokenize(s)
	if len(l) != 0 || line != wantLine || e != want {
		t.Errorf("Tokenize(%.60q): %d tokens, line %d, %v, want line %d, %v", s, len(l), line, e, wantLine, want)
	}
}

// P5.1: the kinds have the numbers that the chapter gives them.
func TestKinds(t *testing.T) {
	if lexer.TokenName != 1 || lexer.TokenNumber != 2 || lexer.TokenSymbol != 3 {
		t.Error("the kinds of tokens")
	}
}

// P5.1
func TestTokenize(t *testing.T) {
	expectTokens(t, "a1<=0x1f # x", name("a1", 1), symbol("<=", 1), number("0x1f", 31, 1))
	expectTokens(t, "x_1 := 0x1f # c\n a->b<=7",
		name("x_1", 1), symbol(":=", 1), number("0x1f", 31, 1),
		name("a", 2), symbol("->", 2), name("b", 2), symbol("<=", 2), number("7", 7, 2))
	expectTokens(t, "if(A&&bZ_9){out=3;}",
		name("if", 1), symbol("(", 1), name("A", 1), symbol("&&", 1), name("bZ_9", 1), symbol(")", 1),
		symbol("{", 1), name("out", 1), symbol("=", 1), number("3", 3, 1), symbol(";", 1), symbol("}", 1))
}

// P5.1: texts without a token.
func TestTokenizeNothing(t *testing.T) {
	for _, s := range []string{"", " ", "\t", "\n", " \t\n\n\t ", "#", "# $ \x00 é", "##", "#\n", "#\n#", "\n# 00 \n\t#q"} {
		expectTokens(t, s)
	}
}

// P5.1: comments end at the end of their line or of the text, and separate tokens.
func TestComments(t *testing.T) {
	expectTokens(t, "a#b\nc", name("a", 1), name("c", 2))
	expectTokens(t, "a#", name("a", 1))
	expectTokens(t, "a # $ 00 \x80\xff\r ## '", name("a", 1))
	expectTokens(t, "1#2\n3#", number("1", 1, 1), number("3", 3, 2))
	expectTokens(t, "<#\n=", symbol("<", 1), symbol("=", 2))
	expectTokens(t, "#a\n#b\n\n#c\nd", name("d", 5))
	expectTokens(t, "a # b # c\nd # e", name("a", 1), name("d", 2))
	expectTokens(t, "# "+strings.Repeat("q", api.MaxName+1)+"\nx", name("x", 2))
}

// P5.1: line numbers behind newlines and comments; only newlines end lines.
func TestLines(t *testing.T) {
	expectTokens(t, "a\nb\n\nc", name("a", 1), name("b", 2), name("c", 4))
	expectTokens(t, "\n\n7 8\t9\n", number("7", 7, 3), number("8", 8, 3), number("9", 9, 3))
	expectTokens(t, "a # x\n# y\n;# z", name("a", 1), symbol(";", 3))
	expectTokens(t, strings.Repeat("\n", api.MaxText-1)+"z", name("z", api.MaxText))
}

// P5.1: every symbol by itself and behind and ahead of other tokens.
func TestSymbols(t *testing.T) {
	if len(symbols()) != 34 {
		t.Fatalf("%d symbols", len(symbols()))
	}
	for _, s := range symbols() {
		expectTokens(t, s, symbol(s, 1))
		expectTokens(t, "a"+s+"0", name("a", 1), symbol(s, 1), number("0", 0, 1))
		expectTokens(t, s+" "+s+"\n"+s+"#", symbol(s, 1), symbol(s, 1), symbol(s, 2))
	}
}

// longestMatches cuts a text of symbols by the words of the chapter.
func longestMatches(s string) []lexer.Token {
	var l []lexer.Token
	for s != "" {
		longest := ""
		for _, x := range symbols() {
			if strings.HasPrefix(s, x) && len(x) > len(longest) {
				longest = x
			}
		}
		l = append(l, symbol(longest, 1))
		s = s[len(longest):]
	}
	return l
}

// P5.1: symbols of which one begins another, or that overlap: all runs of up to three symbols.
func TestLongestMatch(t *testing.T) {
	for _, a := range symbols() {
		for _, b := range symbols() {
			expectTokens(t, a+b, longestMatches(a+b)...)
			for _, c := range symbols() {
				expectTokens(t, a+b+c, longestMatches(a+b+c)...)
			}
		}
	}
	expectTokens(t, "<<=", symbol("<<", 1), symbol("=", 1))
	expectTokens(t, "<=>", symbol("<=", 1), symbol(">", 1))
	expectTokens(t, "-->", symbol("-", 1), symbol("->", 1))
	expectTokens(t, "+++", symbol("++", 1), symbol("+", 1))
	expectTokens(t, "::=", symbol(":", 1), symbol(":=", 1))
	expectTokens(t, "!=>=", symbol("!", 1), symbol("=", 1), symbol(">", 1), symbol("=", 1))
	expectTokens(t, "< =", symbol("<", 1), symbol("=", 1))
}

// P5.1: numbers that have a value.
func TestNumbers(t *testing.T) {
	for text, value := range map[string]uint32{
		"0": 0, "1": 1, "9": 9, "10": 10, "999999999": 999999999, "4294967295": 4294967295,
		"0x0": 0, "0x00000000": 0, "0x00000001": 1, "0xa": 10, "0x1f": 31, "0xffffffff": 4294967295, "0xdeadbeef": 0xdeadbeef,
	} {
		expectTokens(t, text, number(text, value, 1))
		expectTokens(t, "("+text+")", symbol("(", 1), number(text, value, 1), symbol(")", 1))
		expectTokens(t, text+" "+text, number(text, value, 1), number(text, value, 1))
	}
	expectTokens(t, "-1", symbol("-", 1), number("1", 1, 1))
	expectTokens(t, "1.5", number("1", 1, 1), symbol(".", 1), number("5", 5, 1))
	expectTokens(t, "a1 b", name("a1", 1), name("b", 1))
}

// P5.1: numbers of the right form that are too great.
func TestNumbersTooGreat(t *testing.T) {
	for _, s := range []string{"4294967296", "9999999999", "10000000000", "99999999999999999999999999", "18446744073709551616",
		"0x100000000", "0x000000000", "0x000000001", "0x123456789", "0xffffffffff", "0x0123456789abcdef0"} {
		expectError(t, s, 1, api.ErrRange)
		expectError(t, "a\n "+s+";", 2, api.ErrRange)
	}
	expectError(t, strings.Repeat("1", api.MaxText), 1, api.ErrRange)
	expectError(t, "0x"+strings.Repeat("0", api.MaxText-2), 1, api.ErrRange)
}

// P5.1: numbers of no right form, be they too great or not.
func TestNumbersMalformed(t *testing.T) {
	for _, s := range []string{"00", "01", "007", "0123456789012", "12a", "1a2", "1x", "0b1", "0a", "0x", "0X1", "0X", "0xg", "0x1g", "0x1G", "0xFF", "0xfF",
		"0x1x", "0x0x1", "1e5", "9z", "9Z", "0Z", "00x1", "1x0", "4294967296a", "99999999999z", "0x12345678g", "0x123456789A", "0x123456789abcdefg", "04294967296"} {
		expectError(t, s, 1, api.ErrSyntax)
		expectError(t, "a\n\n "+s+" b", 3, api.ErrSyntax)
	}
}

// P5.1: each letter and each digit goes on a number, and no other byte does.
func TestNumberExtent(t *testing.T) {
	expectError(t, "12_3", 1, api.ErrSyntax)
	for c := range 256 {
		s := "1" + string([]byte{byte(c)}) + "9"
		letter := c >= 'a' && c <= 'z' || c >= 'A' && c <= 'Z'
		l, line, e := lexer.Tokenize(s)
		switch {
		case c >= '0' && c <= '9':
			expectTokens(t, s, number(s, uint32(109+10*(c-'0')), 1))
		case letter || !separates(byte(c)) && !strings.ContainsRune(allSymbols, rune(c)):
			expectError(t, s, 1, api.ErrSyntax)
		default:
			if e != api.OK || line != 0 || len(l) == 0 || l[0] != number("1", 1, 1) {
				t.Errorf("Tokenize(%q) = %v, %d, %v", s, l, line, e)
			}
		}
	}
}

func separates(c byte) bool { return c == ' ' || c == '\t' || c == '\n' || c == '#' }

// P5.1: each single byte.
func TestBytes(t *testing.T) {
	for i := range 256 {
		c := byte(i)
		s := string([]byte{c})
		switch {
		case separates(c):
			expectTokens(t, s)
		case c >= 'a' && c <= 'z' || c >= 'A' && c <= 'Z':
			expectTokens(t, s, name(s, 1))
		case c >= '0' && c <= '9':
			expectTokens(t, s, number(s, uint32(c-'0'), 1))
		case slices.Contains(symbols(), s):
			expectTokens(t, s, symbol(s, 1))
		default:
			expectError(t, s, 1, api.ErrSyntax)
			expectError(t, "ab 1\n:"+s+"a", 2, api.ErrSyntax)
		}
	}
}

// P5.1: bytes that look like spaces or letters and are none.
func TestBytesThatStartNoToken(t *testing.T) {
	for _, s := range []string{"$", "_", "_a", "'", "\"", "`", "\\", "\r", "\v", "\f", "\x00", "\x7f", "\u00a0", "é", "\u03b1", "\ufeff", "\x80", "\xff"} {
		expectError(t, s, 1, api.ErrSyntax)
		expectError(t, "a"+strings.Repeat("\n", 4)+" "+s, 5, api.ErrSyntax)
	}
	expectError(t, "a\r\nb", 1, api.ErrSyntax)
	expectError(t, "aé", 1, api.ErrSyntax)
}

// P5.1: identifiers at their limit and one beyond.
func TestLongNames(t *testing.T) {
	for _, fill := range []string{"q", "Z", "0", "_"} {
		most := "a" + strings.Repeat(fill, api.MaxName-1)
		expectTokens(t, most, name(most, 1))
		expectTokens(t, most+":"+most, name(most, 1), symbol(":", 1), name(most, 1))
		expectError(t, most+fill, 1, api.ErrLong)
		expectError(t, "\n\n"+most+fill+";", 3, api.ErrLong)
	}
	expectError(t, strings.Repeat("q", api.MaxText), 1, api.ErrLong)
}

// P5.1: texts at their limit and one beyond; that the text is too long is told ahead of all else.
func TestLongTexts(t *testing.T) {
	expectTokens(t, strings.Repeat(" ", api.MaxText))
	expectTokens(t, strings.Repeat(" ", api.MaxText-1)+"a", name("a", 1))
	expectTokens(t, "a#"+strings.Repeat("$", api.MaxText-2), name("a", 1))
	expectError(t, strings.Repeat(" ", api.MaxText+1), 0, api.ErrLong)
	expectError(t, strings.Repeat("\n", api.MaxText)+"a", 0, api.ErrLong)
	expectError(t, "$"+strings.Repeat(" ", api.MaxText), 0, api.ErrLong)
	expectError(t, strings.Repeat(";", api.MaxText+1), 0, api.ErrLong)
	expectError(t, strings.Repeat("q", api.MaxText+1), 0, api.ErrLong)
	expectError(t, strings.Repeat(";", 3*api.MaxText), 0, api.ErrLong)
	// The limit counts bytes, not characters.
	expectError(t, "#"+strings.Repeat("é", api.MaxText/2), 0, api.ErrLong)
	expectTokens(t, "#"+strings.Repeat("é", api.MaxText/2-1))
}

// P5.1: as many tokens as there may be, and one more of each kind, or an invalid byte; all are told as one too many.
func TestTokenLimit(t *testing.T) {
	full := strings.Repeat(";\n", api.MaxTokens)
	for _, rest := range []string{"", " ", "\n\t\n", "#", "# a ; $\n", "#\n#"} {
		l, line, e := lexer.Tokenize(full + rest)
		if len(l) != api.MaxTokens || line != 0 || e != api.OK || l[api.MaxTokens-1] != symbol(";", api.MaxTokens) {
			t.Errorf("Tokenize of the most tokens and %q: %d tokens, %d, %v", rest, len(l), line, e)
		}
	}
	for _, rest := range []string{";", "a", "1", "$", "\x00", "é", "_", "00", "0x", "12a", "4294967296", strings.Repeat("q", api.MaxName+1), ";;", "; $"} {
		expectError(t, full+rest, api.MaxTokens+1, api.ErrLimit)
		expectError(t, full+" # x\n\n"+rest, api.MaxTokens+3, api.ErrLimit)
		expectError(t, strings.Repeat(";", api.MaxTokens)+rest, 1, api.ErrLimit)
	}
	expectError(t, strings.Repeat("<", api.MaxTokens*2)+";", 1, api.ErrLimit)
	expectTokens(t, strings.Repeat("<=", 3), symbol("<=", 1), symbol("<=", 1), symbol("<=", 1))
}

// P5.1: an error of the last token that there may be is that token's own.
func TestErrorsOfTheLastToken(t *testing.T) {
	almost := strings.Repeat(";", api.MaxTokens-1)
	expectError(t, almost+"$", 1, api.ErrSyntax)
	expectError(t, almost+"\n00", 2, api.ErrSyntax)
	expectError(t, almost+strings.Repeat("q", api.MaxName+1), 1, api.ErrLong)
	expectError(t, almost+"4294967296;", 1, api.ErrRange)
	expectError(t, almost+"<=;", 1, api.ErrLimit)
}

// P5.1: the first error of the text is the one that is told.
func TestFirstError(t *testing.T) {
	long := strings.Repeat("q", api.MaxName+1)
	faults := map[string]api.Errno{"$": api.ErrSyntax, "00": api.ErrSyntax, "12a": api.ErrSyntax, "4294967296": api.ErrRange, "0x123456789": api.ErrRange, long: api.ErrLong}
	for a, code := range faults {
		for b := range faults {
			expectError(t, "x "+a+" "+b, 1, code)
			expectError(t, "x\n"+a+"\n"+b, 2, code)
			expectError(t, a+"\n"+b, 1, code)
		}
		expectError(t, a+strings.Repeat(" ;", api.MaxTokens+1), 1, code)
	}
}

// pieces are what pseudo-random texts are made of.
func pieces() []string {
	return append(symbols(), " ", " ", "\t", "\n", "\n", "#", "a", "Z", "x", "g", "_", "0", "0x", "1", "9", "ff", "00", "abc_1", "4294967295", "4294967296", "0xffffffff", "0x1ffffffff",
		"longlonglonglong", "longlonglonglon", "$", "é")
}

// mixed answers a text of n pieces that looks like no rule, the same one for the same seed. Only the first kinds of pieces come up.
func mixed(n, kinds int, seed uint32) string {
	l := pieces()
	var s strings.Builder
	for range n {
		seed = seed*1664525 + 1013904223
		s.WriteString(l[int(seed>>8)%min(kinds, len(l))])
	}
	return s.String()
}

// wantTokens cuts a text by patterns, with the numbers read by the library. It knows no limit of the number of tokens.
func wantTokens(s string) ([]lexer.Token, int, api.Errno) {
	patterns := []*regexp.Regexp{
		regexp.MustCompile(`^(?:[ \t\n]|#[^\n]*)+`),
		regexp.MustCompile(`^[a-zA-Z][a-zA-Z0-9_]*`),
		regexp.MustCompile(`^[0-9][a-zA-Z0-9]*`),
		regexp.MustCompile(`^(?:<=|<<|>>|==|&&|\|\||\+\+|->|:=|[][(){},;:.<>+&|^~!*/=?@%-])`),
	}
	decimal := regexp.MustCompile(`^(?:0|[1-9][0-9]*)$`)
	hexadecimal := regexp.MustCompile(`^0x[0-9a-f]+$`)
	var l []lexer.Token
	line := 1
	for s != "" {
		kind, text := -1, ""
		for k, p := range patterns {
			if m := p.FindString(s); m != "" {
				kind, text = k, m
			}
		}
		token := lexer.Token{Kind: kind, Text: text, Line: line}
		switch {
		case kind < 0:
			return nil, line, api.ErrSyntax
		case kind == lexer.TokenName && len(text) > 16:
			return nil, line, api.ErrLong
		case kind == lexer.TokenNumber && !decimal.MatchString(text) && !hexadecimal.MatchString(text):
			return nil, line, api.ErrSyntax
		case kind == lexer.TokenNumber:
			v, err := strconv.ParseUint(text, 0, 32)
			if err != nil || hexadecimal.MatchString(text) && len(text) > 10 {
				return nil, line, api.ErrRange
			}
			token.Value = uint32(v)
		}
		if kind > 0 {
			l = append(l, token)
		}
		line += strings.Count(text, "\n")
		s = s[len(text):]
	}
	return l, 0, api.OK
}

// P5.1: pseudo-random texts, cut by the test's own patterns.
func TestMixedTexts(t *testing.T) {
	good, bad := 0, 0
	for seed := range uint32(12000) {
		s := mixed(1+int(seed%40), len(pieces())-int(seed%12), seed)
		want, wantLine, wantError := wantTokens(s)
		l, line, e := lexer.Tokenize(s)
		if !slices.Equal(l, want) || line != wantLine || e != wantError {
			t.Fatalf("Tokenize(%q) = %v, %d, %v, want %v, %d, %v", s, l, line, e, want, wantLine, wantError)
		}
		if e == api.OK {
			good++
		} else {
			bad++
		}
	}
	if good < 1000 || bad < 1000 {
		t.Errorf("%d texts are right and %d are wrong", good, bad)
	}
}

// P5.1: what a call answers is its own.
func TestTokenizeFresh(t *testing.T) {
	const s = "a := 5"
	first, _, _ := lexer.Tokenize(s)
	for i := range first {
		first[i] = name("spoilt", 9)
	}
	expectTokens(t, s, name("a", 1), symbol(":=", 1), number("5", 5, 1))
}

// P5.1: the texts of the tokens are no pieces of the argument.
func TestTokenizeKeepsNothing(t *testing.T) {
	s := strings.Repeat("name := 12345\n", 3)
	from := uintptr(unsafe.Pointer(unsafe.StringData(s)))
	l, _, _ := lexer.Tokenize(s)
	if len(l) != 9 {
		t.Fatalf("%d tokens", len(l))
	}
	for i, token := range l {
		if at := uintptr(unsafe.Pointer(unsafe.StringData(token.Text))); at >= from && at < from+uintptr(len(s)) {
			t.Errorf("the text of token %d is a piece of the source", i)
		}
	}
}

// P5.2
func TestIsIdentifier(t *testing.T) {
	for _, s := range []string{"a", "Z", "a_9", "x1", "A__", "z_", "abcdefghijklmnop", "a000000000000000", "if", "x0x"} {
		if !lexer.IsIdentifier(s) {
			t.Errorf("IsIdentifier(%q) = false", s)
		}
	}
	for _, s := range []string{"", "_", "_a", "9", "9a", "0x1", "abcdefghijklmnopq", strings.Repeat("a", 1000), " a", "a ", "a b", "a-b", "a.b", "a\n", "\na", "a#", "é", "aé", "a\x00", "\x00", "\u0430", "$a", "a$"} {
		if lexer.IsIdentifier(s) {
			t.Errorf("IsIdentifier(%q) = true", s)
		}
	}
}

// P5.2: each byte as the first, a middle and the last one, and each length.
func TestIsIdentifierBytes(t *testing.T) {
	for i := range 256 {
		c := byte(i)
		letter := c >= 'a' && c <= 'z' || c >= 'A' && c <= 'Z'
		other := letter || c >= '0' && c <= '9' || c == '_'
		s := string([]byte{c})
		if lexer.IsIdentifier(s) != letter || lexer.IsIdentifier(s+"a") != letter {
			t.Errorf("IsIdentifier with the first byte %d", c)
		}
		if lexer.IsIdentifier("a"+s+"b") != other || lexer.IsIdentifier("ab"+s) != other {
			t.Errorf("IsIdentifier with the later byte %d", c)
		}
	}
	for n := range 40 {
		if got := lexer.IsIdentifier(strings.Repeat("b", n)); got != (n >= 1 && n <= api.MaxName) {
			t.Errorf("IsIdentifier of %d letters = %v", n, got)
		}
	}
}

// P5.1, P5.2: the identifiers are the texts that are one name.
func TestIdentifiersAreNames(t *testing.T) {
	for seed := range uint32(4000) {
		s := mixed(1+int(seed%4), len(pieces()), seed)
		l, _, e := lexer.Tokenize(s)
		is := e == api.OK && len(l) == 1 && l[0] == name(s, 1)
		if lexer.IsIdentifier(s) != is {
			t.Errorf("IsIdentifier(%q) = %v", s, !is)
		}
	}
}

// joined puts the texts of the tokens together with a separator between each two of them.
func joined(l []lexer.Token, separator func(i int) string) string {
	var s strings.Builder
	for i, token := range l {
		if i > 0 {
			s.WriteString(separator(i))
		}
		s.WriteString(token.Text)
	}
	return s.String()
}

func withLines(l []lexer.Token, line func(i int) int) []lexer.Token {
	l = slices.Clone(l)
	for i := range l {
		l[i].Line = line(i)
	}
	return l
}

// P5.3: spaces, newlines, and both in turn.
func TestSeparators(t *testing.T) {
	texts := []string{"", "a", "a1<=0x1f # x", "x_1 := 0x1f # c\n a->b<=7", "<<=>>==&&&|||+++-->::=", "a#b\n\n c<d", strings.Repeat("ab;", api.MaxTokens/2)}
	for seed := range uint32(3000) {
		texts = append(texts, mixed(1+int(seed%30), len(pieces())-2, seed))
	}
	tried := 0
	for _, s := range texts {
		l, _, e := lexer.Tokenize(s)
		if e != api.OK {
			continue
		}
		tried++
		spaces := joined(l, func(int) string { return " " })
		expectTokens(t, spaces, withLines(l, func(int) int { return 1 })...)
		newlines := joined(l, func(int) string { return "\n" })
		expectTokens(t, newlines, withLines(l, func(i int) int { return i + 1 })...)
		both := joined(l, func(i int) string { return " \n"[i%2 : i%2+1] })
		expectTokens(t, both, withLines(l, func(i int) int { return 1 + (i+1)/2 })...)
	}
	if tried < 300 {
		t.Errorf("only %d texts are right", tried)
	}
}
