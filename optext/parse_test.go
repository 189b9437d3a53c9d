package optext_test

import (
	"slices"
	"strings"
	"testing"

	"patchbay/api"
	"patchbay/lexer"
	"patchbay/program"
)

// P29.2, P29.4: the texts of operations of each kind
func TestParse(t *testing.T) {
	for s, o := range sampleOps() {
		expectParse(t, sample(), s, o, api.OK)
		if want, e := wantParse(sample(), s); !same(o, want) || e != api.OK {
			t.Errorf("the tests' own reading of %q: %+v, %v", s, want, e)
		}
	}
}

// P29.2: the chapter's example 1
func TestExampleOfParse(t *testing.T) {
	p := sample()
	p.Tables[exactly].Name = "path"
	expectParse(t, p, "delete path 7", remove(exactly, 7), api.OK)
	expectCode(t, p, "delete  path 7", api.ErrFormat)
	expectCode(t, p, "delete path", api.ErrSyntax)
	expectCode(t, p, "delete other 7", api.ErrNotFound)
	expectCode(t, p, "delete path 0", api.ErrRange)
}

// P29.2: tokens that the syntax doesn't allow, names that aren't declared, and what comes first of both
func TestParseSyntaxErrors(t *testing.T) {
	for s, code := range map[string]api.Errno{
		"": api.ErrSyntax, " ": api.ErrSyntax, "\n": api.ErrSyntax, "# delete exactly 7": api.ErrSyntax,
		"insert": api.ErrSyntax, "remove exactly 7": api.ErrSyntax, "Delete exactly 7": api.ErrSyntax, "exactly": api.ErrSyntax, "priority": api.ErrSyntax, "7": api.ErrSyntax, "-> exactly": api.ErrSyntax,
		"delete 7": api.ErrSyntax, "delete ->": api.ErrSyntax, "delete nothing": api.ErrNotFound, "delete none 7": api.ErrNotFound, "modify h": api.ErrNotFound, "insert p $": api.ErrSyntax, "insert priority 0": api.ErrNotFound, "default delete": api.ErrNotFound,
		"delete exactly": api.ErrSyntax, "delete exactly x": api.ErrSyntax, "delete exactly -1": api.ErrSyntax, "delete exactly 7 7": api.ErrSyntax, "delete exactly 7 -> none()": api.ErrSyntax, "delete nothing at all": api.ErrNotFound, "delete exactly 7\ndelete exactly 8": api.ErrSyntax,
		"modify exactly none()": api.ErrSyntax, "modify exactly 7 none()": api.ErrSyntax, "modify exactly 7 - > none()": api.ErrSyntax, "modify exactly 7 -> 7": api.ErrSyntax, "modify exactly 7 -> two()": api.ErrNotFound, "modify exactly 7 -> exactly()": api.ErrNotFound,
		"modify exactly 7 -> none": api.ErrSyntax, "modify exactly 7 -> none(": api.ErrSyntax, "modify exactly 7 -> none[]": api.ErrSyntax, "modify exactly 7 -> none)": api.ErrSyntax, "modify exactly 7 -> one(1": api.ErrSyntax, "modify exactly 7 -> one(1,": api.ErrSyntax, "modify exactly 7 -> one(1,)": api.ErrSyntax,
		"modify exactly 7 -> one(,1)": api.ErrSyntax, "modify exactly 7 -> one(,)": api.ErrSyntax, "modify exactly 7 -> one(1 1)": api.ErrSyntax, "modify exactly 7 -> one(1,,1)": api.ErrSyntax, "modify exactly 7 -> one(x)": api.ErrSyntax, "modify exactly 7 -> one(1, x)": api.ErrSyntax, "modify exactly 7 -> one(1))": api.ErrSyntax, "modify exactly 7 -> one(1);": api.ErrSyntax,
		"default exactly": api.ErrSyntax, "default exactly 7 -> none()": api.ErrSyntax, "default exactly none()": api.ErrSyntax, "default exactly ->": api.ErrSyntax, "default exactly -> none() x": api.ErrSyntax, "default nothing -> two()": api.ErrNotFound,
		"insert exactly": api.ErrSyntax, "insert exactly 7": api.ErrSyntax, "insert exactly 7/": api.ErrSyntax, "insert exactly /7": api.ErrSyntax, "insert exactly 7/x": api.ErrSyntax, "insert exactly 7/priority 7": api.ErrSyntax, "insert exactly 7 priority 7": api.ErrSyntax, "insert exactly 7/7": api.ErrSyntax, "insert exactly 7/7/7": api.ErrSyntax, "insert exactly 7/7, 7/7": api.ErrSyntax,
		"insert exactly priority": api.ErrSyntax, "insert exactly -> none()": api.ErrSyntax, "insert exactly priority -> none()": api.ErrSyntax, "insert exactly Priority 0": api.ErrSyntax, "insert exactly priority 0": api.ErrSyntax, "insert exactly priority 0 none()": api.ErrSyntax, "insert exactly priority 0 -> two()": api.ErrNotFound, "insert exactly priority 0/0 -> none()": api.ErrSyntax, "insert exactly priority x -> two()": api.ErrSyntax,
	} {
		expectCode(t, sample(), s, code)
	}
}

// P29.2: the lexer's errors go ahead of all that the tokens tell.
func TestParseTokenErrors(t *testing.T) {
	long := strings.Repeat("x", api.MaxName)
	for s, code := range map[string]api.Errno{
		"$": api.ErrSyntax, "delete exactly $": api.ErrSyntax, "delete nothing $": api.ErrSyntax, "delete exactly 7\r": api.ErrSyntax, "delete exactly 7é": api.ErrSyntax, "delete exactly 07": api.ErrSyntax, "delete exactly 7x": api.ErrSyntax, "delete exactly 0X7": api.ErrSyntax, "_": api.ErrSyntax,
		"delete exactly 4294967296": api.ErrRange, "exactly 4294967296": api.ErrRange, "delete nothing 0x100000000": api.ErrRange, "delete exactly 4294967295": api.ErrRange,
		"delete " + long: api.ErrNotFound, "delete x" + long: api.ErrLong, "x" + long: api.ErrLong, "7 x" + long: api.ErrLong, "delete nothing x" + long: api.ErrLong, "$ x" + long: api.ErrSyntax, "x" + long + " $": api.ErrLong,
		"x " + strings.Repeat(",", api.MaxTokens-1): api.ErrSyntax, "x " + strings.Repeat(",", api.MaxTokens): api.ErrLimit,
		"delete exactly 7" + strings.Repeat(" ", api.MaxText-16): api.ErrFormat, "delete exactly 7" + strings.Repeat(" ", api.MaxText-15): api.ErrLong,
	} {
		expectCode(t, sample(), s, code)
	}
}

// P29.2: any number of keys and arguments is read; Format then tells what is wrong.
func TestParseManyTokens(t *testing.T) {
	p := sample()
	for _, n := range []int{1, 2, 3, 7, 300, (api.MaxTokens - 8) / 3} {
		expectCode(t, p, "insert keyless"+strings.Repeat(" 1/1", n)+" priority 0 -> none()", api.ErrArg)
	}
	expectCode(t, p, "insert keyless"+strings.Repeat(" 1/1", api.MaxTokens/3)+" priority 0 -> none()", api.ErrLimit)
	for _, n := range []int{2, 5, 300, (api.MaxTokens - 6) / 2} {
		expectCode(t, p, "default keyless -> one(1"+strings.Repeat(", 1", n-1)+")", api.ErrArg)
	}
	expectCode(t, p, "default keyless -> one(1"+strings.Repeat(", 1", api.MaxTokens/2)+")", api.ErrLimit)
}

// P29.2: Format's errors for the operation read, also where its text isn't Format's
func TestParseFormatErrors(t *testing.T) {
	for s, code := range map[string]api.Errno{
		"insert exactly 5/255 priority 0 -> none()": api.ErrArg, "insert exactly priority 0 -> none()": api.ErrArg, "insert exactly 1/1 1/1 1/1 priority 0 -> none()": api.ErrArg,
		"insert exactly 256/255 0/127 priority 0 -> none()": api.ErrRange, "insert exactly 0/255 0/128 priority 0 -> none()": api.ErrRange, "insert exactly 0/255 0/4294967295 priority 0 -> none()": api.ErrRange,
		"insert insert 1/2 priority 0 -> priority(7)": api.ErrSyntax, "insert exactly 1/1 0/127 priority 0 -> none()": api.ErrKind, "insert exactly 1/255 0/127 priority 1 -> none()": api.ErrKind,
		"insert insert 1/1 priority 256 -> priority(7)": api.ErrRange, "insert insert 1/1 priority 4294967295 -> priority(7)": api.ErrRange, "insert insert 1/1 priority 0 -> none()": api.ErrNotFound, "insert insert 1/1 priority 0 -> priority()": api.ErrArg, "insert insert 1/1 priority 0 -> priority(8)": api.ErrRange,
		"modify exactly 0 -> none()": api.ErrRange, "modify exactly 1073741825 -> none()": api.ErrRange, "modify exactly 1 -> other()": api.ErrNotFound, "modify exactly 1 -> one()": api.ErrArg, "modify exactly 1 -> one(1, 1)": api.ErrArg, "modify exactly 1 -> one(256)": api.ErrRange, "modify exactly 0 -> other()": api.ErrRange,
		"delete exactly 1073741825": api.ErrRange, "delete exactly 4294967295": api.ErrRange, "delete  exactly  0": api.ErrRange, "default insert -> one(1)": api.ErrNotFound, "default insert->priority( )": api.ErrArg, "default insert -> priority(0x8)": api.ErrRange,
	} {
		expectCode(t, sample(), s, code)
	}
}

// otherForms answers texts that have the same tokens as s, or the same numbers in another form.
func otherForms(s string) []string {
	l := []string{" " + s, s + " ", s + "\n", "\n" + s, s + "\t", s + "#", s + " # x", "# x\n" + s}
	for i, c := range s {
		if c == ' ' {
			for _, space := range []string{"  ", "\t", "\n", "   ", " \t", " # x\n"} {
				l = append(l, s[:i]+space+s[i+1:])
			}
		}
		if strings.ContainsRune("/->(,)", c) {
			l = append(l, s[:i+1]+" "+s[i+1:], s[:i]+" "+s[i:])
		}
	}
	return append(l, strings.ReplaceAll(s, " -> ", "->"), strings.ReplaceAll(s, " ->", "->"), strings.ReplaceAll(s, "-> ", "->"), strings.ReplaceAll(s, ", ", ","))
}

// P29.2: texts that say the same as Format's
func TestParseOtherForms(t *testing.T) {
	met := 0
	for s := range sampleOps() {
		for _, other := range otherForms(s) {
			broken := strings.Contains(other, "- >")
			if other == s || broken {
				continue
			}
			met++
			expectCode(t, sample(), other, api.ErrFormat)
		}
	}
	if met < 400 {
		t.Errorf("%d texts", met)
	}
	for _, s := range []string{"delete exactly 0x7", "delete exactly 0x00000007", "modify exactly 0x1 -> none()", "modify exactly 1 -> one(0xff)", "insert insert 0x3/3 priority 9 -> priority(7)", "insert insert 3/0x3 priority 9 -> priority(7)", "insert insert 3/3 priority 0x09 -> priority(7)"} {
		expectCode(t, sample(), s, api.ErrFormat)
	}
}

// substitutes are the tokens that are put in the place of others.
var substitutes = strings.Fields("insert modify delete default priority exactly pattern prefix keyless none one four other p h nothing 0 1 7 255 256 0x7 4294967295 -> / ( ) , - > [ ] : $ 08")

// P29.2: every token of a text in turn left out, doubled, with others in its place or ahead of it, or with all behind it cut off
func TestChangedTokens(t *testing.T) {
	p, codes := sample(), map[api.Errno]int{}
	for s := range sampleOps() {
		tokens, _, _ := lexer.Tokenize(s)
		var texts []string
		for _, x := range tokens {
			texts = append(texts, x.Text)
		}
		try := func(l []string) { codes[expectAsTold(t, p, strings.Join(l, " "))]++ }
		for i := range texts {
			try(texts[:i])
			try(slices.Delete(slices.Clone(texts), i, i+1))
			for _, x := range append(substitutes, texts[i]) {
				try(slices.Insert(slices.Clone(texts), i, x))
				try(slices.Concat(texts[:i], []string{x}, texts[i+1:]))
				try(slices.Concat(texts[:i], []string{x}))
			}
		}
		for _, x := range substitutes {
			try(append(slices.Clone(texts), x))
		}
	}
	for _, e := range []api.Errno{api.ErrSyntax, api.ErrNotFound, api.ErrRange, api.ErrArg, api.ErrFormat} {
		if codes[e] < 50 {
			t.Errorf("%v is met %d times", e, codes[e])
		}
	}
}

// P29.2: every byte of a text in turn left out, doubled, or with others in its place
func TestChangedBytes(t *testing.T) {
	p, codes := sample(), map[api.Errno]int{}
	for s := range sampleOps() {
		for i := range len(s) {
			codes[expectAsTold(t, p, s[:i])]++
			codes[expectAsTold(t, p, s[:i]+s[i+1:])]++
			codes[expectAsTold(t, p, s[:i+1]+s[i:])]++
			for _, c := range " \n\t#/(),->_$019axé\x00" {
				codes[expectAsTold(t, p, s[:i]+string(c)+s[i+1:])]++
			}
		}
	}
	for _, e := range []api.Errno{api.OK, api.ErrSyntax, api.ErrNotFound, api.ErrRange, api.ErrFormat} {
		if codes[e] < 50 {
			t.Errorf("%v is met %d times", e, codes[e])
		}
	}
}

// P29.2: all short rows of tokens
func TestShortTexts(t *testing.T) {
	p := sample()
	words := strings.Fields("insert modify delete default priority keyless exactly none nothing 1 -> / ( ) ,")
	rows := []string{""}
	for range 4 {
		var longer []string
		for _, s := range rows {
			expectAsTold(t, p, s)
			for _, w := range words {
				longer = append(longer, strings.TrimSpace(s+" "+w))
			}
		}
		rows = longer
	}
	for _, s := range rows {
		if strings.HasPrefix(s, "insert keyless") || strings.HasPrefix(s, "d") || strings.HasPrefix(s, "modify exactly") {
			expectAsTold(t, p, s)
		}
	}
}

// P29.2: the error of the program goes ahead of all others.
func TestParseInvalidPrograms(t *testing.T) {
	for _, p := range damages() {
		code := program.Check(p).Code
		for _, s := range []string{"", "$", "delete exactly 7", "delete nothing", "delete exactly 0", "insert keyless priority 0 -> none()", strings.Repeat(" ", api.MaxText+1)} {
			expectCode(t, p, s, code)
		}
	}
}

// P29.4, rule 5: an operation read is the same in a program that has its names in other places.
func TestParseElsewhere(t *testing.T) {
	p := sample()
	q := sample()
	slices.Reverse(q.Tables)
	slices.Reverse(q.Actions)
	for i := range q.Tables {
		q.Tables[i].Default.Action = len(q.Actions) - 1 - q.Tables[i].Default.Action
		for j, a := range q.Tables[i].Actions {
			q.Tables[i].Actions[j] = len(q.Actions) - 1 - a
		}
	}
	q.Control[0].Table = len(q.Tables) - 1
	for s, o := range sampleOps() {
		o.Table = len(p.Tables) - 1 - o.Table
		switch o.Kind {
		case api.OpInsert:
			o.Entry.Call.Action = len(p.Actions) - 1 - o.Entry.Call.Action
		case api.OpModify, api.OpSetDefault:
			o.Call.Action = len(p.Actions) - 1 - o.Call.Action
		}
		expectParse(t, q, s, o, api.OK)
	}
}
