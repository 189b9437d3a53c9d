package optext_test

import (
	"slices"
	"strings"
	"testing"

	"patchbay/api"
	"patchbay/optext"
	"patchbay/program"
)

// wantScript is P29.3, word by word.
func wantScript(p api.Program, s string) ([]api.TableOp, int, api.Errno) {
	if len(s) > 16384 {
		return nil, 0, api.ErrLong
	}
	if e := program.Check(p).Code; e != api.OK {
		return nil, 0, e
	}
	l := []api.TableOp{}
	line, rest := 0, s
	for more := true; more; {
		var first string
		first, rest, more = strings.Cut(rest, "\n")
		line++
		if first == strings.Repeat(" ", len(first)) {
			continue
		}
		o, e := wantParse(p, first)
		if e != api.OK {
			return nil, line, e
		}
		l = append(l, o)
	}
	return l, 0, api.OK
}

// expectScript expects that ParseScript answers what the promise says, and answers that.
func expectScript(t *testing.T, p api.Program, s string) ([]api.TableOp, int, api.Errno) {
	t.Helper()
	before := text(p)
	l, line, e := optext.ParseScript(p, s)
	want, wantLine, wantE := wantScript(p, s)
	if !same(l, want) || line != wantLine || e != wantE {
		t.Errorf("ParseScript(%q): %+v, %d, %v, want %+v, %d, %v", s, l, line, e, want, wantLine, wantE)
	}
	if text(p) != before {
		t.Errorf("ParseScript(%q) changes the program", s)
	}
	expectApart(t, "ParseScript", l, p)
	return l, line, e
}

// expectOps expects that a script has these operations.
func expectOps(t *testing.T, s string, want ...api.TableOp) {
	t.Helper()
	if l, line, e := expectScript(t, sample(), s); !same(l, want) || line != 0 || e != api.OK {
		t.Errorf("ParseScript(%q): %+v, %d, %v, want %+v", s, l, line, e, want)
	}
}

// expectFault expects the line and the error of a script.
func expectFault(t *testing.T, p api.Program, s string, line int, code api.Errno) {
	t.Helper()
	if l, at, e := expectScript(t, p, s); len(l) != 0 || at != line || e != code {
		t.Errorf("ParseScript(%q): %+v, %d, %v, want %d, %v", s, l, at, e, line, code)
	}
}

// P29.3: lines that are skipped, and others
func TestScript(t *testing.T) {
	seven, eight := remove(exactly, 7), remove(exactly, 8)
	expectOps(t, "")
	expectOps(t, "\n")
	expectOps(t, "   ")
	expectOps(t, " \n\n  \n")
	expectOps(t, "delete exactly 7", seven)
	expectOps(t, "delete exactly 7\n", seven)
	expectOps(t, "\n  \ndelete exactly 7\n\n \n\n", seven)
	expectOps(t, "delete exactly 7\ndelete exactly 8", seven, eight)
	expectOps(t, "delete exactly 8\n\n  \ndelete exactly 7\ndelete exactly 8\n", eight, seven, eight)
	var texts []string
	var all []api.TableOp
	for s, o := range sampleOps() {
		texts, all = append(texts, s), append(all, o)
	}
	expectOps(t, strings.Join(texts, "\n"), all...)
	expectOps(t, strings.Join(texts, "\n \n")+"\n", all...)
}

// P29.3: the first line in error, and its number
func TestScriptFaults(t *testing.T) {
	p := sample()
	good := "delete exactly 7\n"
	for s, code := range map[string]api.Errno{
		"\t": api.ErrSyntax, "#": api.ErrSyntax, " # x": api.ErrSyntax, " \t ": api.ErrSyntax, "\r": api.ErrSyntax, "$": api.ErrSyntax, "delete exactly": api.ErrSyntax,
		"delete exactly 7 # x": api.ErrFormat, " delete exactly 7": api.ErrFormat, "delete exactly 7 ": api.ErrFormat, "delete exactly 7\t": api.ErrFormat, "delete exactly 7\r": api.ErrSyntax,
		"delete nothing 7": api.ErrNotFound, "delete exactly 0": api.ErrRange, "modify exactly 1 -> one()": api.ErrArg, "xxxxxxxxxxxxxxxxx": api.ErrLong, "insert exactly 1/1 0/127 priority 0 -> none()": api.ErrKind, strings.Repeat(",", api.MaxTokens+1): api.ErrLimit,
	} {
		expectFault(t, p, s, 1, code)
		expectFault(t, p, s+"\n", 1, code)
		expectFault(t, p, s+"\n"+good, 1, code)
		expectFault(t, p, "\n"+s, 2, code)
		expectFault(t, p, good+s, 2, code)
		expectFault(t, p, good+"\n   \n"+good+s+"\n"+good+"$\n", 5, code)
	}
	expectFault(t, p, "delete exactly\n7", 1, api.ErrSyntax)
	expectFault(t, p, good+"delete exactly 0\ndelete nothing 1\n$", 2, api.ErrRange)
	expectFault(t, p, strings.Repeat("\n", api.MaxText-1)+"$", api.MaxText, api.ErrSyntax)
}

// P29.3: the longest scripts, with more operations than a transaction has
func TestLongScripts(t *testing.T) {
	p, line := sample(), "delete insert 1\n"
	n := api.MaxText / len(line)
	longest := strings.Repeat(line, n) + strings.Repeat(" ", api.MaxText-n*len(line))
	if l, _, e := expectScript(t, p, longest); len(l) != n || n <= api.MaxOps || e != api.OK {
		t.Errorf("%d operations of %d: %v", len(l), n, e)
	}
	expectFault(t, p, longest+" ", 0, api.ErrLong)
	expectFault(t, p, longest+"\n", 0, api.ErrLong)
	expectFault(t, p, "$\n"+longest, 0, api.ErrLong)
	expectOps(t, strings.Repeat("\n", api.MaxText))
	expectFault(t, p, strings.Repeat("\n", api.MaxText+1), 0, api.ErrLong)
}

// P29.3: the error of the program comes behind ErrLong and ahead of all lines.
func TestScriptInvalidPrograms(t *testing.T) {
	for _, p := range damages() {
		code := program.Check(p).Code
		for _, s := range []string{"", "\n", "delete exactly 7", "$", "\ndelete nothing", strings.Repeat(" ", api.MaxText)} {
			expectFault(t, p, s, 0, code)
		}
		expectFault(t, p, strings.Repeat(" ", api.MaxText+1), 0, api.ErrLong)
	}
}

// randomScript answers a script of few lines, of which some may be wrong.
func randomScript(r *random, p api.Program, wrong bool) string {
	var lines []string
	for range r.below(8) {
		switch s, e := wantFormat(p, randomOp(r, p)); {
		case wrong && r.chance(12):
			lines = append(lines, pick(r, []string{"$", "\t", "#", "delete exactly 0", "delete nothing 1", "delete  exactly 1"}))
		case r.chance(4):
			lines = append(lines, strings.Repeat(" ", r.below(4)))
		case e == api.OK:
			lines = append(lines, s)
		}
	}
	return strings.Join(lines, "\n")
}

// P29.5: two scripts joined by a newline
func TestConcatenation(t *testing.T) {
	r, p := random(5), sample()
	failed := 0
	for i := range 1200 {
		a, b := randomScript(&r, p, i%3 == 0), randomScript(&r, p, i%2 == 0)
		first, line, e := expectScript(t, p, a)
		lines := strings.Count(a, "\n") + 1
		if e == api.OK {
			var second []api.TableOp
			second, line, e = expectScript(t, p, b)
			first = slices.Concat(first, second)
			if line > 0 {
				line += lines
			}
		}
		if e != api.OK {
			first = nil
			failed++
		}
		if both, at, code := expectScript(t, p, a+"\n"+b); !same(both, first) || at != line || code != e {
			t.Errorf("ParseScript(%q + newline + %q): %+v, %d, %v, want %+v, %d, %v", a, b, both, at, code, first, line, e)
		}
	}
	if failed < 150 || failed > 800 {
		t.Errorf("%d scripts fail", failed)
	}
}
