package progtext_test

import (
	"slices"
	"strings"
	"testing"

	"patchbay/api"
	"patchbay/lexer"
	"patchbay/program"
	"patchbay/progtext"
)

const (
	head  = "program p\nheader h { f: 8 k: 8 }\nheader g { x: 16 }\nmetadata { in: 8 out: 8 drop: 1 }\n" // 4 lines
	regs  = "register r: 8[4]\nregister s: 16[2]\n"                                                      // 2 lines
	start = "state s { default accept }\n"
	end   = "control { }\ndeparser\n"
)

// body is the text of a program whose action has these statements, from line 8 on.
func body(statements string) string {
	return head + regs + "action a(v: 8) {\n" + statements + "\n}\n" + start + end
}

// P22.2: the forms of statements, and the errors of those that have none
func TestStatements(t *testing.T) {
	for text, x := range map[string]struct {
		line int
		want api.Errno
	}{
		"": {0, api.OK}, "h.f = @v": {0, api.OK}, "h.f = r[@v]": {0, api.OK}, "r[@v] = h.f": {0, api.OK}, "add h remove g": {0, api.OK}, "g.x\n=\ns\n[\n1:1\n]": {0, api.OK},
		"h": {9, api.ErrSyntax}, "h h": {8, api.ErrSyntax}, "h\nh": {9, api.ErrSyntax}, "zz\n5": {9, api.ErrSyntax}, "r\n(": {9, api.ErrSyntax}, "meta = 1:8": {8, api.ErrSyntax},
		"5": {8, api.ErrSyntax}, "(": {8, api.ErrSyntax}, ".\nf": {8, api.ErrSyntax}, "[ r": {8, api.ErrSyntax}, "%": {8, api.ErrSyntax}, "h.f = @v ;": {8, api.ErrSyntax}, "{ }": {8, api.ErrSyntax},
		"zz.f = @v": {8, api.ErrNotFound}, "zz\n.\n5": {8, api.ErrNotFound}, "zz.": {8, api.ErrNotFound}, "zz.zz = zz": {8, api.ErrNotFound}, "r.f = @v": {8, api.ErrNotFound}, "a.f = @v": {8, api.ErrNotFound},
		"h\n.zz = @v": {9, api.ErrNotFound}, "h.\n5": {9, api.ErrSyntax}, "h.x = @v": {8, api.ErrNotFound}, "h.in = @v": {8, api.ErrNotFound}, "meta.f = @v": {8, api.ErrNotFound}, "meta.\nzz\n5": {9, api.ErrNotFound}, "h.f\n@v": {9, api.ErrSyntax}, "h.f\n== @v": {9, api.ErrSyntax},
		"zz[1:1] = @v": {8, api.ErrNotFound}, "zz\n[\n5": {8, api.ErrNotFound}, "h[1:1] = @v": {8, api.ErrNotFound}, "meta[1:1] = 1:8": {8, api.ErrNotFound},
		"r[\n1] = @v": {9, api.ErrSyntax}, "r[\n@v\n@v] = @v": {10, api.ErrSyntax}, "r[\n@zz\n] = @v": {9, api.ErrNotFound}, "r[@v]\n@v": {9, api.ErrSyntax}, "r[@v] =\n@zz": {9, api.ErrNotFound}, "r[]": {8, api.ErrSyntax},
		"add\nzz": {9, api.ErrNotFound}, "remove\nzz": {9, api.ErrNotFound}, "add\nmeta": {9, api.ErrNotFound}, "add\nr": {9, api.ErrNotFound}, "add\n5": {9, api.ErrSyntax}, "remove\n(": {9, api.ErrSyntax}, "add": {9, api.ErrSyntax},
		"add\n.f = @v": {8, api.ErrNotFound}, "remove\n[1:1] = @v": {8, api.ErrNotFound}, "add h\n, g": {9, api.ErrSyntax}, "Add h": {8, api.ErrSyntax}, "drop h": {8, api.ErrSyntax},
		"h.f =\nzz[1:1]": {9, api.ErrNotFound}, "h.f =\nh[1:1]": {9, api.ErrNotFound}, "h.f =\nzz\n[\n%": {9, api.ErrNotFound}, "h.f = r[\n@zz]": {9, api.ErrNotFound}, "h.f = r[@v\n)": {9, api.ErrSyntax}, "h.f = (r[@v])": {8, api.ErrSyntax},
		"h.f =\n\nr": {10, api.ErrSyntax}, "h.f = r[@v]\n+ @v": {9, api.ErrSyntax}, "r[@v] =\nr[@v]": {9, api.ErrSyntax}, "r[\nr[@v]] = @v": {9, api.ErrSyntax}, "h.f =\n~r[@v]": {9, api.ErrSyntax},
		"h.f =\n\n%": {10, api.ErrSyntax}, "h.f =\n@v +\n\n%": {9, api.ErrSyntax}, "h.f =\n@v +\nzz.x": {9, api.ErrNotFound}, "h.f =\n@v ++ @v\n5": {10, api.ErrSyntax}, "h.f =\n@v\n.f": {10, api.ErrSyntax},
		"h.f =\n5:0": {9, api.ErrWidth}, "h.f =\n(\n256:8)": {9, api.ErrRange}, "h.f =\n@v +\n1:9": {9, api.ErrWidth}, "h.f = " + strings.Repeat("~(", 24) + "@v" + strings.Repeat(")", 24): {8, api.ErrLimit},
		"h.f = " + strings.Repeat("~(", 22) + "~@v" + strings.Repeat(")", 22): {0, api.OK}, "h.f = 0x0f:0x8": {0, api.OK}, "h.f = 1:1": {0, api.ErrWidth}, "g.x = r[1:1]": {0, api.ErrWidth}, "s[1:1] = @v": {0, api.ErrWidth},
		"h.f = meta.in": {0, api.OK}, "h.f =\nmeta.f": {9, api.ErrNotFound}, "add h.f = @v": {8, api.ErrSyntax}, "h.f = h.k h.k = h.f": {0, api.OK}, "h.f = h.k\n- h.f": {0, api.OK}, "h.f = h.k\n[0+8]": {0, api.OK},
	} {
		if x.want == api.OK {
			if p, line, e := progtext.Parse(body(text)); line != 0 || e != api.OK || program.Check(p).Code != api.OK {
				t.Errorf("%q: %d, %v", text, line, e)
			}
			continue
		}
		expectFault(t, body(text), x.line, x.want)
	}
}

// P22.2: the tokens end inside an expression, or ahead of it.
func TestEarlyEndInExpressions(t *testing.T) {
	before := head + regs + "action a(v: 8) {\n"
	for text, x := range map[string]struct {
		line int
		want api.Errno
	}{
		"h": {0, api.ErrSyntax}, "zz": {0, api.ErrSyntax}, "add": {0, api.ErrSyntax}, "h.": {0, api.ErrSyntax}, "h.f": {0, api.ErrSyntax}, "r": {0, api.ErrSyntax}, "zz.": {8, api.ErrNotFound}, "zz[": {8, api.ErrNotFound}, "h.zz": {8, api.ErrNotFound}, "add zz": {8, api.ErrNotFound},
		"h.f =": {0, api.ErrShort}, "h.f =\n\n# h.f\n": {0, api.ErrShort}, "r[": {0, api.ErrShort}, "r[@v] =": {0, api.ErrShort}, "h.f = r[": {0, api.ErrShort}, "r[@v": {0, api.ErrSyntax}, "r[@v]": {0, api.ErrSyntax}, "h.f = r[@v": {0, api.ErrSyntax},
		"h.f = \n r": {9, api.ErrShort}, "h.f = \n h.\n": {9, api.ErrShort}, "h.f =\n@v +\n": {9, api.ErrShort}, "h.f =\n(\n@v": {9, api.ErrShort}, "h.f =\n@": {9, api.ErrShort}, "r[\n~": {9, api.ErrShort}, "h.f = r[\n5:": {9, api.ErrShort}, "h.f =\n@v": {0, api.ErrSyntax}, "h.f =\nzz[": {9, api.ErrNotFound},
		"h.f =\nzz.\n": {9, api.ErrShort}, "h.f =\nzz": {9, api.ErrShort}, "h.f =\nzz.f": {9, api.ErrNotFound}, "h.f =\n256:8": {9, api.ErrRange}, "h.f =\n(256:8": {9, api.ErrShort},
	} {
		expectFault(t, before+text, x.line, x.want)
	}
	for text, want := range map[string]api.Errno{"control { if": api.ErrSyntax, "control { if (": api.ErrShort, "control { if (valid": api.ErrShort, "control { if (valid(h": api.ErrShort, "control { if (valid(h)": api.ErrSyntax, "control { if (valid(h))": api.ErrSyntax} {
		line := 0
		if strings.Contains(text, "valid") && want == api.ErrShort {
			line = 5
		}
		expectFault(t, head+text, line, want)
	}
}

// P22.2: the other sections
func TestSections(t *testing.T) {
	table := head + "action a(v: 8) { }\ntable t {\n"
	for text, x := range map[string]struct {
		line int
		want api.Errno
	}{
		"": {0, api.ErrSyntax}, "# program p": {0, api.ErrSyntax}, "p": {1, api.ErrSyntax}, "\nheader": {2, api.ErrSyntax}, "program\n5": {2, api.ErrSyntax}, "program p\nprogram": {2, api.ErrSyntax}, "Program p": {1, api.ErrSyntax},
		"program p\nregister": {2, api.ErrSyntax}, "program p\naction": {2, api.ErrSyntax}, "program p\ncontrol": {2, api.ErrSyntax}, "program p\nheader\n{": {3, api.ErrSyntax}, "program p header h\nf": {2, api.ErrSyntax}, "program p metadata\nx": {2, api.ErrSyntax},
		"program p header h {\n5": {2, api.ErrSyntax}, "program p header h { f\n8": {2, api.ErrSyntax}, "program p header h { f:\ng": {2, api.ErrSyntax}, "program p header h { f: 8\n,": {2, api.ErrSyntax}, "program p header h { f: 8\n;": {2, api.ErrSyntax}, "program p header h { f: 8 }\n}": {2, api.ErrSyntax},
		head + "metadata": {5, api.ErrSyntax}, head + "header": {5, api.ErrSyntax}, head + "deparser": {5, api.ErrSyntax}, head + "control { } control": {5, api.ErrSyntax}, head + "x": {5, api.ErrSyntax}, head + "5": {5, api.ErrSyntax},
		head + regs + "action a() { }\nregister": {8, api.ErrSyntax}, head + regs + start + "\ntable": {9, api.ErrSyntax}, head + regs + start + "action": {8, api.ErrSyntax}, table + "actions a default a() size 1 }\naction": {8, api.ErrSyntax}, head + regs + end: {0, api.ErrNotFound},
		head + "register r\n8": {6, api.ErrSyntax}, head + "register r: 8\n(": {6, api.ErrSyntax}, head + "register r: 8[4\n)": {6, api.ErrSyntax}, head + "register r: 8[\nx": {6, api.ErrSyntax}, head + "register r:\n[": {6, api.ErrSyntax}, head + "register\n5": {6, api.ErrSyntax},
		head + "action a\n{": {6, api.ErrSyntax}, head + "action a(\n,": {6, api.ErrSyntax}, head + "action a(\n5": {6, api.ErrSyntax}, head + "action a(v: 8\nv": {6, api.ErrSyntax}, head + "action a(v: 8,\n)": {6, api.ErrSyntax}, head + "action a(v: 8)\nh": {6, api.ErrSyntax}, head + "action a(v\n)": {6, api.ErrSyntax}, head + "action a(v:\n)": {6, api.ErrSyntax},
		table + "}": {7, api.ErrSyntax}, table + "key\n5": {8, api.ErrSyntax}, table + "key\nzz\n5": {8, api.ErrNotFound}, table + "key zz": {7, api.ErrNotFound}, table + "key h": {0, api.ErrSyntax}, table + "key h\n5": {8, api.ErrSyntax}, table + "key h.\nzz\n5": {8, api.ErrNotFound}, table + "key h.\n5": {8, api.ErrSyntax}, table + "key meta.\nf": {8, api.ErrNotFound}, table + "key meta": {0, api.ErrSyntax},
		table + "key h.f\nexact": {8, api.ErrSyntax}, table + "key h.f:\nrange": {8, api.ErrSyntax}, table + "key h.f:\n1": {8, api.ErrSyntax}, table + "key h.f: exact\n,": {8, api.ErrSyntax}, table + "key h.f: exact\ndefault": {8, api.ErrSyntax}, table + "key h.f: exact\n}": {8, api.ErrSyntax}, table + "key h.f: Exact": {7, api.ErrSyntax},
		table + "actions\n}": {8, api.ErrSyntax}, table + "actions\n5": {8, api.ErrSyntax}, table + "actions\ndefault": {8, api.ErrNotFound}, table + "actions\nt": {8, api.ErrNotFound}, table + "actions a,\ndefault": {8, api.ErrNotFound}, table + "actions a,\n,": {8, api.ErrSyntax}, table + "actions a\na": {8, api.ErrSyntax}, table + "actions a\nkey": {8, api.ErrSyntax}, table + "actions a\nactions": {8, api.ErrSyntax}, table + "actions a\nsize": {8, api.ErrSyntax},
		table + "actions a default\nzz": {8, api.ErrNotFound}, table + "actions a default\n(": {8, api.ErrSyntax}, table + "actions a default a\nsize": {8, api.ErrSyntax}, table + "actions a default a(\n,": {8, api.ErrSyntax}, table + "actions a default a(1,\n)": {8, api.ErrSyntax}, table + "actions a default a(\nv": {8, api.ErrSyntax}, table + "actions a default a(1\n2": {8, api.ErrSyntax}, table + "actions a default a(1)\n}": {8, api.ErrSyntax}, table + "actions a default a(\n1:8": {8, api.ErrSyntax},
		table + "actions a default a(1) size\n}": {8, api.ErrSyntax}, table + "actions a default a(1) size 1\nsize": {8, api.ErrSyntax}, table + "actions a default a(1) size 1\nkey": {8, api.ErrSyntax}, table + "size\n1": {7, api.ErrSyntax}, table + "default": {7, api.ErrSyntax},
		head + "state\n{": {6, api.ErrSyntax}, head + "state s {\n}": {6, api.ErrSyntax}, head + "state s {\nx": {6, api.ErrSyntax}, head + "state s { extract\nzz": {6, api.ErrNotFound}, head + "state s { extract\nmeta": {6, api.ErrNotFound}, head + "state s { extract\n5": {6, api.ErrSyntax}, head + "state s { extract h\n, g": {6, api.ErrSyntax}, head + "state s { select\nzz\n5": {6, api.ErrNotFound}, head + "state s { select h\n5": {6, api.ErrSyntax},
		head + "state s { select h.f\nselect": {6, api.ErrSyntax}, head + "state s { select h.f\nextract": {6, api.ErrSyntax}, head + "state s { case 1 & 1 -> accept\nselect": {6, api.ErrSyntax}, head + "state s { case\nx": {6, api.ErrSyntax}, head + "state s { case 1\n->": {6, api.ErrSyntax}, head + "state s { case 1\n&& 1": {6, api.ErrSyntax}, head + "state s { case 1 & 1\n- >": {6, api.ErrSyntax}, head + "state s { case 1 & 1 ->\ns": {6, api.ErrSyntax}, head + "state s { case 1 & 1 -> goto\n5": {6, api.ErrSyntax}, head + "state s { case 1 & 1 ->\n": {0, api.ErrSyntax},
		head + "state s { default\ns": {6, api.ErrSyntax}, head + "state s { default\n5": {6, api.ErrSyntax}, head + "state s { default accept\ndefault": {6, api.ErrSyntax}, head + "state s { default accept\ncase": {6, api.ErrSyntax}, head + "state s { default goto\n}": {6, api.ErrSyntax}, head + "state s { default accept\nreject": {6, api.ErrSyntax},
		head + "control\nx": {6, api.ErrSyntax}, head + "control {\nx": {6, api.ErrSyntax}, head + "control {\n5": {6, api.ErrSyntax}, head + "control {\n{": {6, api.ErrSyntax}, head + "control { apply\nt": {6, api.ErrNotFound}, head + "control { apply\n5": {6, api.ErrSyntax}, head + "control { hit\nt": {6, api.ErrNotFound}, head + "control { hit\n(": {6, api.ErrSyntax}, head + "control {\nelse": {6, api.ErrSyntax}, head + "control { }\n5": {6, api.ErrSyntax}, head + "control { }\n}": {6, api.ErrSyntax},
		head + "control { if\nvalid(h)": {6, api.ErrSyntax}, head + "control { if (\n)": {6, api.ErrSyntax}, head + "control { if (valid(h)\n{": {6, api.ErrSyntax}, head + "control { if (valid(h))\nelse": {6, api.ErrSyntax}, head + "control { if (valid(h)) { }\n}": {6, api.ErrSyntax}, head + "control { if (valid(h)) { }\nif": {6, api.ErrSyntax}, head + "control { if (valid(h)) { } else\nif": {6, api.ErrSyntax}, head + "control { if (\n@v": {6, api.ErrNotFound}, head + "control { if (\nr[1:1])": {6, api.ErrSyntax}, head + "control { if (\nvalid(zz))": {6, api.ErrNotFound}, head + "control { if (valid(h) ==\n5": {5, api.ErrShort},
		head + start + end + "zz": {8, api.ErrNotFound}, head + start + end + "meta": {8, api.ErrNotFound}, head + start + end + "5": {8, api.ErrSyntax}, head + start + end + "h\ng": {9, api.ErrSyntax}, head + start + end + "h,\n,": {9, api.ErrSyntax}, head + start + end + "h,": {0, api.ErrSyntax}, head + start + end + "h,\nzz": {9, api.ErrNotFound}, head + start + end + "deparser": {8, api.ErrNotFound}, head + start + end + "}": {8, api.ErrSyntax}, head + start + end + ",": {8, api.ErrSyntax}, head + start + end + "h.f": {8, api.ErrSyntax},
	} {
		expectFault(t, text, x.line, x.want)
	}
}

// P22.2: the errors of the lexer come ahead of all others.
func TestLexerErrors(t *testing.T) {
	for text, x := range map[string]struct {
		line int
		want api.Errno
	}{
		"$": {1, api.ErrSyntax}, "5\n$": {2, api.ErrSyntax}, "program p\nmetadata {\n $": {3, api.ErrSyntax}, leastText + "\"": {13, api.ErrSyntax}, "x\n\n" + longName + "x": {3, api.ErrLong}, "x\n01": {2, api.ErrSyntax}, "x\n0xG": {2, api.ErrSyntax}, "x\n4294967296": {2, api.ErrRange}, "x\n0x100000000": {2, api.ErrRange}, "\n_": {2, api.ErrSyntax}, "é": {1, api.ErrSyntax}, "\r": {1, api.ErrSyntax}, "program p\x00": {1, api.ErrSyntax},
		strings.Repeat(" ", api.MaxText+1): {0, api.ErrLong}, leastText + strings.Repeat("\n", api.MaxText): {0, api.ErrLong}, strings.Repeat("x\n", api.MaxTokens) + "x": {api.MaxTokens + 1, api.ErrLimit}, strings.Repeat("x ", api.MaxTokens): {1, api.ErrSyntax},
	} {
		expectFault(t, text, x.line, x.want)
	}
	expectParse(t, leastText+strings.Repeat(" ", api.MaxText-len(leastText)), least())
	expectParse(t, strings.Repeat("\n", api.MaxText-len(leastText))+leastText, least())
}

// P22.2: names refer to the first of several objects of one name. Such programs aren't valid, so that only the errors tell.
func TestFirstOfName(t *testing.T) {
	two := "program p header h { f: 8 f: 16 } header h { x: 8 }\nmetadata { in: 8 in: 16 }\nregister r: 8[1] register r: 9[1]\n"
	act := func(s string) string {
		return two + "action a(v: 8, v: 16) {\n" + s + "\n}\n" + start + end
	}
	for text, x := range map[string]struct {
		line int
		want api.Errno
	}{
		act("h.x = @v"): {5, api.ErrNotFound}, act("h.f =\nh.x"): {6, api.ErrNotFound}, act("h.f =\nh.f + @v"): {0, api.ErrDuplicate}, act("h.f =\nh.f + 1:16"): {6, api.ErrWidth}, act("h.f =\n@v + 1:16"): {6, api.ErrWidth}, act("h.f =\nmeta.in + 1:16"): {6, api.ErrWidth}, act("h.f = meta.in + h.f"): {0, api.ErrDuplicate},
		act("add h remove h r[1:1] = @v h.f = r[@v]"): {0, api.ErrDuplicate},
		two + "state s {\nselect h.x":                 {5, api.ErrNotFound}, two + "action a() { } table t {\nkey h.x": {5, api.ErrNotFound},
		"program p metadata { in: 8 out: 8 drop: 1 } action a() { } action a(v: 8) { }" + start + end:                                                                    {0, api.ErrDuplicate},
		"program p metadata { in: 8 out: 8 drop: 1 } action a() { } table t { actions a default a() size 1 } table t { actions a default a() size 1 }" + start + end:     {0, api.ErrDuplicate},
		"program p metadata { in: 8 out: 8 drop: 1 } state s { default goto t } state t { default accept } state s { default goto s } " + end:                            {0, api.ErrDuplicate},
		"program p metadata { in: 8 out: 8 drop: 1 } state s { default goto t } state u { default goto t } state t { default accept } state t { default goto s } " + end: {0, api.ErrDuplicate},
		"program p metadata { in: 8 out: 8 drop: 1 } state s { default accept } state t { default goto s } " + end:                                                       {0, api.ErrOrder},
		"program p metadata { in: 8 out: 8 drop: 1 } state s { default goto s } " + end:                                                                                  {0, api.ErrOrder},
	} {
		expectFault(t, text, x.line, x.want)
	}
}

// P22.2: meta denotes the metadata in a FIELD, and a header of this name elsewhere.
func TestMeta(t *testing.T) {
	text := func(metadata, rest string) string {
		return "program p header meta { x: 8 } metadata { " + metadata + " }\naction a() {\n" + rest + "\n}\n" + start + end
	}
	expectFault(t, text("in: 8", "meta.x = 1:8"), 3, api.ErrNotFound)
	expectFault(t, text("in: 8", "meta.in =\nmeta.x"), 4, api.ErrNotFound)
	expectFault(t, text("x: 8", "meta.x =\nmeta.x + 1:9"), 4, api.ErrWidth)
	expectFault(t, text("x: 8", "meta.x = meta.x add meta remove meta meta.x = valid(meta) ? 1:8 : 2:8"), 0, api.ErrName)
	expectFault(t, text("in: 8", "} table t {\nkey meta.x"), 4, api.ErrNotFound)
	expectFault(t, text("in: 8", "} state t {\nextract meta select meta.x"), 4, api.ErrNotFound)
	expectFault(t, text("in: 8", "} state t {\nextract meta select meta.in default accept"), 0, api.ErrName)
	expectFault(t, "program p header meta { x: 8 } metadata { } control { } deparser meta, meta", 0, api.ErrName)
	expectFault(t, "program p metadata { meta: 8 } action a() {\nadd meta", 2, api.ErrNotFound)
	p := least()
	p.Metadata = append(p.Metadata, api.Field{Name: "meta", Width: 8})
	p.States[0].Select, p.States[0].On = true, at(-1, 3)
	expectParse(t, strings.Replace(strings.Replace(leastText, "1\n}", "1 meta: 8 }", 1), "default", "select meta.meta default", 1), p)
}

// P22.2: an expression has the program read so far as its scope, and a condition no parameters.
func TestScopes(t *testing.T) {
	expectFault(t, head+"action a(v: 8) { }\naction b(w: 8) {\nh.f = @v }", 7, api.ErrNotFound)
	expectFault(t, head+"action a(v: 8) { }\ncontrol { if (\n@v == 1:8) { } else { } }", 7, api.ErrNotFound)
	expectFault(t, head+"action a() { h.f =\n@w", 6, api.ErrNotFound)
	expectFault(t, head+"action a() {\nr[1:1] = 1:8 }", 6, api.ErrNotFound)
	expectFault(t, head+"control {\napply t } table t", 6, api.ErrNotFound)
	expectFault(t, "program p metadata { in: 8 out: 8 drop: 1 } header", 1, api.ErrSyntax)
	expectFault(t, "program p header h { f: 0 g: 8 } metadata { in: 33 } action a() {\nh.g =\nh.f", 3, api.ErrWidth)
	expectFault(t, "program p header h { f: 0 g: 8 } metadata { in: 33 } action a() {\nh.g =\nh.g + meta.in", 3, api.ErrWidth)
	expectFault(t, "program p header h { f: 0 g: 8 } metadata { in: 33 } action a(v: 0) {\nh.g =\n@v", 3, api.ErrWidth)
}

// P22.3: the names of states, then the errors of program.Check
func TestCompletion(t *testing.T) {
	state := func(rest string) string {
		return head + "state a {\n" + rest + "\n}\nstate b { default accept }\n" + end
	}
	for text, x := range map[string]struct {
		line int
		want api.Errno
	}{
		state("default goto zz"): {6, api.ErrNotFound}, state("default\ngoto\nh"): {8, api.ErrNotFound}, state("case 1 & 1 -> goto\nzz default goto yy"): {7, api.ErrNotFound}, state("case 1 & 1 -> goto\nb default goto\nyy"): {8, api.ErrNotFound}, state("default goto accept"): {6, api.ErrNotFound}, state("default goto p"): {6, api.ErrNotFound},
		state("case 1 & 1 -> accept case 1 & 1 -> goto\nzz case 1 & 1 -> goto xx default goto yy"): {7, api.ErrNotFound}, state("default goto a"): {0, api.ErrOrder}, state("case 1 & 1 -> accept default accept"): {0, api.ErrKind}, state("case 1 & 1 -> goto\nzz default accept"): {7, api.ErrNotFound},
		head + "state a { default goto\nzz } state b { default goto\nyy }" + end:                                                          {6, api.ErrNotFound},
		head + "state a { default goto b } state b { default goto\nyy }" + end:                                                            {6, api.ErrNotFound},
		head + "state a { default goto\nzz }\ncontrol { }\ndeparser h, 5":                                                                 {8, api.ErrSyntax},
		head + "state a { default goto\nzz }\ncontrol { }\ndeparser h, zz":                                                                {8, api.ErrNotFound},
		head + "state a { default goto\nzz }\ncontrol { }\ndeparser h,":                                                                   {0, api.ErrSyntax},
		head + "state a { default goto\nzz }\ncontrol { }\ndeparser h, h":                                                                 {6, api.ErrNotFound},
		"program p metadata { }\nstate a { default goto\nzz } control { } deparser":                                                       {3, api.ErrNotFound},
		"program p metadata { } control { } deparser":                                                                                     {0, api.ErrSyntax},
		"program p header h { } metadata { } control { } deparser":                                                                        {0, api.ErrNotFound},
		"program p header h { f: 4294967295 } metadata { } control { } deparser":                                                          {0, api.ErrWidth},
		head + "register r: 8[65] " + start + end:                                                                                         {0, api.ErrRange},
		head + "register r: 0[4] " + start + end:                                                                                          {0, api.ErrWidth},
		head + end:                                                                                                                        {0, api.ErrNotFound},
		head + start + "control { } deparser h, h":                                                                                        {0, api.ErrDuplicate},
		head + "action a(v: 8) { } table t { actions a, a default a(1) size 1 } " + start + end:                                           {0, api.ErrDuplicate},
		head + "action a(v: 8) { } table t { actions a default a() size 1 } " + start + end:                                               {0, api.ErrArg},
		head + "action a(v: 8) { } table t { actions a default a(256) size 1 } " + start + end:                                            {0, api.ErrRange},
		head + "action a(v: 8) { } table t { actions a default a(255) size 257 } " + start + end:                                          {0, api.ErrRange},
		head + "action a() { } action b() { } table t { actions a default b() size 1 } " + start + end:                                    {0, api.ErrNotFound},
		head + "action a() { } table t { key h.f: lpm key h.k: lpm actions a default a() size 1 } " + start + end:                         {0, api.ErrDuplicate},
		head + start + "control { if (h.f) { } else { } } deparser":                                                                       {0, api.ErrWidth},
		head + start + "control {" + strings.Repeat("if (1:1) {", 7) + strings.Repeat("} else { }", 7) + "} deparser":                     {0, api.ErrOrder},
		head + start + "control {" + strings.Repeat("if (1:1) { } else { }", 25) + "} deparser":                                           {0, api.ErrLimit},
		head + start + "control {" + strings.Repeat("if (1:1) {", 300) + strings.Repeat("} else { }", 300) + "} deparser":                 {0, api.ErrLimit},
		head + "action a() { } table t { actions a default a() size 1 } " + start + "control { apply t apply t } deparser":                {0, api.ErrDuplicate},
		"program p " + strings.Repeat("header h { f: 8 } ", 300) + "metadata { } control { } deparser " + strings.Repeat("h, ", 99) + "h": {0, api.ErrLimit},
		"program p metadata { in: 8 out: 8 drop: 1 " + strings.Repeat("x: 8 ", 99) + "} control { } deparser":                             {0, api.ErrLimit},
		head + "state s { " + strings.Repeat("extract h ", 5) + "default accept } " + end:                                                 {0, api.ErrLimit},
	} {
		expectFault(t, text, x.line, x.want)
	}
}

// P22.2: numbers in every form of the lexer, also in expressions, and more parentheses than there need be
func TestNumbers(t *testing.T) {
	want := rich()
	s := richText
	for _, x := range [][2]string{{": 8[4]", ": 0x8[0x00000004]"}, {"n: 16", "n: 0x10"}, {"(v: 8", "(v: 0x08"}, {"3:8", "0x3:0x8"}, {"[2+3]", "[0x2+0x3]"}, {"255, 0", "0xff, 0x0"}, {"size 256", "size 0x100"}, {"4294967295 & 4294967295", "0xffffffff & 0xffffffff"},
		{"= @v\n", "= (@v)\n"}, {"valid(metadata) ?", "((valid(metadata))) ?"}, {"~@v", "~((@v))"}, {"(h.f == 7:8)", "(((h.f) == (7:8)))"}, {"7:8", "0x00000007:0x8"}} {
		if !strings.Contains(s, x[0]) {
			t.Fatal(x)
		}
		s = strings.Replace(s, x[0], x[1], 1)
		expectParse(t, s, want)
	}
	expectFormat(t, want, richText, api.Diagnostic{})
}

var separators = []string{" ", "\n", "\t", "  ", "\n\n", " # x\n", "#\n", "# program $ \"é\n\n", "\t \n"}

// P22.6: spaces, newlines and comments between tokens change nothing but the lines of errors.
func TestSeparators(t *testing.T) {
	r := random(6)
	for _, p := range append(built(t, 24, 40), least(), rich()) {
		s, _ := progtext.Format(p)
		tokens := tokenTexts(t, s)
		for range 10 {
			text := pick(&r, separators)
			for _, x := range tokens {
				text += x + pick(&r, separators)
			}
			if len(text) <= api.MaxText {
				expectParse(t, text, p)
			}
		}
	}
}

// P22.6: the errors of wrong texts in two layouts are those of the same token.
func TestLayouts(t *testing.T) {
	r := random(66)
	for _, p := range built(t, 25, 150) {
		s, _ := progtext.Format(p)
		tokens := mutated(&r, tokenTexts(t, s))
		_, first, want := progtext.Parse(onLines(tokens))
		text, line := "", 0
		for i, x := range tokens {
			text += pick(&r, separators)
			if i+1 == first {
				line = 1 + strings.Count(text, "\n")
			}
			text += x
		}
		if len(text) > api.MaxText {
			continue
		}
		if _, got, e := progtext.Parse(text); got != line || e != want {
			t.Errorf("Parse(%q) = %d, %v, want %d, %v", text, got, e, line, want)
		}
	}
}

// mutated changes a few tokens.
func mutated(r *random, tokens []string) []string {
	l := slices.Clone(tokens)
	for range 1 + r.below(3) {
		i, j := r.below(len(l)), r.below(len(l))
		switch r.below(5) {
		case 0:
			l = slices.Delete(l, i, i+1)
		case 1:
			l = slices.Insert(l, i, l[j])
		case 2:
			l[i] = l[j]
		case 3:
			l[i] = pick(r, substitutes)
		case 4:
			l[i], l[j] = l[j], l[i]
		}
	}
	if r.chance(8) {
		l = l[:r.below(len(l))]
	}
	return l
}

// P22.2, P22.3, P22.5: whatever the tokens are, Parse answers an error with a line of the text, or a valid program whose
// text is read as the same one.
func TestMutated(t *testing.T) {
	r := random(5)
	counts := map[api.Errno]int{}
	for _, origin := range append(built(t, 26, 400), least(), rich()) {
		s, _ := progtext.Format(origin)
		tokens := tokenTexts(t, s)
		for range 50 {
			l := mutated(&r, tokens)
			text := onLines(l)
			p, line, e := progtext.Parse(text)
			counts[e]++
			if e != api.OK {
				expectFault(t, text, line, e)
				if line < 0 || line > len(l) {
					t.Errorf("Parse(%q) = %d, %v", text, line, e)
				}
				continue
			}
			written, d := progtext.Format(p)
			if line != 0 || program.Check(p).Code != api.OK || d.Code != api.OK && d.Code != api.ErrLong {
				t.Errorf("Parse(%q) = %d, %v, Format = %v", text, line, p, d)
			}
			if d.Code == api.OK {
				expectParse(t, written, p)
				expectFormat(t, p, written, api.Diagnostic{})
			}
		}
	}
	for _, e := range []api.Errno{api.OK, api.ErrSyntax, api.ErrNotFound, api.ErrDuplicate, api.ErrWidth, api.ErrShort} {
		if counts[e] < 5 {
			t.Errorf("only %d texts with %v", counts[e], e)
		}
	}
}

// P22.2: texts of bytes that look like no rule
func TestNoise(t *testing.T) {
	r := random(3)
	for range 20000 {
		b := make([]byte, r.below(40))
		for i := range b {
			b[i] = byte(r.bits())
		}
		text := "program p\n" + string(b)
		_, wantLine, want := lexer.Tokenize(text)
		if want == api.OK {
			continue
		}
		expectFault(t, text, wantLine, want)
	}
}

// P22.2: every name that a lexer accepts may name an object, keywords and names of MaxName bytes among them.
func TestNames(t *testing.T) {
	for _, name := range strings.Fields("program header metadata register action table key actions default size exact lpm ternary state extract select case accept reject goto control apply if else hit deparser add remove valid in out drop Z a_ a9 " + longName) {
		p := rich()
		p.Name, p.Headers[0].Name, p.Headers[1].Name, p.Headers[2].Name = name, name, "x1", "x2"
		p.Headers[0].Fields[0].Name, p.Headers[0].Fields[1].Name, p.Headers[0].Fields[2].Name = name, "x1", "x2"
		p.Metadata[4].Name, p.Registers[0].Name, p.Registers[1].Name = name, name, "x1"
		if name == "in" || name == "out" || name == "drop" {
			p.Metadata[4].Name = "x1" // as the metadata has this name already
		}
		p.Actions[0].Name, p.Actions[1].Name, p.Actions[2].Name, p.Actions[1].Params[0].Name, p.Actions[1].Params[1].Name = "x1", name, "x2", name, "x1"
		p.Tables[0].Name, p.Tables[1].Name, p.Tables[2].Name = "x1", name, "x2"
		p.States[0].Name, p.States[1].Name, p.States[2].Name = "x1", name, "x2"
		s, d := progtext.Format(p)
		if d.Code != api.OK {
			t.Fatalf("%s: %v", name, d)
		}
		expectParse(t, s, p)
	}
}
