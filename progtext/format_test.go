package progtext_test

import (
	"slices"
	"strings"
	"testing"

	"patchbay/api"
	"patchbay/lexer"
	"patchbay/program"
	"patchbay/progtext"
)

// P22.1, P22.2: the texts of two programs, both ways
func TestTexts(t *testing.T) {
	expectFormat(t, least(), leastText, api.Diagnostic{})
	expectParse(t, leastText, least())
	expectFormat(t, rich(), richText, api.Diagnostic{})
	expectParse(t, richText, rich())
}

// Examples of the chapter
func TestExamples(t *testing.T) {
	expectFormat(t, least(), "program p\nmetadata {\n  in: 8\n  out: 8\n  drop: 1\n}\nstate s {\n  default accept\n}\ncontrol {\n}\ndeparser\n", api.Diagnostic{})
	expectFault(t, "program", 0, api.ErrSyntax)
	expectFault(t, "program p header h { f 8 }", 1, api.ErrSyntax)
}

// P22.1: the forms of lists without elements and with one, and of nodes nested as deeply as they may be
func TestFormatForms(t *testing.T) {
	p := least()
	p.Headers = []api.Header{{Name: "h", Fields: []api.Field{{Name: "f", Width: 8}}}}
	p.Deparser = []int{0}
	for range api.MaxNesting {
		p.Control = []api.ControlNode{{Kind: api.ControlIf, Cond: constant(1, 1), Then: p.Control}}
	}
	want := "program p\nheader h {\n  f: 8\n}\n" + strings.TrimPrefix(strings.TrimSuffix(leastText, "}\ndeparser\n"), "program p\n")
	for i := range api.MaxNesting {
		want += strings.Repeat("  ", i+1) + "if (1:1) {\n"
	}
	for i := range api.MaxNesting {
		want += strings.Repeat("  ", api.MaxNesting-i) + "} else {\n" + strings.Repeat("  ", api.MaxNesting-i) + "}\n"
	}
	want += "}\ndeparser h\n"
	expectFormat(t, p, want, api.Diagnostic{})
	expectParse(t, want, p)
}

// P22.1: the diagnostics of invalid programs
func TestFormatInvalid(t *testing.T) {
	for what, change := range map[string]func(p *api.Program){
		"name":      func(p *api.Program) { p.Name = "a b" },
		"headers":   func(p *api.Program) { p.Headers = make([]api.Header, 9) },
		"header":    func(p *api.Program) { p.Headers[1].Name = "meta" },
		"field":     func(p *api.Program) { p.Headers[1].Fields[0].Width = 33 },
		"metadata":  func(p *api.Program) { p.Metadata[2].Width = 2 },
		"register":  func(p *api.Program) { p.Registers[1].Size = 65 },
		"action":    func(p *api.Program) { p.Actions[2].Params[0].Name = "" },
		"statement": func(p *api.Program) { p.Actions[1].Body[3].Kind = 6 },
		"reference": func(p *api.Program) { p.Actions[1].Body[3].Header = 3 },
		"table":     func(p *api.Program) { p.Tables[1].Actions = nil },
		"key":       func(p *api.Program) { p.Tables[0].Keys[2].Kind = 0 },
		"argument":  func(p *api.Program) { p.Tables[0].Default.Args[1] = 1 << 16 },
		"states":    func(p *api.Program) { p.States = nil },
		"case":      func(p *api.Program) { p.States[0].Cases[2].Next = -3 },
		"control":   func(p *api.Program) { p.Control[1].Cond = nil },
		"deparser":  func(p *api.Program) { p.Deparser[1] = 2 },
	} {
		p := rich()
		change(&p)
		d := program.Check(p)
		if d.Code == api.OK {
			t.Errorf("%s: Check takes %+v", what, p)
		}
		expectFormat(t, p, "", d)
	}
	expectFormat(t, api.Program{}, "", api.Diagnostic{Code: api.ErrName})
	p := rich()
	p.Actions[1].Body[4].Index = param(2)
	expectFormat(t, p, "", api.Diagnostic{Code: api.ErrNotFound, Part: program.PartAction, Item: 1, Sub: 4})
	p = longProgram(t, api.MaxText+1)
	p.States[0].Default = 0
	expectFormat(t, p, "", api.Diagnostic{Code: api.ErrOrder, Part: program.PartParser, Sub: -1})
}

// longProgram answers a valid program whose text has so many bytes.
func longProgram(t *testing.T, size int) api.Program {
	t.Helper()
	p := least()
	body := slices.Repeat([]api.Statement{{Kind: api.StmtAssign, Dst: at(-1, 0), Value: field(-1, 0)}}, api.MaxBody)
	for i := range api.MaxActions {
		p.Actions = append(p.Actions, api.Action{Name: "a" + string(rune('a'+i)), Body: slices.Clone(body)})
	}
	// One line grows after the other, as far as it may.
	for i := range api.MaxActions * api.MaxBody {
		at, n := &p.Actions[i/api.MaxBody].Body[i%api.MaxBody].Value, 1
		for ; n < api.MaxExpr && longText(p) < size-20; n++ {
			*at = append(op(api.ExprNot), *at...)
		}
		if n < api.MaxExpr {
			break
		}
	}
	for longText(p) < size {
		name := &p.Name
		if len(p.Name) == api.MaxName {
			name = &p.States[0].Name
		}
		*name += "x"
	}
	if d := program.Check(p); d.Code != api.OK || longText(p) != size {
		t.Fatalf("no program of %d bytes, but of %d: %v", size, longText(p), d)
	}
	return p
}

// longText counts the bytes of the text of a program that longProgram makes.
func longText(p api.Program) int {
	n := len(leastText) - 2 + len(p.Name) + len(p.States[0].Name)
	for _, a := range p.Actions {
		n += len("action () {\n}\n") + len(a.Name)
		for _, s := range a.Body {
			n += len("  meta.in = \n")
			switch count := len(s.Value) - 1; count {
			case 0:
				n += len("meta.in")
			default:
				n += len("~meta.in") + (count-1)*len("~()")
			}
		}
	}
	return n
}

// P22.1: texts of MaxText bytes, and longer ones
func TestFormatLong(t *testing.T) {
	for _, size := range []int{api.MaxText - 1, api.MaxText} {
		s, d := progtext.Format(longProgram(t, size))
		if len(s) != size || d != (api.Diagnostic{}) {
			t.Errorf("Format of a program of %d bytes = %d bytes, %v", size, len(s), d)
		}
	}
	for _, size := range []int{api.MaxText + 1, api.MaxText + 2, api.MaxText + 700} {
		expectFormat(t, longProgram(t, size), "", api.Diagnostic{Code: api.ErrLong})
	}
}

// P22.1, P22.2: a text that isn't too long may have more than MaxTokens tokens. Format answers it, as P22.1 names no
// limit of tokens; Parse answers the error of the lexer.
func TestManyTokens(t *testing.T) {
	s, d := progtext.Format(longProgram(t, 8000))
	if len(s) != 8000 || d.Code != api.OK {
		t.Fatalf("Format = %q, %v", s, d)
	}
	_, line, e := lexer.Tokenize(s)
	if line == 0 || e != api.ErrLimit {
		t.Fatalf("Tokenize: %d, %v", line, e)
	}
	expectFault(t, s, line, e)
}

// withNoise answers p with something in the fields that a kind or operator doesn't use.
func withNoise(p api.Program) api.Program {
	p = program.Clone(p)
	for i := range p.Actions {
		for j := range p.Actions[i].Body {
			noisyStatement(&p.Actions[i].Body[j])
		}
	}
	for i := range p.States {
		if !p.States[i].Select {
			p.States[i].On = at(77, -5)
		}
	}
	noisyControl(p.Control)
	return p
}

func noisyStatement(s *api.Statement) {
	assigns, reads, writes := s.Kind == api.StmtAssign, s.Kind == api.StmtRead, s.Kind == api.StmtWrite
	if !assigns && !reads {
		s.Dst = at(-9, 9)
	}
	if !reads && !writes {
		s.Register, s.Index = -9, append(op(99), constant(-1, -1)...)
	}
	if !assigns && !writes {
		s.Value = op(99)
	}
	if assigns || reads || writes {
		s.Header = 99
	}
	if reads || writes {
		noisyNodes(s.Index)
	}
	if assigns || writes {
		noisyNodes(s.Value)
	}
}

func noisyNodes(n nodes) {
	for i, x := range n {
		switch x.Op {
		case api.ExprConst, api.ExprField, api.ExprSlice:
		case api.ExprParam, api.ExprValid, api.ExprShl, api.ExprShr:
			n[i].W = -77
		default:
			n[i].N, n[i].W = 77, -77
		}
	}
}

func noisyControl(c []api.ControlNode) {
	for i := range c {
		if c[i].Kind == api.ControlIf {
			c[i].Table = -99
			noisyNodes(c[i].Cond)
		} else {
			c[i].Cond = append(op(99), constant(-1, -1)...)
		}
		noisyControl(c[i].Then)
		noisyControl(c[i].Else)
	}
}

// P22.4: programs are read as they were written, but for the fields that aren't used.
func TestRoundTrip(t *testing.T) {
	for _, p := range append(built(t, 22, 3000), least(), rich()) {
		s, d := progtext.Format(p)
		if d != (api.Diagnostic{}) {
			t.Fatalf("Format(%+v): %v", p, d)
		}
		if len(tokenTexts(t, s)) > api.MaxTokens {
			t.Fatal("too many tokens for this test")
		}
		expectParse(t, s, p)
		noisy := withNoise(p)
		if d := program.Check(noisy); d.Code != api.OK {
			t.Fatalf("Check(%+v) = %v", noisy, d)
		}
		expectFormat(t, noisy, s, api.Diagnostic{})
	}
}

// P22.1: every line is indented by the braces around it, and no space stands at its end.
func TestLines(t *testing.T) {
	for _, p := range append(built(t, 23, 300), rich()) {
		s, _ := progtext.Format(p)
		if !strings.HasSuffix(s, "\n") {
			t.Errorf("%q has no newline at its end", s)
		}
		depth := 0
		for line := range strings.Lines(s) {
			line = strings.TrimSuffix(line, "\n")
			text := strings.TrimLeft(line, " ")
			if strings.HasPrefix(text, "}") {
				depth--
			}
			if text == "" || strings.HasSuffix(line, " ") || len(line)-len(text) != 2*depth || strings.Contains(text, "  ") {
				t.Errorf("the line %q of %q", line, s)
			}
			if strings.HasSuffix(text, "{") {
				depth++
			}
		}
	}
}
