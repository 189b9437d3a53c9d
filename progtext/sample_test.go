package progtext_test

import (
	"slices"
	"strings"
	"testing"

	"patchbay/api"
	"patchbay/lexer"
	"patchbay/program"
	"patchbay/progtext"
)

const longName = "abcdefghijklmn_9" // of MaxName bytes

// random is a row of numbers that look like no rule, the same ones for the same seed.
type random uint64

func (r *random) bits() uint32 {
	*r = *r*6364136223846793005 + 1442695040888963407
	return uint32(*r >> 32)
}

func (r *random) below(n int) int { return int(r.bits()>>4) % n }

func (r *random) chance(n int) bool { return r.below(n) == 0 }

func pick[T any](r *random, l []T) T { return l[r.below(len(l))] }

type nodes = []api.ExprNode

func op(o int) nodes { return nodes{{Op: o}} }

func constant(n, w int) nodes { return nodes{{Op: api.ExprConst, N: n, W: w}} }

func field(header, field int) nodes { return nodes{{Op: api.ExprField, N: header, W: field}} }

func param(i int) nodes { return nodes{{Op: api.ExprParam, N: i}} }

func valid(header int) nodes { return nodes{{Op: api.ExprValid, N: header}} }

func at(header, field int) api.FieldRef { return api.FieldRef{Header: header, Field: field} }

func goodMetadata() []api.Field {
	return []api.Field{{Name: "in", Width: 8}, {Name: "out", Width: 8}, {Name: "drop", Width: 1}}
}

func least() api.Program {
	return api.Program{Name: "p", Metadata: goodMetadata(), States: []api.ParserState{{Name: "s", Default: api.Accept}}}
}

const leastText = `program p
metadata {
  in: 8
  out: 8
  drop: 1
}
state s {
  default accept
}
control {
}
deparser
`

// rich answers a program with all that a text can have. Many of its names are keywords.
func rich() api.Program {
	return api.Program{
		Name: "program",
		Headers: []api.Header{
			{Name: "h", Fields: []api.Field{{Name: "f", Width: 8}, {Name: "meta", Width: 4}, {Name: "in", Width: 4}}},
			{Name: "add", Fields: []api.Field{{Name: "remove", Width: 16}}},
			{Name: "metadata", Fields: []api.Field{{Name: "f", Width: 32}, {Name: longName, Width: 8}}},
		},
		Metadata:  append(goodMetadata(), api.Field{Name: "n", Width: 16}, api.Field{Name: "meta", Width: 32}),
		Registers: []api.Register{{Name: "r", Width: 8, Size: 4}, {Name: "remove", Width: 16, Size: 64}},
		Actions: []api.Action{
			{Name: "nop"},
			{Name: "set", Params: []api.Field{{Name: "v", Width: 8}, {Name: "meta", Width: 16}}, Body: []api.Statement{
				{Kind: api.StmtAssign, Dst: at(0, 0), Value: param(0)},
				{Kind: api.StmtAssign, Dst: at(-1, 4), Value: slices.Concat(op(api.ExprIf), valid(2), field(2, 0), op(api.ExprConcat), param(1), field(1, 0))},
				{Kind: api.StmtAddHeader, Header: 0},
				{Kind: api.StmtRemoveHeader, Header: 1},
				{Kind: api.StmtRead, Dst: at(0, 0), Register: 0, Index: constant(3, 8)},
				{Kind: api.StmtRead, Dst: at(1, 0), Register: 1, Index: slices.Concat(op(api.ExprAdd), param(0), field(0, 0))},
				{Kind: api.StmtWrite, Register: 1, Index: field(0, 1), Value: field(-1, 3)},
				{Kind: api.StmtWrite, Register: 0, Index: nodes{{Op: api.ExprSlice, N: 2, W: 3}, {Op: api.ExprField}}, Value: append(op(api.ExprNot), param(0)...)},
			}},
			{Name: "default", Params: []api.Field{{Name: "x", Width: 1}}},
		},
		Tables: []api.Table{
			{Name: "t", Keys: []api.TableKey{{Field: at(0, 0), Kind: api.MatchExact}, {Field: at(1, 0), Kind: api.MatchLPM}, {Field: at(-1, 3), Kind: api.MatchTernary}},
				Actions: []int{1, 0, 2}, Default: api.ActionCall{Action: 1, Args: []uint32{255, 0}}, Size: 256},
			{Name: "size", Actions: []int{2}, Default: api.ActionCall{Action: 2, Args: []uint32{1}}, Size: 1},
			{Name: "apply", Actions: []int{0, 2}, Size: 16},
		},
		States: []api.ParserState{
			{Name: "start", Extract: []int{0, 1}, Select: true, On: at(2, 0), Cases: []api.SelectCase{{Value: 1<<32 - 1, Mask: 1<<32 - 1, Next: 2}, {Value: 0, Mask: 1, Next: api.Accept}, {Next: api.Reject}}, Default: 1},
			{Name: "reject", Extract: []int{2}, Default: api.Reject},
			{Name: "goto", Select: true, On: at(-1, 0), Default: api.Accept},
		},
		Control: []api.ControlNode{
			{Kind: api.ControlIf, Cond: slices.Concat(op(api.ExprEqual), field(0, 0), constant(7, 8)),
				Then: []api.ControlNode{{Kind: api.ControlApply, Table: 0}, {Kind: api.ControlIf, Cond: valid(0)}},
				Else: []api.ControlNode{{Kind: api.ControlHit, Table: 1, Else: []api.ControlNode{{Kind: api.ControlApply, Table: 2}}}}},
			{Kind: api.ControlIf, Cond: field(-1, 2)},
		},
		Deparser: []int{2, 0},
	}
}

const richText = `program program
header h {
  f: 8
  meta: 4
  in: 4
}
header add {
  remove: 16
}
header metadata {
  f: 32
  abcdefghijklmn_9: 8
}
metadata {
  in: 8
  out: 8
  drop: 1
  n: 16
  meta: 32
}
register r: 8[4]
register remove: 16[64]
action nop() {
}
action set(v: 8, meta: 16) {
  h.f = @v
  meta.meta = valid(metadata) ? metadata.f : (@meta ++ add.remove)
  add h
  remove add
  h.f = r[3:8]
  add.remove = remove[@v + h.f]
  remove[h.meta] = meta.n
  r[h.f[2+3]] = ~@v
}
action default(x: 1) {
}
table t {
  key h.f: exact
  key add.remove: lpm
  key meta.n: ternary
  actions set, nop, default
  default set(255, 0)
  size 256
}
table size {
  actions default
  default default(1)
  size 1
}
table apply {
  actions nop, default
  default nop()
  size 16
}
state start {
  extract h
  extract add
  select metadata.f
  case 4294967295 & 4294967295 -> goto goto
  case 0 & 1 -> accept
  case 0 & 0 -> reject
  default goto reject
}
state reject {
  extract metadata
  default reject
}
state goto {
  select meta.in
  default accept
}
control {
  if (h.f == 7:8) {
    apply t
    if (valid(h)) {
    } else {
    }
  } else {
    hit size {
    } else {
      apply apply
    }
  }
  if (meta.drop) {
  } else {
  }
}
deparser metadata, h
`

func isZero(p api.Program) bool { return program.Equal(p, api.Program{}) }

func expectFormat(t *testing.T, p api.Program, want string, wantDiagnostic api.Diagnostic) {
	t.Helper()
	before := program.Clone(p)
	if s, d := progtext.Format(p); s != want || d != wantDiagnostic {
		t.Errorf("Format(%+v) = %q, %v, want %q, %v", p, s, d, want, wantDiagnostic)
	}
	if !program.Equal(p, before) {
		t.Errorf("Format changes %+v to %+v", before, p)
	}
}

func expectParse(t *testing.T, s string, want api.Program) {
	t.Helper()
	if p, line, e := progtext.Parse(s); !program.Equal(p, want) || line != 0 || e != api.OK {
		t.Errorf("Parse(%q) = %+v, %d, %v, want %+v", s, p, line, e, want)
	}
}

func expectFault(t *testing.T, s string, wantLine int, want api.Errno) {
	t.Helper()
	if p, line, e := progtext.Parse(s); line != wantLine || e != want || !isZero(p) {
		lines := strings.Split(s, "\n")
		from, to := max(0, min(line, wantLine)-10), min(len(lines), max(line, wantLine)+9)
		t.Errorf("Parse(.. %q ..) = %+v, %d, %v, want %d, %v; the excerpt begins with line %d", strings.Join(lines[from:to], "\n"), p, line, e, wantLine, want, from+1)
	}
}

func tokenTexts(t *testing.T, s string) []string {
	t.Helper()
	l, line, e := lexer.Tokenize(s)
	if e != api.OK {
		t.Fatalf("Tokenize(%q): %d, %v", s, line, e)
	}
	texts := make([]string, len(l))
	for i, x := range l {
		texts[i] = x.Text
	}
	return texts
}

// onLines writes every token on a line of its own, so that the line tells the token.
func onLines(tokens []string) string { return strings.Join(tokens, "\n") }

// builder makes valid programs at random.
type builder struct {
	*random
	program api.Program
	params  []api.Field
}

// names answers distinct names, of which many are keywords.
func (b *builder) names(n int, without ...string) []string {
	all := strings.Fields("program header metadata meta register action add remove valid table key actions default size exact lpm ternary state extract select case accept reject goto control apply if else hit deparser in out drop a b c x0 x_ " + longName)
	var l []string
	for len(l) < n {
		if name := pick(b.random, all); !slices.Contains(l, name) && !slices.Contains(without, name) {
			l = append(l, name)
		}
	}
	return l
}

func (b *builder) fields(names []string) []api.Field {
	var l []api.Field
	for _, name := range names {
		l = append(l, api.Field{Name: name, Width: pick(b.random, []int{1, 1, 2, 4, 8, 8, 16, 32, 1 + b.below(32)})})
	}
	return l
}

func (b *builder) header(name string) api.Header {
	h := api.Header{Name: name, Fields: b.fields(b.names(1 + b.below(5)))}
	total := 0
	for _, f := range h.Fields {
		total += f.Width
	}
	if total%8 > 0 {
		h.Fields = append(h.Fields, api.Field{Name: "rest", Width: 8 - total%8})
	}
	return h
}

// place is a field with its width.
type place struct {
	ref   api.FieldRef
	width int
}

func (b *builder) places() []place {
	var l []place
	for i, f := range b.program.Metadata {
		l = append(l, place{at(-1, i), f.Width})
	}
	for h, x := range b.program.Headers {
		for i, f := range x.Fields {
			l = append(l, place{at(h, i), f.Width})
		}
	}
	return l
}

// atoms answers the expressions of one node that have a width.
func (b *builder) atoms(w int) []nodes {
	l := []nodes{constant(int(b.bits()>>(32-w)), w)}
	for _, x := range b.places() {
		if x.width == w {
			l = append(l, field(x.ref.Header, x.ref.Field))
		}
	}
	for i, f := range b.params {
		if f.Width == w {
			l = append(l, param(i))
		}
	}
	if w == 1 {
		for h := range b.program.Headers {
			l = append(l, valid(h))
		}
	}
	return l
}

func (b *builder) expression(w, depth int) nodes {
	if depth == 0 || b.chance(3) {
		return pick(b.random, b.atoms(w))
	}
	sub := func(w int) nodes { return b.expression(w, depth-1) }
	switch b.below(7) {
	case 0:
		return append(op(api.ExprNot), sub(w)...)
	case 1:
		return append(nodes{{Op: pick(b.random, []int{api.ExprShl, api.ExprShr}), N: b.below(32)}}, sub(w)...)
	case 2:
		wide := w + b.below(33-w)
		return append(nodes{{Op: api.ExprSlice, N: b.below(wide - w + 1), W: w}}, sub(wide)...)
	case 3:
		return slices.Concat(op(api.ExprIf), sub(1), sub(w), sub(w))
	case 4:
		if w == 1 {
			wide := 1 + b.below(32)
			return slices.Concat(op(pick(b.random, []int{api.ExprEqual, api.ExprLess})), sub(wide), sub(wide))
		}
		left := 1 + b.below(w-1)
		return slices.Concat(op(api.ExprConcat), sub(left), sub(w-left))
	}
	return slices.Concat(op(api.ExprAdd+b.below(5)), sub(w), sub(w))
}

// anyExpression answers an expression that isn't too long.
func (b *builder) anyExpression(w int) nodes {
	if n := b.expression(w, 3); len(n) <= api.MaxExpr {
		return n
	}
	return b.expression(w, 1)
}

func (b *builder) statement() api.Statement {
	dst := pick(b.random, b.places())
	kind := api.StmtAssign + b.below(5)
	switch registers := b.program.Registers; {
	case kind == api.StmtAddHeader || kind == api.StmtRemoveHeader:
		if n := len(b.program.Headers); n > 0 {
			return api.Statement{Kind: kind, Header: b.below(n)}
		}
	case kind == api.StmtWrite && len(registers) > 0:
		r := b.below(len(registers))
		return api.Statement{Kind: kind, Register: r, Index: b.anyExpression(1 + b.below(32)), Value: b.anyExpression(registers[r].Width)}
	case kind == api.StmtRead && len(registers) > 0:
		r := b.below(len(registers))
		if registers[r].Width == dst.width {
			return api.Statement{Kind: kind, Dst: dst.ref, Register: r, Index: b.anyExpression(1 + b.below(32))}
		}
	}
	return api.Statement{Kind: api.StmtAssign, Dst: dst.ref, Value: b.anyExpression(dst.width)}
}

func (b *builder) action(name string) api.Action {
	a := api.Action{Name: name, Params: b.fields(b.names(b.below(5)))}
	b.params = a.Params
	for range b.below(5) {
		a.Body = append(a.Body, b.statement())
	}
	b.params = nil
	return a
}

func (b *builder) table(name string) api.Table {
	t := api.Table{Name: name, Size: 1 + b.below(256)}
	left, hasLPM := api.MaxKeyBits, false
	for range b.below(7) {
		x := pick(b.random, b.places())
		kind := 1 + b.below(3)
		if x.width <= left && !(hasLPM && kind == api.MatchLPM) {
			t.Keys = append(t.Keys, api.TableKey{Field: x.ref, Kind: kind})
			left -= x.width
			hasLPM = hasLPM || kind == api.MatchLPM
		}
	}
	for a := range b.program.Actions {
		if b.chance(2) {
			t.Actions = append(t.Actions, a)
		}
	}
	if len(t.Actions) == 0 {
		t.Actions = []int{0}
	}
	t.Default.Action = pick(b.random, t.Actions)
	for _, f := range b.program.Actions[t.Default.Action].Params {
		t.Default.Args = append(t.Default.Args, b.bits()>>(32-f.Width))
	}
	return t
}

func (b *builder) next(i, n int) int {
	if i+1 < n && b.chance(2) {
		return i + 1 + b.below(n-i-1)
	}
	return -1 - b.below(2)
}

func (b *builder) state(name string, i, n int) api.ParserState {
	s := api.ParserState{Name: name, Default: b.next(i, n)}
	if len(b.program.Headers) > 0 {
		for range b.below(5) {
			s.Extract = append(s.Extract, b.below(len(b.program.Headers)))
		}
	}
	if b.chance(2) {
		return s
	}
	x := pick(b.random, b.places())
	s.Select, s.On = true, x.ref
	for range b.below(5) {
		mask := b.bits() >> (32 - x.width)
		s.Cases = append(s.Cases, api.SelectCase{Value: b.bits() & mask, Mask: mask, Next: b.next(i, n)})
	}
	return s
}

// control answers nodes that apply each of the tables once.
func (b *builder) control(tables []int, nesting int) []api.ControlNode {
	var l []api.ControlNode
	for len(tables) > 0 {
		t := tables[0]
		tables = tables[1:]
		n := api.ControlNode{Kind: api.ControlApply, Table: t}
		if nesting < api.MaxNesting && b.chance(2) {
			n.Kind = api.ControlHit
			if b.chance(2) {
				n = api.ControlNode{Kind: api.ControlIf, Cond: b.anyExpression(1)}
				tables = append([]int{t}, tables...)
			}
			i := b.below(len(tables) + 1)
			j := i + b.below(len(tables)-i+1)
			n.Then, n.Else = b.control(tables[:i], nesting+1), b.control(tables[i:j], nesting+1)
			tables = tables[j:]
		}
		l = append(l, n)
		if len(l) > 6 {
			break
		}
	}
	return l
}

func (b *builder) build() api.Program {
	p := &b.program
	*p = api.Program{Name: b.names(1)[0], Metadata: append(goodMetadata(), b.fields(b.names(b.below(6), "in", "out", "drop"))...)}
	for _, name := range b.names(b.below(6), "meta") {
		p.Headers = append(p.Headers, b.header(name))
	}
	for _, name := range b.names(b.below(4)) {
		p.Registers = append(p.Registers, api.Register{Name: name, Width: pick(b.random, []int{1, 8, 16}), Size: 1 + b.below(64)})
	}
	for _, name := range b.names(1 + b.below(5)) {
		p.Actions = append(p.Actions, b.action(name))
	}
	var tables []int
	for i, name := range b.names(b.below(6)) {
		p.Tables = append(p.Tables, b.table(name))
		tables = append(tables, i)
	}
	states := b.names(1 + b.below(6))
	for i, name := range states {
		p.States = append(p.States, b.state(name, i, len(states)))
	}
	p.Control = b.control(tables, 1)
	for i := range p.Headers {
		if b.chance(2) {
			p.Deparser = append([]int{i}, p.Deparser...)
		}
	}
	return *p
}

// built answers valid programs of all kinds, the same ones for the same seed.
func built(t *testing.T, seed random, n int) []api.Program {
	t.Helper()
	b := builder{random: &seed}
	var l []api.Program
	for len(l) < n {
		p := program.Clone(b.build())
		if d := program.Check(p); d.Code == api.ErrLimit && d.Part == program.PartControl {
			continue // the conditions made too many nodes
		} else if d.Code != api.OK {
			t.Fatalf("%+v: %v", p, d)
		}
		l = append(l, p)
	}
	return l
}
