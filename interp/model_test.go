package interp_test

import (
	"math/bits"
	"strconv"
	"testing"

	"patchbay/action"
	"patchbay/api"
	"patchbay/control"
	"patchbay/deparser"
	"patchbay/expr"
	"patchbay/exprtext"
	"patchbay/interp"
	"patchbay/parser"
	"patchbay/program"
	"patchbay/store"
)

// model executes a program as section 26.1 tells, step by step.
type model struct {
	program api.Program
	config  api.Config
	state   api.Env
	hits    []api.Hit
}

func (m *model) field(r api.FieldRef) uint32 {
	if r.Header == api.Metadata {
		return m.state.Meta[r.Field]
	}
	return m.state.Fields[r.Header][r.Field] // 0 if the header is invalid
}

func matches(x api.Entry, key []uint32) bool {
	for i, k := range x.Keys {
		if key[i]&k.Mask != k.Value {
			return false
		}
	}
	return true
}

// rank tells how high an entry of a table stands, but for its ID.
func rank(t api.Table, x api.Entry) int {
	n := x.Priority * 100
	for i, k := range t.Keys {
		if k.Kind == api.MatchLPM {
			n += bits.OnesCount32(x.Keys[i].Mask)
		}
	}
	return n
}

func (m *model) apply(i int) bool {
	t := m.program.Tables[i]
	var key []uint32
	for _, k := range t.Keys {
		key = append(key, m.field(k.Field))
	}
	selected := api.Row{Entry: api.Entry{Call: m.config.Defaults[i]}}
	for _, r := range m.config.Rows[i] { // in ascending order of ID
		if matches(r.Entry, key) && (selected.ID == 0 || rank(t, r.Entry) > rank(t, selected.Entry)) {
			selected = r
		}
	}
	c := selected.Entry.Call
	m.hits = append(m.hits, api.Hit{Table: i, Row: selected.ID, Action: c.Action})
	m.state, m.config.Registers = action.Execute(m.program, c, m.state, m.config.Registers)
	return selected.ID != 0
}

func (m *model) execute(l []api.ControlNode) {
	for _, n := range l {
		var taken bool
		switch n.Kind {
		case api.ControlApply:
			m.apply(n.Table)
			continue
		case api.ControlHit:
			taken = m.apply(n.Table)
		case api.ControlIf:
			taken = expr.Eval(n.Cond, expr.Scope{Program: m.program}, m.state, nil) == 1
		}
		if taken {
			m.execute(n.Then)
		} else {
			m.execute(n.Else)
		}
	}
}

func wantRun(p api.Program, c api.Config, k api.Packet) (api.Result, api.Config) {
	if program.Check(p).Code != api.OK || store.Check(p, c) != api.OK || k.Port < 0 || k.Port > 255 {
		return api.Result{Drop: true}, c
	}
	e, code := parser.Parse(p, k.Data)
	if code != api.OK {
		return api.Result{Drop: true}, c
	}
	m := model{program: p, config: copied(c), state: e}
	m.state.Meta[api.MetaIn] = uint32(k.Port)
	m.execute(p.Control)
	data := deparser.Emit(p, m.state)
	if m.state.Meta[api.MetaDrop] == 1 || len(data) > api.MaxPacket {
		return api.Result{Drop: true, Hits: m.hits}, m.config
	}
	return api.Result{Port: int(m.state.Meta[api.MetaOut]), Data: data, Hits: m.hits}, m.config
}

// base has what random programs have in common: all but the tables, the control flow and the deparser.
func base() api.Program {
	return parsed(`program p
		header e { kind: 2 more: 6 }
		header v { tag: 4 rest: 4 }
		header h { a: 8 b: 3 c: 5 }
		header big { w0: 32 w1: 32 w2: 32 w3: 32 w4: 32 w5: 32 w6: 32 w7: 32 w8: 32 w9: 32 w10: 32 w11: 32 }
		metadata { in: 8 out: 8 drop: 1 n: 8 m: 3 }
		register seen: 8[4]
		register wide: 32[1]
		action none() { }
		action send(port: 8) { meta.out = @port }
		action drop(d: 1) { meta.drop = @d }
		action push(tag: 4, kind: 2) { add v v.tag = @tag e.kind = @kind }
		action pop() { remove v }
		action count(cell: 8) { meta.n = seen[@cell] seen[@cell] = meta.n + 1:8 h.a = meta.n }
		action by() { meta.n = seen[h.a] meta.m = h.b wide[0:1] = big.w0 seen[meta.in] = 7:8 }
		action step() { h.a = h.a + 1:8 h.b = h.b ^ meta.m meta.m = h.b + 1:3 }
		action grow() { add big big.w11 = 4294967295:32 }
		action strip() { remove h remove e }
		state start { extract e select e.kind case 1 & 3 -> goto plain case 2 & 2 -> goto tagged default goto bare }
		state tagged { extract v select v.tag case 0 & 12 -> goto bare case 15 & 15 -> reject default goto plain }
		state plain { extract h select h.b case 7 & 7 -> goto large default accept }
		state bare { default accept }
		state large { extract big default accept }
		control { }
		deparser e, v, h, big`)
}

func randomCall(r *random) api.ActionCall {
	return pick(r, []api.ActionCall{call(0), call(1, r.bits()%256), call(1, r.bits()%4), call(2, r.bits()%2), call(3, r.bits()%16, r.bits()%4), call(4), call(5, r.bits()%5), call(6), call(7), call(7), call(8), call(9)})
}

// randomTable answers a table of at most three keys that allows all actions.
func randomTable(r *random, name string) api.Table {
	t := api.Table{Name: name, Actions: []int{9, 8, 7, 6, 5, 4, 3, 2, 1, 0}, Default: randomCall(r), Size: 1 + r.below(9)}
	kinds := pick(r, [][]int{{api.MatchExact}, {api.MatchLPM, api.MatchExact, api.MatchExact}, {api.MatchTernary, api.MatchLPM, api.MatchTernary}, {api.MatchTernary}})
	fields := []api.FieldRef{{Header: -1, Field: 0}, {Header: -1, Field: 1}, {Header: -1, Field: 3}, {Header: -1, Field: 4}, {Header: 0}, {Header: 1}, {Header: 2}, {Header: 2, Field: 1}, {Header: 2, Field: 1}, {Header: 3}}
	for i := range r.below(4) {
		t.Keys = append(t.Keys, api.TableKey{Field: pick(r, fields), Kind: kinds[i%len(kinds)]})
	}
	return t
}

// randomControl answers nodes that apply the tables that are left, each once.
func randomControl(r *random, left *int, tables, depth int) []api.ControlNode {
	conds := []string{"valid(v)", "valid(h)", "meta.drop", "h.a < 3:8", "meta.m == h.b", "~valid(big)", "e.kind[0+1]", "1:1", "v.tag < (h.a[0+4])"}
	var l []api.ControlNode
	for range 1 + r.below(3) {
		n := api.ControlNode{Kind: 1 + r.below(3)}
		if n.Kind != api.ControlIf {
			if *left == tables {
				continue
			}
			n.Table = *left
			*left++
		} else {
			n.Cond = parsedCond(pick(r, conds))
		}
		if n.Kind != api.ControlApply && depth < 4 {
			n.Then = randomControl(r, left, tables, depth+1)
			n.Else = randomControl(r, left, tables, depth+1)
		}
		l = append(l, n)
	}
	return l
}

func parsedCond(text string) []api.ExprNode {
	n, e := exprtext.Parse(text, expr.Scope{Program: base()})
	if e != api.OK {
		panic(text + ": " + e.Error())
	}
	return n
}

// randomProgram answers a valid program.
func randomProgram(r *random) api.Program {
	for {
		p := base()
		for i := range r.below(7) {
			p.Tables = append(p.Tables, randomTable(r, "t"+strconv.Itoa(i)))
		}
		left := 0
		p.Control = randomControl(r, &left, len(p.Tables), 1)
		if r.chance(3) {
			p.Deparser = p.Deparser[r.below(5):]
		}
		if program.Check(p).Code == api.OK {
			return p
		}
	}
}

// randomKey answers a match of few values, so that packets meet it.
func randomKey(r *random, kind, width int) api.KeyMatch {
	all := uint32(uint64(1)<<width - 1)
	mask := all
	switch kind {
	case api.MatchLPM:
		mask = all &^ (all >> r.below(width+1))
	case api.MatchTernary:
		mask = pick(r, []uint32{0, 1, 2, 3, all}) & all
	}
	return match(pick(r, []uint32{0, 1, 2, 3, 128, r.bits()})&mask, mask)
}

// randomConfig answers a valid configuration.
func randomConfig(r *random, p api.Program) api.Config {
	s, _ := store.New(p)
	for i, t := range p.Tables {
		for range r.below(2 * t.Size) {
			x := api.Entry{Call: randomCall(r)}
			for _, k := range t.Keys {
				fields := p.Metadata
				if k.Field.Header >= 0 {
					fields = p.Headers[k.Field.Header].Fields
				}
				x.Keys = append(x.Keys, randomKey(r, k.Kind, fields[k.Field.Field].Width))
				if k.Kind == api.MatchTernary {
					x.Priority = r.below(3)
				}
			}
			s.Insert(i, x) // one that is already there, or for which there is no room, is left out
		}
		if r.chance(2) {
			s.SetDefault(i, randomCall(r))
		}
		if r.chance(2) {
			s.Delete(i, 1+r.below(4))
		}
	}
	c := s.Config()
	for i := range c.Registers[0] {
		c.Registers[0][i] = pick(r, []uint32{0, 1, 255, r.bits() % 256})
	}
	c.Registers[1][0] = r.bits()
	return c
}

func randomPacket(r *random) api.Packet {
	k := packet(pick(r, []int{0, 1, 2, 3, 128, 255}))
	n := r.below(9)
	switch r.below(12) {
	case 0:
		n = 450 + r.below(64)
	case 1:
		n = 40 + r.below(20)
	case 2:
		k.Port = pick(r, append([]int{256, -1}, wrongNumbers...))
	}
	for range n {
		k.Data = append(k.Data, byte(pick(r, []uint32{0, 1, 2, 3, 64, 128, 0xe0, 0xf0, r.bits() % 256})))
	}
	if n > 0 {
		k.Data[0] = byte(pick(r, []uint32{0x40, 0x40, 0x80, 0xc0, 0, r.bits() % 256}))
	}
	return k
}

// seen counts what becomes of packets.
type seen struct{ sent, dropped, refused, hits, misses, written, nodes int }

func (s *seen) count(m api.Result, before, after api.Config) {
	switch {
	case !m.Drop:
		s.sent++
	case len(m.Hits) > 0:
		s.dropped++
	default:
		s.refused++
	}
	for _, h := range m.Hits {
		if h.Row > 0 {
			s.hits++
		} else {
			s.misses++
		}
	}
	if !same(before.Registers, after.Registers) {
		s.written++
	}
}

// expectOnce is 26.3: rows, IDs and defaults stay, and no table is applied twice.
func expectOnce(t *testing.T, m api.Result, before, after api.Config) {
	t.Helper()
	if !same(withRegisters(before, nil), withRegisters(after, nil)) {
		t.Errorf("the configuration %+v becomes %+v", before, after)
	}
	applied := map[int]bool{}
	for _, h := range m.Hits {
		if applied[h.Table] {
			t.Errorf("table %d is applied twice: %+v", h.Table, m)
		}
		applied[h.Table] = true
	}
}

// 26.1 to 26.3: random programs, configurations and packets, held against the words of the chapter
func TestRandomRuns(t *testing.T) {
	r := random(26)
	var s seen
	for range 700 {
		p := randomProgram(&r)
		c := randomConfig(&r, p)
		s.nodes += control.Count(p.Control)
		var l []api.Packet
		var want []api.Result
		after := c
		for range 1 + r.below(8) {
			k := randomPacket(&r)
			m, d := wantRun(p, after, k)
			s.count(m, after, d)
			if len(l) == 0 {
				expectRun(t, "a random packet", p, c, k, m, d)
			}
			got, e := interp.Run(p, after, k)
			if !same(got, m) || !same(e, d) {
				t.Errorf("Run of %+v: %+v, %+v, want %+v, %+v", k, got, e, m, d)
			}
			expectOnce(t, got, after, e)
			l, want, after = append(l, k), append(want, m), d
		}
		expectRunAll(t, "random packets", p, c, l, want, after)
		if t.Failed() {
			t.Logf("the program is %+v", p)
			return
		}
	}
	if s.sent < 500 || s.dropped < 80 || s.refused < 100 || s.hits < 500 || s.misses < 500 || s.written < 200 || s.nodes < 3000 {
		t.Errorf("too little is met: %+v", s)
	}
}

// 26.1: as many tables as a program may have, each with as many rows as it may have
func TestLimits(t *testing.T) {
	const step = 7
	p := base()
	p.Deparser = nil
	for i := range api.MaxTables {
		key := api.TableKey{Field: api.FieldRef{Header: 2}, Kind: api.MatchTernary}
		p.Tables = append(p.Tables, api.Table{Name: "t" + strconv.Itoa(i), Keys: []api.TableKey{key}, Actions: []int{step}, Default: call(step), Size: api.MaxRows})
		p.Control = append(p.Control, api.ControlNode{Kind: api.ControlApply, Table: i})
	}
	c := store.EmptyConfig(p)
	for i := range p.Tables {
		for id := 1; id <= api.MaxRows; id++ {
			c.Rows[i] = append(c.Rows[i], api.Row{ID: id, Entry: entryOf(id-1, call(step), match(1, 1))})
		}
		c.NextID[i] = 1 << 30
	}
	for a := range byte(2) { // each table adds 1 to h.a, and those that find an odd number hit
		var hits []api.Hit
		for i := range p.Tables {
			hits = append(hits, hit(i, (int(a)+i)%2*api.MaxRows, step))
		}
		expectKept(t, "the limits", p, c, packet(0, 0x40, a, 0, 9), sent(0, []byte{9}, hits...))
	}
}
