package interp_test

import (
	"bytes"
	"math"
	"slices"
	"testing"

	"patchbay/api"
	"patchbay/program"
	"patchbay/store"
)

// The tables and actions of the sample program.
const (
	route, mark, last = 0, 1, 2

	none, send, discard, push, count = 0, 1, 2, 3, 4
)

// sample routes by h.a, and marks what is routed by its port; push adds v, and count adds up in seen. A packet begins with
// its kind: 1 is followed by h, 2 by v and h, and others are rejected.
func sample() api.Program {
	return parsed(`program p
		header e { kind: 8 }
		header v { tag: 4 rest: 4 }
		header h { a: 8 b: 8 }
		metadata { in: 8 out: 8 drop: 1 n: 8 m: 8 }
		register seen: 8[4]
		register other: 16[2]
		action none() { }
		action send(port: 8) { meta.out = @port }
		action discard() { meta.drop = 1:1 }
		action push(tag: 4) { add v v.tag = @tag e.kind = 2:8 }
		action count(cell: 8) { meta.n = seen[@cell] seen[@cell] = meta.n + 1:8 meta.m = h.a }
		table route { key h.a: exact actions none, send, discard, push, count default none() size 8 }
		table mark { key meta.out: ternary key meta.in: lpm actions none, send, discard, push, count default count(1) size 8 }
		table last { actions none, send, discard, push, count default none() size 1 }
		state start { extract e select e.kind case 1 & 255 -> goto plain case 2 & 255 -> goto tagged default reject }
		state tagged { extract v default goto plain }
		state plain { extract h default accept }
		control { hit route { apply mark } else { apply last } }
		deparser e, v, h`)
}

// sampleConfig routes 1 to port 5, drops 2, pushes 3 and counts 4 in cell 2; what is routed to port 5 is counted in cell
// 0 if its own port is below 128.
func sampleConfig() api.Config {
	c := installed(sample(), map[int][]api.Entry{
		route: {entryOf(0, call(send, 5), match(1, 255)), entryOf(0, call(discard), match(2, 255)), entryOf(0, call(push, 9), match(3, 255)), entryOf(0, call(count, 2), match(4, 255))},
		mark:  {entryOf(1, call(none), match(0, 255), match(0, 0)), entryOf(1, call(count, 0), match(5, 255), match(0, 128)), entryOf(0, call(send, 6), match(5, 255), match(0, 0))},
	})
	c.Registers = [][]uint32{{254, 0, 7, 0}, {1, 2}}
	return c
}

// 26.1: example 1
func TestExample1(t *testing.T) {
	p := parsed(`program p header h { f: 8 } metadata { in: 8 out: 8 drop: 1 }
		action other() { } action three() { meta.out = 3:8 }
		table t { actions three default three() size 1 }
		state s { extract h default accept } control { apply t } deparser h`)
	expectKept(t, "example 1", p, store.EmptyConfig(p), packet(0, 0x07, 0x55), sent(3, []byte{0x07, 0x55}, hit(0, 0, 1)))
}

// 26.1: example 2
func TestExample2(t *testing.T) {
	p := parsed(`program p metadata { in: 8 out: 8 drop: 1 } action none() { }
		table t { actions none default none() size 1 }
		state s { default reject } control { apply t } deparser`)
	for _, data := range [][]byte{nil, {7}, {7, 0x55}, make([]byte, 512)} {
		expectKept(t, "example 2", p, store.EmptyConfig(p), api.Packet{Data: data}, dropped())
	}
}

// 26.1, steps 3 to 6: hits and misses, and what the actions do
func TestRun(t *testing.T) {
	p, c := sample(), sampleConfig()
	cells := func(a, b, x, d uint32) api.Config { return withRegisters(c, [][]uint32{{a, b, x, d}, {1, 2}}) }
	expectRun(t, "sent and counted", p, c, packet(4, 1, 1, 9, 77), sent(5, []byte{1, 1, 9, 77}, hit(route, 1, send), hit(mark, 2, count)), cells(255, 0, 7, 0))
	expectRun(t, "sent on", p, c, packet(128, 1, 1, 9), sent(6, []byte{1, 1, 9}, hit(route, 1, send), hit(mark, 3, send)), c)
	expectRun(t, "dropped", p, c, packet(255, 1, 2, 9, 77), dropped(hit(route, 2, discard), hit(mark, 1, none)), c)
	expectRun(t, "pushed", p, c, packet(0, 1, 3, 9, 77), sent(0, []byte{2, 0x90, 3, 9, 77}, hit(route, 3, push), hit(mark, 1, none)), c)
	expectRun(t, "tagged", p, c, packet(0, 2, 0x12, 3, 9), sent(0, []byte{2, 0x92, 3, 9}, hit(route, 3, push), hit(mark, 1, none)), c)
	expectRun(t, "counted", p, c, packet(0, 2, 0x12, 4, 9), sent(0, []byte{2, 0x12, 4, 9}, hit(route, 4, count), hit(mark, 1, none)), cells(254, 0, 8, 0))
	expectRun(t, "a miss", p, c, packet(0, 1, 5, 9), sent(0, []byte{1, 5, 9}, hit(route, 0, none), hit(last, 0, none)), c)
}

// 26.1, step 4: a miss executes the default of the configuration, not the one that the program declares.
func TestDefaults(t *testing.T) {
	p, c := sample(), sampleConfig()
	c.Defaults = []api.ActionCall{call(send, 11), call(send, 12), call(count, 3)}
	expectRun(t, "a miss of both", p, c, packet(1, 1, 0, 0), sent(11, []byte{1, 0, 0}, hit(route, 0, send), hit(last, 0, count)), withRegisters(c, [][]uint32{{254, 0, 7, 1}, {1, 2}}))
	c.Rows[mark] = c.Rows[mark][:1]
	expectKept(t, "a miss behind a hit", p, c, packet(1, 1, 1, 0), sent(12, []byte{1, 1, 0}, hit(route, 1, send), hit(mark, 0, send)))
	c.Defaults[route] = call(discard)
	expectRun(t, "a miss that drops", p, c, packet(1, 1, 0, 0), dropped(hit(route, 0, discard), hit(last, 0, count)), withRegisters(c, [][]uint32{{254, 0, 7, 1}, {1, 2}}))
	c = store.EmptyConfig(p)
	c.Rows[last], c.NextID[last] = []api.Row{{ID: 1, Entry: entryOf(0, call(push, 15))}}, 2
	expectKept(t, "a table without keys that hits", p, c, packet(1, 1, 0, 0), sent(0, []byte{2, 0xf0, 0, 0}, hit(route, 0, none), hit(last, 1, push)))
}

// damages answers programs that program.Check rejects, one for each part.
func damages() []api.Program {
	change := func(do func(p *api.Program)) api.Program {
		p := sample()
		do(&p)
		return p
	}
	l := []api.Program{
		{},
		change(func(p *api.Program) { p.Name = "1" }),
		change(func(p *api.Program) { p.Headers[2].Fields[0].Width = 7 }),
		change(func(p *api.Program) { p.Metadata[1].Width = 9 }),
		change(func(p *api.Program) { p.Metadata = nil }),
		change(func(p *api.Program) { p.Registers[1].Size = 0 }),
		change(func(p *api.Program) { p.Actions[4].Body = slices.Repeat(p.Actions[4].Body, 5) }),
		change(func(p *api.Program) { p.Tables[2].Size = 0 }),
		change(func(p *api.Program) { p.States[0].Default = 0 }),
		change(func(p *api.Program) { p.Control = append(p.Control, p.Control...) }),
		change(func(p *api.Program) { p.Deparser = []int{3} }),
	}
	for _, p := range l {
		if program.Check(p).Code == api.OK {
			panic("a damaged program is valid")
		}
	}
	return l
}

// faulty answers configurations that store.Check rejects.
func faulty() []api.Config {
	change := func(do func(c *api.Config)) api.Config {
		c := sampleConfig()
		do(&c)
		return c
	}
	l := []api.Config{
		{},
		{Rows: [][]api.Row{nil}},
		change(func(c *api.Config) { c.Rows = c.Rows[:2] }),
		change(func(c *api.Config) { c.NextID = append(c.NextID, 1) }),
		change(func(c *api.Config) { c.Defaults = nil }),
		change(func(c *api.Config) { c.Rows[route][1].ID = 1 }),
		change(func(c *api.Config) { c.NextID[last] = 0 }),
		change(func(c *api.Config) { c.Rows[route][1].Entry.Keys = nil }),
		change(func(c *api.Config) { c.Rows[mark][2].Entry.Call.Args[0] = 256 }),
		change(func(c *api.Config) { c.Defaults[last].Action = 5 }),
		change(func(c *api.Config) { c.Registers[0][3] = 256 }),
		change(func(c *api.Config) { c.Registers[0] = append(c.Registers[0], 0) }),
		change(func(c *api.Config) { c.Registers = nil }),
	}
	for _, c := range l {
		if store.Check(sample(), c) == api.OK {
			panic("a faulty configuration is valid")
		}
	}
	return l
}

// 26.1, step 1: an invalid program or configuration drops every packet, and the configuration is handed back as it is.
func TestInvalid(t *testing.T) {
	k := packet(4, 1, 1, 9, 77)
	for _, p := range damages() {
		for _, c := range append(faulty(), sampleConfig(), store.EmptyConfig(p)) {
			expectKept(t, "an invalid program", p, c, k, dropped())
			expectRunAll(t, "an invalid program", p, c, []api.Packet{k, packet(-1), k}, []api.Result{dropped(), dropped(), dropped()}, c)
			expectRunAll(t, "an invalid program", p, c, nil, nil, c)
		}
	}
	for _, c := range faulty() {
		expectKept(t, "an invalid configuration", sample(), c, k, dropped())
		expectRunAll(t, "an invalid configuration", sample(), c, []api.Packet{k, packet(-1), k}, []api.Result{dropped(), dropped(), dropped()}, c)
		expectRunAll(t, "an invalid configuration", sample(), c, nil, nil, c)
	}
	for _, n := range wrongNumbers {
		odd := api.Config{Rows: [][]api.Row{{{ID: n, Entry: entryOf(n, call(n, 1, 2), match(1, 2))}}, nil, {}}, NextID: []int{n, n, n}, Defaults: []api.ActionCall{call(n, 1), {}, call(0)}, Registers: [][]uint32{nil, {1}}}
		expectKept(t, "an odd configuration", sample(), odd, k, dropped())
		expectKept(t, "nothing is valid", api.Program{}, odd, packet(n), dropped())
	}
}

// 26.1, steps 1 and 3: ports from 0 to 255, which the field in then holds
func TestPorts(t *testing.T) {
	p := parsed(`program p metadata { in: 8 out: 8 drop: 1 } action back() { meta.out = meta.in }
		table t { key meta.in: exact actions back default back() size 1 }
		state s { default accept } control { apply t } deparser`)
	c := installed(p, map[int][]api.Entry{0: {entryOf(0, call(0), match(77, 255))}})
	for port := range 256 {
		row := 0
		if port == 77 {
			row = 1
		}
		expectKept(t, "a port", p, c, packet(port, 1, 2), sent(port, []byte{1, 2}, hit(0, row, 0)))
	}
	for _, port := range []int{256, 257, 333, -1, -256, 1 << 8, 1 << 16, 1<<32 + 77, math.MaxInt, math.MinInt} {
		expectKept(t, "a wrong port", p, c, packet(port, 1, 2), dropped())
	}
}

// 26.1, step 2: packets that the parser doesn't take
func TestParserErrors(t *testing.T) {
	p, c := sample(), sampleConfig()
	for _, data := range [][]byte{nil, {}, {1}, {1, 1}, {2}, {2, 1}, {2, 1, 1}, {0, 1, 1, 1}, {3, 1, 1, 1}, {255}} {
		expectKept(t, "a packet that isn't parsed", p, c, api.Packet{Port: 4, Data: data}, dropped())
	}
	long := append([]byte{1, 5}, make([]byte, api.MaxPacket-2)...)
	expectKept(t, "the longest packet", p, c, api.Packet{Data: long}, sent(0, long, hit(route, 0, none), hit(last, 0, none)))
	for _, n := range []int{1, 2, 1000} {
		expectKept(t, "too long a packet", p, c, api.Packet{Data: append(slices.Clone(long), make([]byte, n)...)}, dropped())
	}
}

// 26.1, step 3: all metadata but in begin at 0, for every packet anew.
func TestMetadata(t *testing.T) {
	p := parsed(`program p header h { a: 8 b: 8 c: 8 d: 8 } metadata { in: 8 out: 8 drop: 1 n: 8 wide: 32 }
		action note() { h.a = meta.in h.b = meta.out h.c = meta.n h.d = meta.drop ++ (meta.wide[0+7]) meta.out = 9:8 meta.n = 7:8 meta.wide = 4294967295:32 }
		table t { actions note default note() size 1 }
		state s { extract h default accept } control { apply t } deparser h`)
	c := store.EmptyConfig(p)
	want := func(port int) api.Result { return sent(9, []byte{byte(port), 0, 0, 0}, hit(0, 0, 0)) }
	for _, port := range []int{0, 1, 128, 255} {
		expectKept(t, "metadata", p, c, packet(port, 9, 9, 9, 9), want(port))
	}
	expectRunAll(t, "metadata", p, c, []api.Packet{packet(8, 1, 1, 1, 1), packet(0, 2, 2, 2, 2), packet(5, 1, 1, 1, 1)}, []api.Result{want(8), want(0), want(5)}, c)
}

// 26.1, step 6: drop is looked at behind the control flow only, and comes ahead of out and of the length.
func TestDrop(t *testing.T) {
	p := parsed(`program p header h { a: 8 b: 8 } header v { x: 8 } metadata { in: 8 out: 8 drop: 1 }
		register r: 8[1]
		action set(d: 1, port: 8) { meta.drop = @d meta.out = @port }
		action write() { r[0:8] = 5:8 h.b = 0:7 ++ meta.drop }
		action grow() { add v r[0:8] = 6:8 }
		table first { key h.a: exact actions set default set(0, 1) size 8 }
		table second { actions write default write() size 1 }
		table third { key h.a: exact actions set, grow default set(0, 2) size 8 }
		state s { extract h default accept } control { apply first apply second apply third } deparser v, h`)
	c := installed(p, map[int][]api.Entry{
		0: {entryOf(0, call(0, 1, 8), match(1, 255)), entryOf(0, call(0, 1, 8), match(2, 255)), entryOf(0, call(0, 1, 8), match(3, 255))},
		2: {entryOf(0, call(0, 1, 9), match(1, 255)), entryOf(0, call(2), match(3, 255)), entryOf(0, call(2), match(4, 255))},
	})
	written := func(v uint32) api.Config { return withRegisters(c, [][]uint32{{v}}) }
	expectRun(t, "never dropped", p, c, packet(0, 0, 7), sent(2, []byte{0, 0}, hit(0, 0, 0), hit(1, 0, 1), hit(2, 0, 0)), written(5))
	expectRun(t, "dropped twice", p, c, packet(0, 1, 7), dropped(hit(0, 1, 0), hit(1, 0, 1), hit(2, 1, 0)), written(5))
	expectRun(t, "dropped and taken back", p, c, packet(0, 2, 7), sent(2, []byte{2, 1}, hit(0, 2, 0), hit(1, 0, 1), hit(2, 0, 0)), written(5))
	expectRun(t, "dropped and grown", p, c, packet(0, 3, 7), dropped(hit(0, 3, 0), hit(1, 0, 1), hit(2, 2, 2)), written(6))
	expectRun(t, "grown", p, c, packet(0, 4, 7), sent(1, []byte{0, 4, 0}, hit(0, 0, 0), hit(1, 0, 1), hit(2, 3, 2)), written(6))
	for n, fits := range map[int]bool{508: true, 509: true, 510: false} { // of the payload behind h and v
		k, grown := packet(0, append([]byte{4, 7}, bytes.Repeat([]byte{3}, n)...)...), []byte{0, 4, 0}
		want := dropped(hit(0, 0, 0), hit(1, 0, 1), hit(2, 3, 2))
		if fits {
			want = sent(1, append(grown, k.Data[2:]...), want.Hits...)
		}
		expectRun(t, "grown to the limit", p, c, k, want, written(6))
	}
}

// 26.1, step 4: conditions, keys and actions look at the state as it is then.
func TestCurrentState(t *testing.T) {
	p := parsed(`program p header h { a: 8 b: 8 } header g { x: 8 } metadata { in: 8 out: 8 drop: 1 n: 8 }
		register r: 8[2]
		action inc() { h.a = h.a + 1:8 meta.n = r[0:8] r[0:8] = meta.n + 1:8 }
		action gone() { remove g }
		action to(port: 8) { meta.out = @port }
		table one { actions inc default inc() size 1 }
		table two { key h.a: exact key meta.n: exact actions inc, to default to(1) size 4 }
		table three { key h.a: exact actions inc, gone, to default to(2) size 4 }
		table four { actions gone default gone() size 1 }
		table five { key g.x: exact actions to default to(3) size 4 }
		state s { extract h extract g default accept }
		control {
			if (h.a == 4:8) { apply one } else { }
			hit two { if (h.a < 6:8) { } else { apply three } } else { }
			if (valid(g)) { apply four } else { }
			if (valid(g)) { } else { if (meta.out < 1:8) { } else { apply five } }
		}
		deparser h, g`)
	c := installed(p, map[int][]api.Entry{
		1: {entryOf(0, call(0), match(5, 255), match(8, 255)), entryOf(0, call(2, 7), match(9, 255), match(0, 255))},
		2: {entryOf(0, call(2, 9), match(6, 255))},
		4: {entryOf(0, call(2, 10), match(0, 255))},
	})
	c.Registers = [][]uint32{{8, 0}}
	written := func(v uint32) api.Config { return withRegisters(c, [][]uint32{{v, 0}}) }
	expectRun(t, "all tables", p, c, packet(0, 4, 0, 3, 1), sent(10, []byte{6, 0, 1}, hit(0, 0, 0), hit(1, 1, 0), hit(2, 1, 2), hit(3, 0, 1), hit(4, 1, 2)), written(10))
	expectRun(t, "a miss of two", p, c, packet(0, 5, 0, 3), sent(10, []byte{5, 0}, hit(1, 0, 2), hit(3, 0, 1), hit(4, 1, 2)), c)
	expectRun(t, "a miss of three", p, c, packet(0, 9, 0, 3), sent(10, []byte{9, 0}, hit(1, 2, 2), hit(2, 0, 2), hit(3, 0, 1), hit(4, 1, 2)), c)
	c.Registers[0][0] = 255
	expectRun(t, "a cell that turns over", p, c, packet(0, 4, 0, 3), sent(10, []byte{5, 0}, hit(0, 0, 0), hit(1, 0, 2), hit(3, 0, 1), hit(4, 1, 2)), written(0))
}

// 26.1, step 4: of several rows the one of the highest precedence is selected.
func TestPrecedence(t *testing.T) {
	p := sample()
	p.Control = []api.ControlNode{{Kind: api.ControlApply, Table: mark}}
	c := installed(p, map[int][]api.Entry{mark: {
		entryOf(0, call(send, 1), match(0, 0), match(0, 0)),
		entryOf(0, call(send, 2), match(0, 1), match(0, 0)),
		entryOf(0, call(send, 3), match(0, 0), match(0x80, 0x80)),
		entryOf(0, call(send, 4), match(0, 2), match(0xc0, 0xc0)),
		entryOf(0, call(send, 5), match(0, 0), match(0xc0, 0xc0)),
		entryOf(9, call(send, 6), match(0, 0), match(0xe0, 0xe0)),
		entryOf(9, call(send, 7), match(0, 0), match(0xff, 0xff)),
		entryOf(10, call(send, 8), match(0, 0), match(0xf0, 0xfe)),
	}})
	for port, row := range map[int]int{0: 1, 127: 1, 128: 3, 191: 3, 192: 4, 224: 6, 255: 7, 240: 8, 241: 8, 242: 6} {
		expectKept(t, "precedence", p, c, packet(port, 1, 0, 0), sent(row, []byte{1, 0, 0}, hit(mark, row, send)))
	}
}

// 26.2: each packet finds the registers that the ones ahead of it left.
func TestRunAll(t *testing.T) {
	p, c := sample(), sampleConfig()
	counted, lost := hit(mark, 2, count), hit(route, 2, discard)
	l := []api.Packet{packet(0, 1, 1, 0), packet(0, 1, 2, 0), packet(256, 1, 1, 0), packet(0, 1), packet(1, 1, 1, 1), packet(0, 1, 4, 4), packet(0, 9), packet(2, 1, 1, 2)}
	want := []api.Result{
		sent(5, []byte{1, 1, 0}, hit(route, 1, send), counted), dropped(lost, hit(mark, 1, none)), dropped(), dropped(),
		sent(5, []byte{1, 1, 1}, hit(route, 1, send), counted), sent(0, []byte{1, 4, 4}, hit(route, 4, count), hit(mark, 1, none)), dropped(),
		sent(5, []byte{1, 1, 2}, hit(route, 1, send), counted),
	}
	expectRunAll(t, "some packets", p, c, l, want, withRegisters(c, [][]uint32{{1, 0, 8, 0}, {1, 2}}))
	expectRunAll(t, "one packet", p, c, l[:1], want[:1], withRegisters(c, [][]uint32{{255, 0, 7, 0}, {1, 2}}))
	expectRunAll(t, "no packets", p, c, nil, nil, c)
	expectRunAll(t, "no packets", p, c, []api.Packet{}, []api.Result{}, c)
	expectRunAll(t, "packets that are dropped", p, c, []api.Packet{packet(-1), packet(0)}, []api.Result{dropped(), dropped()}, c)
	same := slices.Repeat(l[4:5], 300) // of one and the same memory
	expectRunAll(t, "many packets", p, c, same, slices.Repeat(want[4:5], 300), withRegisters(c, [][]uint32{{(254 + 300) % 256, 0, 7, 0}, {1, 2}}))
}

// 26.1: what a register holds decides what becomes of later packets.
func TestRegisters(t *testing.T) {
	p := parsed(`program p metadata { in: 8 out: 8 drop: 1 n: 2 } register r: 2[1]
		action up() { meta.n = r[0:8] r[0:8] = meta.n + 1:2 } action stop() { meta.drop = 1:1 }
		table t { actions up default up() size 1 } table u { actions stop default stop() size 1 }
		state s { default accept }
		control { apply t if (meta.n == 3:2) { apply u } else { } } deparser`)
	c := store.EmptyConfig(p)
	c.Registers[0][0] = 1
	var l []api.Packet
	var want []api.Result
	for i := range 9 {
		l = append(l, packet(0, byte(i)))
		if i%4 == 2 {
			want = append(want, dropped(hit(0, 0, 0), hit(1, 0, 1)))
		} else {
			want = append(want, sent(0, []byte{byte(i)}, hit(0, 0, 0)))
		}
	}
	for n := range 10 {
		expectRunAll(t, "every fourth", p, c, l[:n], want[:n], withRegisters(c, [][]uint32{{uint32(1+n) % 4}}))
	}
}

// 26.1: neither what lies behind the length of an argument's lists is read, nor written.
func TestBehindLength(t *testing.T) {
	p, c := copied(sample()), copied(sampleConfig())
	l := []api.Packet{{Port: 4, Data: append([]byte{1, 1, 9}, 8, 8)[:3]}, packet(0, 1, 2, 0)}
	p.Deparser = append(p.Deparser, 9)[:3]
	c.Rows[route] = append(c.Rows[route], api.Row{ID: 1})[:4]
	want := []api.Result{sent(5, []byte{1, 1, 9}, hit(route, 1, send), hit(mark, 2, count))}
	expectRunAll(t, "behind the lengths", p, c, l[:1], want, withRegisters(c, [][]uint32{{255, 0, 7, 0}, {1, 2}}))
}
