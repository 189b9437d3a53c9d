package journal_test

import (
	"bytes"
	"reflect"
	"slices"
	"testing"

	"patchbay/api"
	"patchbay/checksum"
	"patchbay/journal"
	"patchbay/program"
	"patchbay/store"
	"patchbay/txn"
)

// model is what a log must be, by the promises' words.
type model struct {
	program api.Program
	config  api.Config
	bytes   []byte
	n       int
}

func newModel(p api.Program) *model { return &model{program: p, config: store.EmptyConfig(p)} }

func (m *model) commit(l []api.TableOp) ([]int, int, api.Errno) {
	d, ids, at, e := txn.Apply(m.program, m.config, l)
	if e != api.OK {
		return nil, at, e
	}
	m.config, m.bytes, m.n = d, append(m.bytes, checksum.Frame(journal.Encode(l))...), m.n+1
	return ids, 0, api.OK
}

// wantOpen is P28.4, word by word, of a valid program.
func wantOpen(p api.Program, b []byte) (*model, int, api.Errno) {
	m, used := newModel(p), 0
	for used < len(b) {
		body, n, e := checksum.Unframe(b[used:])
		if e != api.OK {
			break
		}
		l, e := journal.Decode(body)
		if e == api.OK {
			_, _, e = m.commit(l)
		}
		if e != api.OK {
			return nil, used, e
		}
		used += n
	}
	return m, used, api.OK
}

// expectLog expects a log to be as its model.
func expectLog(t *testing.T, what string, g *journal.Log, m *model) {
	t.Helper()
	if g == nil {
		t.Errorf("%s: no log", what)
		return
	}
	if b, c, n := g.Bytes(), g.Config(), g.Len(); !bytes.Equal(b, m.bytes) || !same(c, m.config) || n != m.n {
		t.Errorf("%s: Bytes, Config and Len: %v, %+v, %d, want %v, %+v, %d", what, b, c, n, m.bytes, m.config, m.n)
	}
}

// expectCommit expects that Commit answers as the model does.
func expectCommit(t *testing.T, what string, g *journal.Log, m *model, l []api.TableOp) {
	t.Helper()
	before := text(l)
	ids, at, e := g.Commit(l)
	if text(l) != before {
		t.Errorf("%s: Commit changes its argument", what)
	}
	wantIDs, wantAt, want := m.commit(l)
	if !slices.Equal(ids, wantIDs) || at != wantAt || e != want {
		t.Errorf("%s: Commit of %+v: %v, %d, %v, want %v, %d, %v", what, l, ids, at, e, wantIDs, wantAt, want)
	}
	expectLog(t, what, g, m)
}

// expectOpen expects what Open answers by the promise's words.
func expectOpen(t *testing.T, what string, b []byte) (*journal.Log, *model) {
	t.Helper()
	p := sample()
	before := text(p, b)
	g, used, e := journal.Open(p, b)
	if text(p, b) != before {
		t.Errorf("%s: Open changes its arguments", what)
	}
	m, wantUsed, want := wantOpen(p, b)
	if used != wantUsed || e != want || (g == nil) != (m == nil) {
		t.Errorf("%s: Open: %v, %d, %v, want %d, %v", what, g, used, e, wantUsed, want)
	}
	if m != nil {
		expectLog(t, what, g, m)
	}
	return g, m
}

func newLog(t *testing.T) (*journal.Log, *model) {
	t.Helper()
	p := sample()
	before := text(p)
	g, e := journal.New(p)
	if g == nil || e != api.OK || text(p) != before {
		t.Fatalf("New: %v, %v", g, e)
	}
	m := newModel(p)
	expectLog(t, "an empty log", g, m)
	return g, m
}

// filled answers a log of the history, and the numbers of bytes behind each of its records.
func filled(t *testing.T) (*journal.Log, *model, []int) {
	t.Helper()
	g, m := newLog(t)
	ends := []int{0}
	for _, l := range history() {
		expectCommit(t, "the history", g, m, l)
		ends = append(ends, len(m.bytes))
	}
	if m.n != len(history()) {
		t.Fatalf("the history has %d transactions", m.n)
	}
	return g, m, ends
}

func frame(l ...api.TableOp) []byte { return checksum.Frame(journal.Encode(l)) }

// P28.3, P28.4: programs that aren't valid
func TestInvalidProgram(t *testing.T) {
	_, m, _ := filled(t)
	for _, p := range damages() {
		code := program.Check(p).Code
		if g, e := journal.New(p); g != nil || e != code {
			t.Errorf("New: %v, %v, want %v", g, e, code)
		}
		for _, b := range [][]byte{nil, m.bytes, m.bytes[:9], frame(remove(0, 1)), checksum.Frame(nil), {0, 0}} {
			if g, used, e := journal.Open(p, b); g != nil || used != 0 || e != code {
				t.Errorf("Open: %v, %d, %v, want %v", g, used, e, code)
			}
		}
	}
}

// P28.5: transactions that fail, between others
func TestCommit(t *testing.T) {
	g, m, _ := filled(t)
	for _, x := range failing() {
		if ids, at, e := g.Commit(x.l); len(ids) != 0 || at != x.at || e != x.code {
			t.Errorf("Commit of %+v: %v, %d, %v, want %d, %v", x.l, ids, at, e, x.at, x.code)
		}
		expectCommit(t, "a failing transaction", g, m, x.l)
	}
	n := m.n
	expectCommit(t, "no kind", g, m, ops(remove(exactly, 3), api.TableOp{}))
	expectCommit(t, "not encodable", g, m, ops(remove(exactly, 3), remove(65536, 1)))
	expectCommit(t, "not encodable", g, m, ops(remove(exactly, 3), remove(0, -1)))
	expectCommit(t, "not encodable", g, m, ops(insert(exactly, entryOf(0, call(0, make([]uint32, 256)...), match(1, 255)))))
	expectCommit(t, "too many", g, m, make([]api.TableOp, api.MaxOps+1))
	expectCommit(t, "too many", g, m, slices.Repeat(ops(setDefault(exactly, call(0))), api.MaxOps+1))
	if _, at, e := g.Commit(make([]api.TableOp, api.MaxOps+1)); at != -1 || e != api.ErrLimit {
		t.Errorf("Commit of too many operations: %d, %v", at, e)
	}
	if m.n != n {
		t.Errorf("%d transactions are recorded", m.n-n)
	}
	expectCommit(t, "behind failing ones", g, m, ops(remove(exactly, 3), insert(exactly, entryOf(0, call(0), match(5, 255)))))
	expectCommit(t, "as many as may be", g, m, slices.Repeat(ops(setDefault(exactly, call(0))), api.MaxOps))
	expectCommit(t, "none", g, m, nil)
	expectCommit(t, "none", g, m, []api.TableOp{})
	if m.n != n+4 || !bytes.HasSuffix(m.bytes, slices.Repeat(checksum.Frame([]byte{0}), 2)) {
		t.Errorf("%d transactions are recorded: %v", m.n-n, m.bytes)
	}
	expectOpen(t, "the whole log", g.Bytes())
}

// P28.5: fields that an operation's kind doesn't use are neither looked at nor recorded.
func TestUnusedFields(t *testing.T) {
	g, m := newLog(t)
	plain, other := newLog(t)
	x, y := insert(exactly, entryOf(0, call(0), match(5, 255))), modify(exactly, 1, call(1, 2))
	expectCommit(t, "plain", plain, other, ops(x, y))
	x.ID, x.Call = -5, call(-1, make([]uint32, 300)...)
	y.Entry = entryOf(-1, call(-1), make([]api.KeyMatch, 300)...)
	expectCommit(t, "unused fields", g, m, ops(x, y))
	expectLog(t, "unused fields", g, other)
}

// P28.7: a log opened from all of its bytes is the same, and from some of them the first transactions.
func TestRecovery(t *testing.T) {
	g, m, ends := filled(t)
	states := []*model{newModel(m.program)}
	for _, l := range history() {
		x := *states[len(states)-1]
		x.bytes = slices.Clone(x.bytes)
		x.commit(l)
		states = append(states, &x)
	}
	all := g.Bytes()
	for n := range len(all) + 1 {
		complete, _ := slices.BinarySearch(ends, n+1)
		complete--
		h, used, e := journal.Open(sample(), all[:n])
		if h == nil || used != ends[complete] || e != api.OK {
			t.Fatalf("Open of %d bytes: %v, %d, %v, want %d", n, h, used, e, ends[complete])
		}
		expectLog(t, "a prefix", h, states[complete])
		expectOpen(t, "a prefix", all[:n])
	}
}

// P28.7: a log that was opened from a truncated file goes on.
func TestExtend(t *testing.T) {
	g, _, _ := filled(t)
	all := g.Bytes()
	for n := 0; n <= len(all); n += 3 {
		h, m := expectOpen(t, "a truncated file", all[:n])
		if m.n < len(history()) {
			expectCommit(t, "the lost transaction", h, m, history()[m.n])
		}
		expectCommit(t, "a failing transaction", h, m, ops(setDefault(exactly, call(1, 1)), remove(exactly, 99)))
		expectCommit(t, "one more", h, m, ops(setDefault(byPattern, call(2, 1, 2, 3, 1))))
		again, o := expectOpen(t, "the extended log", h.Bytes())
		if o == nil || !same(o.config, m.config) || o.n != m.n {
			t.Fatalf("the extended log: %+v, want %+v", o, m)
		}
		expectCommit(t, "yet one more", again, o, nil)
		expectLog(t, "the first log", h, m)
	}
	for i, l := range history() {
		h, m := expectOpen(t, "an own log", nil)
		for _, x := range history()[:i] {
			expectCommit(t, "the history", h, m, x)
			h, m = expectOpen(t, "the history", h.Bytes())
		}
		expectCommit(t, "the history", h, m, l)
	}
}

// P28.4: at a corrupt record the log ends, wherever the fault is.
func TestCorrupt(t *testing.T) {
	g, _, ends := filled(t)
	all := g.Bytes()
	for i := range all {
		record, _ := slices.BinarySearch(ends, i+1)
		record--
		for _, bit := range []byte{1, 4, 128, 255} {
			b := slices.Clone(all)
			b[i] ^= bit
			if h, used, e := journal.Open(sample(), b); h == nil || h.Len() != record || used != ends[record] || e != api.OK {
				t.Errorf("Open with byte %d changed: %v, %d, %v", i, h, used, e)
			}
			expectOpen(t, "a changed byte", b)
		}
	}
	for _, more := range [][]byte{{0}, {0, 0, 0, 1}, make([]byte, 8), make([]byte, 100), {255, 255, 255, 255, 0, 0, 0, 0}, {0, 0, 0, 0, 0x81, 0x1c, 0x9d, 0xc5}} {
		expectOpen(t, "bytes behind", slices.Concat(all, more))
		expectOpen(t, "a record behind them", slices.Concat(all, more, frame()))
	}
}

// P28.4: complete records that hold no operations, or such as fail
func TestWrongRecords(t *testing.T) {
	_, m, ends := filled(t)
	bodies := map[string][]byte{"nothing": nil, "too many": {65}, "a wrong kind": {1, 9}, "too short": {1}, "too long": {0, 0}, "a great ID": {1, 3, 0, 0, 128, 0, 0, 0}}
	codes := map[string]api.Errno{"nothing": api.ErrShort, "too many": api.ErrSyntax, "a wrong kind": api.ErrSyntax, "too short": api.ErrShort, "too long": api.ErrLong, "a great ID": api.ErrSyntax}
	for what, body := range bodies {
		for _, end := range ends {
			b := slices.Concat(m.bytes[:end], checksum.Frame(body), m.bytes[end:])
			if g, used, e := journal.Open(sample(), b); g != nil || used != end || e != codes[what] {
				t.Errorf("%s: Open: %v, %d, %v, want %d, %v", what, g, used, e, end, codes[what])
			}
			expectOpen(t, what, b)
			expectOpen(t, what+", cut off", b[:end+len(body)+7])
			expectOpen(t, what+", at the end", b[:end+len(body)+8])
		}
	}
	for _, x := range failing() {
		b := append(slices.Clone(m.bytes), frame(x.l...)...)
		if g, used, e := journal.Open(sample(), b); g != nil || used != len(m.bytes) || e != x.code {
			t.Errorf("Open with %+v: %v, %d, %v, want %d, %v", x.l, g, used, e, len(m.bytes), x.code)
		}
		expectOpen(t, "a failing transaction", append(b, frame()...))
		expectOpen(t, "a failing transaction", b[:len(b)-1])
	}
	expectOpen(t, "the records twice", slices.Concat(m.bytes, m.bytes))
	for i := range ends[1:] {
		expectOpen(t, "a record is missing", slices.Concat(m.bytes[:ends[i]], m.bytes[ends[i+1]:]))
		expectOpen(t, "a record twice", slices.Concat(m.bytes[:ends[i+1]], m.bytes[ends[i]:]))
	}
}

// P28.5, P28.6: logs that neither New nor Open made
func TestNoLog(t *testing.T) {
	for _, g := range []*journal.Log{nil, {}, new(journal.Log)} {
		for _, l := range [][]api.TableOp{nil, ops(remove(0, 1)), make([]api.TableOp, 65)} {
			if ids, at, e := g.Commit(l); len(ids) != 0 || at != 0 || e != api.ErrNil {
				t.Errorf("Commit: %v, %d, %v", ids, at, e)
			}
		}
		if b, c, n := g.Bytes(), g.Config(), g.Len(); len(b) != 0 || !same(c, api.Config{}) || n != 0 {
			t.Errorf("Bytes, Config, Len: %v, %+v, %d", b, c, n)
		}
	}
}

// Rule 4: a log keeps nothing of what it is given, and gives nothing of itself away.
func TestMemory(t *testing.T) {
	p := sample()
	g, _ := journal.New(p)
	m := newModel(sample())
	spoil(reflect.ValueOf(p))
	for _, l := range history() {
		l = copied(l)
		ids, _, e := g.Commit(l)
		want, _, _ := m.commit(l)
		if e != api.OK || !slices.Equal(ids, want) {
			t.Errorf("Commit: %v, %v, want %v", ids, e, want)
		}
		for _, x := range []any{l, ids, g.Bytes(), g.Config()} {
			spoil(reflect.ValueOf(x))
		}
		if b := g.Bytes(); cap(b) > len(b) {
			_ = append(b, 99)
		}
		expectLog(t, "a log", g, m)
	}
	p, b := sample(), g.Bytes()
	h, used, e := journal.Open(p, b)
	if used != len(b) || e != api.OK {
		t.Fatalf("Open: %d, %v", used, e)
	}
	spoil(reflect.ValueOf(p))
	spoil(reflect.ValueOf(b))
	expectLog(t, "an opened log", h, m)
	expectCommit(t, "an opened log", h, m, ops(setDefault(exactly, call(1, 9))))
}

// randomOps answers operations of which most succeed.
func randomOps(r *random) []api.TableOp {
	var l []api.TableOp
	for range r.below(pick(r, []int{1, 3, 5})) {
		id := 1 + r.below(12)
		switch r.below(6) {
		case 0:
			l = append(l, insert(exactly, entryOf(0, call(1, r.bits()%256), match(r.bits()%4, 255))))
		case 1:
			l = append(l, modify(byPattern, id, call(2, r.bits()%256, r.bits(), r.bits()%65536, r.bits()%2)))
		case 2:
			l = append(l, remove(r.below(2), id))
		case 3:
			l = append(l, setDefault(r.below(2), call(0)))
		default:
			l = append(l, insert(byPattern, entryOf(r.below(256), call(0), six(r.bits()%256)...)))
		}
	}
	return l
}

// P28.4 to P28.7: random transactions, and the log opened from its bytes, from some of them and from damaged ones
func TestRandomLogs(t *testing.T) {
	failed := 0
	for seed := range 40 {
		r := random(seed)
		g, m := newLog(t)
		for range 40 {
			n := m.n
			expectCommit(t, "random", g, m, randomOps(&r))
			if m.n == n {
				failed++
			}
			if r.chance(8) {
				g, m = expectOpen(t, "random", g.Bytes())
			}
			if r.chance(20) {
				g, m = expectOpen(t, "random, cut off", g.Bytes()[:r.below(len(m.bytes)+1)])
			}
			if b := g.Bytes(); len(b) > 0 && r.chance(3) {
				b[r.below(len(b))] = byte(r.bits())
				expectOpen(t, "random, changed", b)
			}
			if t.Failed() {
				return
			}
		}
	}
	if failed < 200 {
		t.Errorf("%d transactions fail", failed)
	}
}
