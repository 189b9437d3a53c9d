package optext_test

import (
	"fmt"
	"strings"
	"testing"

	"patchbay/action"
	"patchbay/api"
	"patchbay/entry"
	"patchbay/optext"
	"patchbay/program"
	"patchbay/table"
)

func wantCall(p api.Program, t int, c api.ActionCall) api.Errno {
	if !table.Allows(p, t, c.Action) {
		return api.ErrNotFound
	}
	return action.CheckCall(p, c)
}

// wantCode is the errors of P29.1, word by word.
func wantCode(p api.Program, o api.TableOp) api.Errno {
	if e := program.Check(p).Code; e != api.OK {
		return e
	}
	if o.Kind != 1 && o.Kind != 2 && o.Kind != 3 && o.Kind != 4 {
		return api.ErrKind
	}
	if o.Table < 0 || o.Table >= len(p.Tables) {
		return api.ErrNotFound
	}
	if o.Kind == 1 {
		return entry.Check(p, o.Table, o.Entry)
	}
	if (o.Kind == 2 || o.Kind == 3) && !(1 <= o.ID && o.ID <= 1073741824) {
		return api.ErrRange
	}
	if o.Kind == 2 || o.Kind == 4 {
		return wantCall(p, o.Table, o.Call)
	}
	return api.OK
}

func wantCallText(p api.Program, c api.ActionCall) string {
	var args []string
	for _, v := range c.Args {
		args = append(args, fmt.Sprint(v))
	}
	return fmt.Sprintf("%s(%s)", p.Actions[c.Action].Name, strings.Join(args, ", "))
}

// wantFormat is P29.1 with the chapter's table of texts.
func wantFormat(p api.Program, o api.TableOp) (string, api.Errno) {
	if e := wantCode(p, o); e != api.OK {
		return "", e
	}
	name := p.Tables[o.Table].Name
	switch o.Kind {
	case 1:
		keys := ""
		for _, k := range o.Entry.Keys {
			keys += fmt.Sprintf(" %d/%d", k.Value, k.Mask)
		}
		return fmt.Sprintf("insert %s%s priority %d -> %s", name, keys, o.Entry.Priority, wantCallText(p, o.Entry.Call)), api.OK
	case 2:
		return fmt.Sprintf("modify %s %d -> %s", name, o.ID, wantCallText(p, o.Call)), api.OK
	case 3:
		return fmt.Sprintf("delete %s %d", name, o.ID), api.OK
	}
	return fmt.Sprintf("default %s -> %s", name, wantCallText(p, o.Call)), api.OK
}

// expectFormat expects what Format answers.
func expectFormat(t *testing.T, p api.Program, o api.TableOp, want string, code api.Errno) {
	t.Helper()
	before := text(p, o)
	if s, e := optext.Format(p, o); s != want || e != code {
		t.Errorf("Format(%+v): %q, %v, want %q, %v", o, s, e, want, code)
	}
	if text(p, o) != before {
		t.Errorf("Format(%+v) changes its arguments", o)
	}
}

// bare answers the operation without what its kind doesn't use.
func bare(o api.TableOp) api.TableOp {
	switch o.Kind {
	case api.OpInsert:
		return api.TableOp{Kind: o.Kind, Table: o.Table, Entry: o.Entry}
	case api.OpModify:
		return api.TableOp{Kind: o.Kind, Table: o.Table, ID: o.ID, Call: o.Call}
	case api.OpDelete:
		return api.TableOp{Kind: o.Kind, Table: o.Table, ID: o.ID}
	}
	return api.TableOp{Kind: o.Kind, Table: o.Table, Call: o.Call}
}

// laden answers the operation with something wrong in all that its kind doesn't use.
func laden(o api.TableOp) api.TableOp {
	l := api.TableOp{Kind: o.Kind, Table: o.Table, ID: -5, Entry: entryOf(-1, call(-1, 1<<31), match(1, 0)), Call: call(99, 1, 2, 3)}
	switch o.Kind {
	case api.OpInsert:
		l.Entry = o.Entry
	case api.OpModify:
		l.ID, l.Call = o.ID, o.Call
	case api.OpDelete:
		l.ID = o.ID
	case api.OpSetDefault:
		l.Call = o.Call
	}
	return l
}

// P29.1: operations of each kind, with and without what the kind doesn't use
func TestFormat(t *testing.T) {
	for want, o := range sampleOps() {
		expectFormat(t, sample(), o, want, api.OK)
		expectFormat(t, sample(), copied(o), want, api.OK)
		expectFormat(t, sample(), laden(o), want, api.OK)
		if s, e := wantFormat(sample(), o); s != want || e != api.OK {
			t.Errorf("the tests' own text of %+v: %q, %v", o, s, e)
		}
	}
}

// P29.1: the chapter's own texts
func TestExamplesOfFormat(t *testing.T) {
	p := sample()
	p.Tables = []api.Table{
		{Name: "path", Keys: []api.TableKey{{Field: api.FieldRef{Header: api.Metadata}, Kind: api.MatchTernary}, {Field: api.FieldRef{Header: 0}, Kind: api.MatchTernary}}, Actions: []int{0, 1}, Size: 9},
		{Name: "t", Actions: []int{1}, Default: call(1), Size: 1},
	}
	p.Actions = []api.Action{{Name: "forward", Params: []api.Field{{Name: "port", Width: 8}, {Name: "label", Width: 8}}}, {Name: "drop"}}
	p.Tables[0].Default = call(0, 0, 0)
	expectFormat(t, p, insert(0, entryOf(3, call(0, 1, 2), match(5, 255), match(0, 0))), "insert path 5/255 0/0 priority 3 -> forward(1, 2)", api.OK)
	expectFormat(t, p, insert(1, entryOf(0, call(1))), "insert t priority 0 -> drop()", api.OK)
	expectFormat(t, p, remove(0, 7), "delete path 7", api.OK)
}

// faultyOps are operations that Format rejects, with their codes.
func faultyOps() []struct {
	op   api.TableOp
	code api.Errno
} {
	keys := []api.KeyMatch{match(1, 255), match(2, 127)}
	return []struct {
		op   api.TableOp
		code api.Errno
	}{
		{api.TableOp{}, api.ErrKind},
		{api.TableOp{Kind: 5, Table: 99, ID: -1, Entry: entryOf(0, call(none), keys...), Call: call(99)}, api.ErrKind},
		{insert(-1, entryOf(0, call(none))), api.ErrNotFound},
		{insert(5, entryOf(0, call(none))), api.ErrNotFound},
		{modify(5, 0, call(none)), api.ErrNotFound},
		{remove(-1, 0), api.ErrNotFound},
		{setDefault(5, call(one)), api.ErrNotFound},
		{insert(exactly, entryOf(-1, call(99), match(300, 0))), api.ErrArg},
		{insert(keyless, entryOf(0, call(none), match(0, 0))), api.ErrArg},
		{insert(exactly, entryOf(-1, call(99), match(256, 255), keys[1])), api.ErrRange},
		{insert(exactly, entryOf(0, call(none), keys[0], match(0, 128))), api.ErrRange},
		{insert(exactly, entryOf(256, call(99), match(2, 1), keys[1])), api.ErrSyntax},
		{insert(exactly, entryOf(256, call(99), match(2, 2), keys[1])), api.ErrKind},
		{insert(byPrefix, entryOf(0, call(none), match(0, 1))), api.ErrKind},
		{insert(exactly, entryOf(256, call(99), keys...)), api.ErrRange},
		{insert(exactly, entryOf(1, call(99), keys...)), api.ErrKind},
		{insert(exactly, entryOf(0, call(99), keys...)), api.ErrNotFound},
		{insert(exactly, entryOf(0, call(other), keys...)), api.ErrNotFound},
		{insert(exactly, entryOf(0, call(one), keys...)), api.ErrArg},
		{insert(exactly, entryOf(0, call(one, 256), keys...)), api.ErrRange},
		{modify(exactly, 0, call(99)), api.ErrRange},
		{modify(exactly, 1<<30+1, call(one, 256)), api.ErrRange},
		{modify(exactly, -1, call(one)), api.ErrRange},
		{modify(exactly, 1, call(-1)), api.ErrNotFound},
		{modify(exactly, 1, call(other)), api.ErrNotFound},
		{modify(exactly, 1, call(four, 0, 0, 0)), api.ErrNotFound},
		{modify(exactly, 1, call(one)), api.ErrArg},
		{modify(exactly, 1, call(none, 999)), api.ErrArg},
		{modify(exactly, 1, call(one, 256)), api.ErrRange},
		{remove(exactly, 0), api.ErrRange},
		{remove(exactly, 1<<30+1), api.ErrRange},
		{setDefault(wordy, call(none)), api.ErrNotFound},
		{setDefault(keyless, call(5)), api.ErrNotFound},
		{setDefault(keyless, call(one, 256, 1)), api.ErrArg},
		{setDefault(byPattern, call(four, 0, 0, 65536, 0)), api.ErrRange},
	}
}

// P29.1: wrong operations
func TestFormatErrors(t *testing.T) {
	for _, x := range faultyOps() {
		expectFormat(t, sample(), x.op, "", x.code)
		if e := wantCode(sample(), x.op); e != x.code {
			t.Errorf("the tests' own code of %+v: %v, want %v", x.op, e, x.code)
		}
	}
	for _, n := range wrongNumbers {
		expectFormat(t, sample(), api.TableOp{Kind: n, Table: n, ID: n}, "", api.ErrKind)
		expectFormat(t, sample(), remove(n, 1), "", api.ErrNotFound)
		expectFormat(t, sample(), setDefault(n, call(n)), "", api.ErrNotFound)
		expectFormat(t, sample(), modify(keyless, 1, call(n)), "", api.ErrNotFound)
		expectFormat(t, sample(), setDefault(keyless, call(n)), "", api.ErrNotFound)
		expectFormat(t, sample(), insert(keyless, entryOf(0, call(n))), "", api.ErrNotFound)
		expectFormat(t, sample(), insert(wordy, entryOf(n, call(n), match(0, 0))), "", map[bool]api.Errno{true: api.ErrNotFound, false: api.ErrRange}[n == 99])
		if n != 99 {
			expectFormat(t, sample(), remove(keyless, n), "", api.ErrRange)
			expectFormat(t, sample(), modify(keyless, n, call(n)), "", api.ErrRange)
		}
	}
}

// P29.1: the error of the program goes ahead of all others.
func TestFormatInvalidPrograms(t *testing.T) {
	for _, p := range damages() {
		code := program.Check(p).Code
		for _, o := range sampleOps() {
			expectFormat(t, p, o, "", code)
		}
		for _, x := range faultyOps() {
			expectFormat(t, p, x.op, "", code)
		}
	}
}

func randomCall(r *random, p api.Program) api.ActionCall {
	c := call(r.below(len(p.Actions)))
	for _, f := range p.Actions[c.Action].Params {
		c.Args = append(c.Args, r.bits()&(1<<f.Width-1))
	}
	if n := len(c.Args); n > 0 && r.chance(10) {
		c.Args[r.below(n)] = r.bits() >> r.below(32)
	}
	if r.chance(20) {
		c.Args = append(c.Args, r.bits())
	}
	if r.chance(20) {
		c.Action = pick(r, wrongNumbers)
	}
	return c
}

// randomMatch answers a match that mostly suits a key.
func randomMatch(r *random, kind, width int) api.KeyMatch {
	all := uint32(1<<width - 1)
	m := match(r.bits()&all, all)
	switch kind {
	case api.MatchTernary:
		m.Mask &= r.bits()
	case api.MatchLPM:
		m.Mask = all &^ uint32(1<<r.below(width+1)-1)
	}
	m.Value &= m.Mask
	if r.chance(15) {
		m = match(r.bits()>>r.below(32), r.bits()>>r.below(32))
	}
	return m
}

func randomEntry(r *random, p api.Program, t int) api.Entry {
	x := api.Entry{Call: randomCall(r, p)}
	for i, w := range table.Widths(p, t) {
		x.Keys = append(x.Keys, randomMatch(r, p.Tables[t].Keys[i].Kind, w))
	}
	if table.Kind(p, t) == api.MatchTernary || r.chance(20) {
		x.Priority = r.below(256)
	}
	if r.chance(20) {
		x.Priority = pick(r, wrongNumbers)
	}
	if r.chance(20) {
		x.Keys = append(x.Keys, match(0, 0))
	}
	return x
}

// randomOp answers an operation that mostly has a text.
func randomOp(r *random, p api.Program) api.TableOp {
	o := api.TableOp{Kind: 1 + r.below(4), Table: r.below(len(p.Tables)), ID: 1 + r.below(1<<pick(r, []int{3, 10, 27})), Call: randomCall(r, p)}
	o.Entry = randomEntry(r, p, o.Table)
	switch r.below(40) {
	case 0:
		o.Kind = pick(r, append([]int{0, 5}, wrongNumbers...))
	case 1:
		o.Table = pick(r, append([]int{5}, wrongNumbers...))
	case 2:
		o.ID = pick(r, append([]int{0, 1 << 30, 1<<30 + 1}, wrongNumbers...))
	}
	return o
}

// P29.1, P29.4: random operations, held against the promise's words; Parse of the text answers the operation.
func TestRandomOperations(t *testing.T) {
	r, p := random(29), sample()
	codes := map[api.Errno]int{}
	for range 10000 {
		o := randomOp(&r, p)
		want, code := wantFormat(p, o)
		codes[code]++
		expectFormat(t, p, o, want, code)
		if code == api.OK {
			expectParse(t, p, want, bare(o), api.OK)
		}
	}
	for _, e := range []api.Errno{api.OK, api.ErrKind, api.ErrNotFound, api.ErrRange, api.ErrArg, api.ErrSyntax} {
		if codes[e] < 50 {
			t.Errorf("%v is met %d times", e, codes[e])
		}
	}
}
