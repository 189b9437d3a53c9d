package entry_test

import (
	"fmt"
	"math"
	"slices"
	"strconv"
	"strings"
	"testing"

	"patchbay/api"
	"patchbay/entry"
	"patchbay/table"
)

const (
	exact   = api.MatchExact
	lpm     = api.MatchLPM
	ternary = api.MatchTernary
)

var allKinds = []int{exact, lpm, ternary}

var wrongNumbers = []int{math.MinInt, -1 << 32, -2, -1, 99, 1 << 32, 1<<32 + 1, math.MaxInt}

// random is a row of numbers that look like no rule, the same ones for the same seed.
type random uint64

func (r *random) bits() uint32 {
	*r = *r*6364136223846793005 + 1442695040888963407
	return uint32(*r >> 32)
}

func (r *random) below(n int) int { return int(r.bits()>>4) % n }

func (r *random) chance(n int) bool { return r.below(n) == 0 }

func pick[T any](r *random, l []T) T { return l[r.below(len(l))] }

// key is a key of a table, of a field of some width.
type key struct{ kind, width int }

func greatest(w int) uint32 { return uint32(uint64(1)<<w - 1) }

// prefix answers the mask of the n first bits of w.
func prefix(n, w int) uint32 { return greatest(w) - greatest(w-n) }

func match(value, mask uint32) api.KeyMatch { return api.KeyMatch{Value: value, Mask: mask} }

func matches(l ...api.KeyMatch) []api.KeyMatch { return l }

func call(action int, args ...uint32) api.ActionCall {
	return api.ActionCall{Action: action, Args: args}
}

func params(l ...int) []api.Field {
	var fields []api.Field
	for i, w := range l {
		fields = append(fields, api.Field{Name: "f" + strconv.Itoa(i), Width: w})
	}
	return fields
}

// sample is a program of three tables, the middle one with the given keys, by turns of metadata and of a header. It
// allows the actions 4, 1, 2 and 3, the last with a parameter that no argument fits.
func sample(keys ...key) api.Program {
	p := api.Program{
		Headers:  []api.Header{{Name: "h", Fields: params(1)}},
		Metadata: params(8),
		Actions: []api.Action{
			{Name: "other"}, {Name: "one", Params: params(8)}, {Name: "three", Params: params(1, 32, 16)},
			{Name: "never", Params: params(0)}, {Name: "none"},
		},
	}
	x := api.Table{Name: "t", Actions: []int{4, 1, 2, 3}, Default: call(4), Size: 4}
	for i, k := range keys {
		f := api.Field{Name: "k" + strconv.Itoa(i), Width: k.width}
		if i%2 == 0 {
			p.Metadata = append(p.Metadata, f)
			x.Keys = append(x.Keys, api.TableKey{Field: api.FieldRef{Header: -1, Field: len(p.Metadata) - 1}, Kind: k.kind})
		} else {
			p.Headers[0].Fields = append(p.Headers[0].Fields, f)
			x.Keys = append(x.Keys, api.TableKey{Field: api.FieldRef{Field: len(p.Headers[0].Fields) - 1}, Kind: k.kind})
		}
	}
	p.Tables = []api.Table{{Name: "first", Actions: []int{0}, Size: 1}, x, {Name: "2", Actions: []int{0}, Size: 1}}
	return p
}

// text writes values with what lies behind the lengths of an entry's lists.
func text(l ...any) string {
	var s strings.Builder
	for _, v := range l {
		if x, ok := v.(api.Entry); ok {
			fmt.Fprint(&s, x.Keys[:cap(x.Keys)], x.Call.Args[:cap(x.Call.Args)])
		}
		fmt.Fprintf(&s, "%+v\n", v)
	}
	return s.String()
}

func expectCode(t *testing.T, p api.Program, i int, x api.Entry, want api.Errno) {
	t.Helper()
	if e := entry.Check(p, i, x); e != want {
		t.Errorf("Check of %+v in table %d, %+v: %v, want %v", x, i, p.Tables, e, want)
	}
}

// expectCheck also expects that the arguments stay as they are, which takes its time.
func expectCheck(t *testing.T, p api.Program, i int, x api.Entry, want api.Errno) {
	t.Helper()
	before := text(p, x)
	expectCode(t, p, i, x, want)
	if text(p, x) != before {
		t.Error("Check changes its arguments")
	}
}

// P23.1: table.Check's error comes ahead of all others
func TestCheckTable(t *testing.T) {
	valid := api.Entry{Keys: matches(match(1, 255)), Call: call(4)}
	wrong := api.Entry{Keys: matches(match(9, 1), match(1, 2)), Priority: -1, Call: call(99, 1)}
	p := sample(key{exact, 8})
	for _, x := range []api.Entry{valid, wrong, {}} {
		expectCheck(t, p, 2, x, api.ErrName)
		for _, i := range append([]int{3}, wrongNumbers...) {
			expectCheck(t, p, i, x, api.ErrNotFound)
			expectCheck(t, api.Program{}, i, x, api.ErrNotFound)
		}
	}
	expectCheck(t, p, 1, valid, api.OK)
	expectCheck(t, p, 0, valid, api.ErrArg)
	for _, c := range []struct {
		damage func(p *api.Program, x *api.Table)
		want   api.Errno
	}{
		{func(p *api.Program, x *api.Table) { x.Name = "a-b" }, api.ErrName},
		{func(p *api.Program, x *api.Table) { x.Keys = slices.Repeat(x.Keys, 7) }, api.ErrLimit},
		{func(p *api.Program, x *api.Table) { x.Size = 0 }, api.ErrRange},
		{func(p *api.Program, x *api.Table) { x.Size = 257 }, api.ErrRange},
		{func(p *api.Program, x *api.Table) { x.Keys[0].Field.Field = 9 }, api.ErrNotFound},
		{func(p *api.Program, x *api.Table) { x.Keys[0].Field.Header = -2 }, api.ErrNotFound},
		{func(p *api.Program, x *api.Table) { p.Metadata[1].Width = 33 }, api.ErrNotFound},
		{func(p *api.Program, x *api.Table) { p.Metadata = nil }, api.ErrNotFound},
		{func(p *api.Program, x *api.Table) { x.Keys[0].Kind = 0 }, api.ErrKind},
		{func(p *api.Program, x *api.Table) { x.Keys[0].Kind = 4 }, api.ErrKind},
		{func(p *api.Program, x *api.Table) { x.Keys[0].Kind = lpm; x.Keys = slices.Repeat(x.Keys, 2) }, api.ErrDuplicate},
		{func(p *api.Program, x *api.Table) { p.Metadata[1].Width = 32; x.Keys = slices.Repeat(x.Keys, 3) }, api.ErrWidth},
		{func(p *api.Program, x *api.Table) { x.Actions = nil }, api.ErrNotFound},
		{func(p *api.Program, x *api.Table) { x.Actions = []int{4, 4} }, api.ErrDuplicate},
		{func(p *api.Program, x *api.Table) { x.Default = call(0) }, api.ErrNotFound},
		{func(p *api.Program, x *api.Table) { x.Default = call(4, 1) }, api.ErrArg},
		{func(p *api.Program, x *api.Table) { x.Default = call(1, 256) }, api.ErrRange},
	} {
		p := sample(key{exact, 8})
		c.damage(&p, &p.Tables[1])
		if _, e := table.Check(p, 1); e != c.want {
			t.Errorf("table.Check: %v, want %v", e, c.want)
		}
		expectCheck(t, p, 1, valid, c.want)
		expectCheck(t, p, 1, wrong, c.want)
	}
}

// P23.1: an entry has a match for each key
func TestCheckKeyCount(t *testing.T) {
	for keys := range 7 {
		for _, kind := range []int{exact, ternary} {
			p := sample(slices.Repeat([]key{{kind, 3}}, keys)...)
			for n := range 10 {
				want := api.ErrArg
				if n == keys {
					want = api.OK
				}
				expectCheck(t, p, 1, api.Entry{Keys: slices.Repeat(matches(match(5, 7)), n), Call: call(4)}, want)
				wrong := api.Entry{Keys: slices.Repeat(matches(match(9, 1)), n), Priority: 999, Call: call(0)}
				if n != keys {
					expectCheck(t, p, 1, wrong, api.ErrArg)
				}
			}
		}
	}
	l := matches(match(1, 7), match(9, 9), match(9, 9))
	expectCheck(t, sample(key{exact, 3}), 1, api.Entry{Keys: l[:1], Call: call(4)}, api.OK)
	expectCheck(t, sample(key{exact, 3}, key{exact, 3}), 1, api.Entry{Keys: l[:1], Call: call(4)}, api.ErrArg)
	expectCheck(t, sample(), 1, api.Entry{Keys: []api.KeyMatch{}, Call: call(4)}, api.OK)
}

// wantMatch is P23.1's third point for one match of a key.
func wantMatch(k key, m api.KeyMatch) api.Errno {
	limit := uint64(1) << k.width
	isPrefix := false
	for n := 0; n <= k.width; n++ {
		isPrefix = isPrefix || uint64(m.Mask) == limit-limit>>n
	}
	switch {
	case uint64(m.Value) >= limit || uint64(m.Mask) >= limit:
		return api.ErrRange
	case m.Value|m.Mask != m.Mask:
		return api.ErrSyntax
	case k.kind == exact && uint64(m.Mask) != limit-1, k.kind == lpm && !isPrefix:
		return api.ErrKind
	}
	return api.OK
}

// P23.1: all matches of narrow fields, and such as are too wide for them
func TestCheckNarrowMatches(t *testing.T) {
	for w := 1; w <= 4; w++ {
		for _, kind := range allKinds {
			p := sample(key{kind, w})
			for value := range greatest(w+1) + 1 {
				for mask := range greatest(w+1) + 1 {
					m := match(value, mask)
					expectCode(t, p, 1, api.Entry{Keys: matches(m), Call: call(4)}, wantMatch(key{kind, w}, m))
				}
			}
		}
	}
}

// P23.1: all prefix masks, and those next to them, at every width
func TestCheckEveryWidth(t *testing.T) {
	for w := 1; w <= 32; w++ {
		var masks []uint32
		for n := 0; n <= w; n++ {
			masks = append(masks, prefix(n, w), greatest(n), prefix(n, w)+1, prefix(n, w)-1, prefix(n, w)^1, prefix(n, w)<<1, 1<<31|prefix(n, w), prefix(n, 32))
		}
		masks = append(masks, math.MaxUint32, 0x55555555, 0x80000001)
		for _, kind := range allKinds {
			p := sample(key{ternary, 1}, key{kind, w})
			for _, mask := range masks {
				for _, value := range []uint32{0, mask, mask >> 1, mask & 0x33333333, ^mask, 1 << (w - 1), greatest(w), greatest(w) + 1} {
					m := match(value, mask)
					expectCode(t, p, 1, api.Entry{Keys: matches(match(0, 0), m), Call: call(4)}, wantMatch(key{kind, w}, m))
				}
			}
		}
	}
	for _, w := range []int{1, 8, 31, 32} {
		p := sample(key{lpm, w}, key{exact, w})
		x := api.Entry{Keys: matches(match(0, 0), match(greatest(w), greatest(w))), Call: call(4)}
		expectCheck(t, p, 1, x, api.OK)
		x.Keys[0] = match(greatest(w), greatest(w))
		expectCheck(t, p, 1, x, api.OK)
		x.Keys[1] = match(0, 0)
		expectCheck(t, p, 1, x, api.ErrKind)
	}
}

// P23.1: the first key with an error determines it
func TestCheckKeyOrder(t *testing.T) {
	p := sample(key{lpm, 8}, key{exact, 8}, key{ternary, 8})
	faulty := []struct {
		m    api.KeyMatch
		want api.Errno
	}{
		{match(0, 256), api.ErrRange}, {match(256, 256), api.ErrRange}, {match(256, 0), api.ErrRange}, {match(1, 256), api.ErrRange},
		{match(1, 0), api.ErrSyntax}, {match(0x12, 2), api.ErrSyntax}, {match(1, 5), api.ErrKind},
	}
	valid := matches(match(0xa0, 0xe0), match(7, 255), match(4, 5))
	for i := range 3 {
		for _, a := range faulty {
			if i == 2 && a.want == api.ErrKind {
				continue
			}
			x := api.Entry{Keys: slices.Clone(valid), Call: call(0), Priority: -1}
			x.Keys[i] = a.m
			expectCheck(t, p, 1, x, a.want)
			for j := i + 1; j < 3; j++ {
				for _, b := range faulty {
					x.Keys[j] = b.m
					expectCheck(t, p, 1, x, a.want)
				}
			}
		}
	}
	expectCheck(t, p, 1, api.Entry{Keys: valid, Call: call(4)}, api.OK)
}

// P23.1: priorities, which only tables of kind MatchTernary have
func TestCheckPriority(t *testing.T) {
	for _, c := range []struct {
		keys    []key
		ternary bool
	}{
		{nil, false},
		{[]key{{exact, 8}}, false},
		{[]key{{lpm, 8}}, false},
		{[]key{{exact, 8}, {lpm, 8}, {exact, 8}}, false},
		{[]key{{ternary, 8}}, true},
		{[]key{{exact, 8}, {ternary, 8}}, true},
		{[]key{{ternary, 8}, {lpm, 8}}, true},
		{[]key{{lpm, 8}, {ternary, 8}, {ternary, 8}}, true},
	} {
		p := sample(c.keys...)
		x := api.Entry{Keys: slices.Repeat(matches(match(3, 255)), len(c.keys)), Call: call(4)}
		for _, n := range []int{math.MinInt, -1 << 32, -255, -1, 256, 257, 511, 1 << 32, 1<<32 + 1, math.MaxInt} {
			expectCheck(t, p, 1, api.Entry{Keys: x.Keys, Priority: n, Call: call(4)}, api.ErrRange)
			expectCheck(t, p, 1, api.Entry{Keys: x.Keys, Priority: n, Call: call(0)}, api.ErrRange)
		}
		for x.Priority = 0; x.Priority < 256; x.Priority++ {
			want, wantWrong := api.OK, api.ErrNotFound
			if x.Priority > 0 && !c.ternary {
				want, wantWrong = api.ErrKind, api.ErrKind
			}
			x.Call = call(4)
			expectCheck(t, p, 1, x, want)
			x.Call = call(0)
			expectCheck(t, p, 1, x, wantWrong)
		}
	}
}

// P23.1: the action is one that the table allows, and is called with its arguments
func TestCheckCall(t *testing.T) {
	p := sample()
	for _, c := range []struct {
		call api.ActionCall
		want api.Errno
	}{
		{call(4), api.OK},
		{call(4, 0), api.ErrArg},
		{call(1, 0), api.OK},
		{call(1, 255), api.OK},
		{call(1, 256), api.ErrRange},
		{call(1, math.MaxUint32), api.ErrRange},
		{call(1), api.ErrArg},
		{call(1, 256, 0), api.ErrArg},
		{call(2, 1, math.MaxUint32, 65535), api.OK},
		{call(2, 2, 0, 0), api.ErrRange},
		{call(2, 0, 0, 65536), api.ErrRange},
		{call(2, 2, 0), api.ErrArg},
		{call(2, 0, 0, 0, 0), api.ErrArg},
		{call(3, 0), api.ErrRange},
		{call(3), api.ErrArg},
		{call(0), api.ErrNotFound},
		{call(0, 1), api.ErrNotFound},
		{call(5), api.ErrNotFound},
	} {
		expectCheck(t, p, 1, api.Entry{Call: c.call}, c.want)
	}
	for _, a := range wrongNumbers {
		expectCheck(t, p, 1, api.Entry{Call: call(a)}, api.ErrNotFound)
	}
	expectCheck(t, p, 0, api.Entry{Call: call(0)}, api.OK)
	expectCheck(t, p, 0, api.Entry{Call: call(4)}, api.ErrNotFound)
	expectCheck(t, p, 1, api.Entry{Call: call(1, []uint32{9, 256}[:1]...)}, api.OK)
}

// want is P23.1 for an entry of table 1 of a sample.
func want(keys []key, x api.Entry) api.Errno {
	if len(x.Keys) != len(keys) {
		return api.ErrArg
	}
	hasTernary := false
	for i, k := range keys {
		if e := wantMatch(k, x.Keys[i]); e != api.OK {
			return e
		}
		hasTernary = hasTernary || k.kind == ternary
	}
	if x.Priority < 0 || x.Priority > 255 {
		return api.ErrRange
	}
	if x.Priority > 0 && !hasTernary {
		return api.ErrKind
	}
	widths, allowed := map[int][]int{1: {8}, 2: {1, 32, 16}, 3: {0}, 4: nil}[x.Call.Action]
	if !allowed {
		return api.ErrNotFound
	}
	if len(x.Call.Args) != len(widths) {
		return api.ErrArg
	}
	for i, w := range widths {
		if uint64(x.Call.Args[i]) >= 1<<w || w == 0 {
			return api.ErrRange
		}
	}
	return api.OK
}

// randomKeys answers the keys of a valid table.
func randomKeys(r *random) []key {
	var keys []key
	left, kinds := api.MaxKeyBits, allKinds
	for range r.below(api.MaxKeys + 1) {
		if left == 0 {
			break
		}
		k := key{pick(r, kinds), 1 + r.below(min(32, left))}
		keys = append(keys, k)
		left -= k.width
		if k.kind == lpm {
			kinds = []int{exact, ternary}
		}
	}
	return keys
}

// randomEntry answers an entry that has a fault as often as not.
func randomEntry(r *random, keys []key) api.Entry {
	var x api.Entry
	for _, k := range keys {
		mask := map[int]uint32{exact: greatest(k.width), lpm: prefix(r.below(k.width+1), k.width), ternary: r.bits() & greatest(k.width)}[k.kind]
		if k.kind == ternary {
			x.Priority = r.below(256)
		}
		x.Keys = append(x.Keys, match(r.bits()&mask, mask))
	}
	x.Call = pick(r, []api.ActionCall{call(4), call(1, 255), call(2, 1, r.bits(), 7)})
	for i := range x.Keys {
		if r.chance(12) {
			x.Keys[i] = match(r.bits()>>r.below(32), r.bits()>>r.below(32))
		}
		if r.chance(12) {
			x.Keys[i].Mask ^= 1 << r.below(32)
		}
	}
	if r.chance(12) {
		x.Priority = pick(r, []int{-1, 1, 255, 256})
	}
	if r.chance(12) {
		x.Call = pick(r, []api.ActionCall{call(0), call(1, 256), call(2, 1), call(3, 0), call(5), call(-1)})
	}
	if r.chance(12) {
		x.Keys = append(x.Keys, match(0, 0))
	}
	return x
}

// P23.1: random entries, held against a plain reading of the promise
func TestRandomEntries(t *testing.T) {
	r := random(23)
	valid := 0
	for range 6000 {
		keys := randomKeys(&r)
		x := randomEntry(&r, keys)
		e := want(keys, x)
		expectCheck(t, sample(keys...), 1, x, e)
		if e == api.OK {
			valid++
		}
		if t.Failed() {
			return
		}
	}
	if valid < 1500 || valid > 4500 {
		t.Errorf("%d valid entries", valid)
	}
}

// P23.1: programs and entries of any size
func TestCheckBeyondLimits(t *testing.T) {
	const n = 20000
	p := api.Program{Metadata: make([]api.Field, n), Actions: make([]api.Action, n), Tables: make([]api.Table, n)}
	p.Metadata[n-1].Width = 8
	p.Actions[n-1].Params = params(slices.Repeat([]int{8}, n)...)
	args := slices.Repeat([]uint32{255}, n)
	p.Tables[n-1] = api.Table{Name: "last", Keys: []api.TableKey{{Field: api.FieldRef{Header: -1, Field: n - 1}, Kind: lpm}}, Actions: []int{n - 1}, Default: call(n-1, args...), Size: 1}
	x := api.Entry{Keys: matches(match(0x80, 0x80)), Call: call(n-1, args...)}
	expectCheck(t, p, n-1, x, api.OK)
	x.Call.Args = args[1:]
	expectCheck(t, p, n-1, x, api.ErrArg)
	x.Keys = make([]api.KeyMatch, n)
	expectCheck(t, p, n-1, x, api.ErrArg)
	expectCheck(t, p, n-2, x, api.ErrName)
}

// P23.1: example 1
func TestExample(t *testing.T) {
	p := sample(key{lpm, 8})
	expectCheck(t, p, 1, api.Entry{Keys: matches(match(0, 0xf0)), Call: call(4)}, api.OK)
	expectCheck(t, p, 1, api.Entry{Keys: matches(match(0, 0x0f)), Call: call(4)}, api.ErrKind)
}

func expectMatches(t *testing.T, l []api.KeyMatch, values []uint32, want bool) {
	t.Helper()
	x := api.Entry{Keys: l, Priority: -1, Call: call(-1)}
	before := text(x, values)
	if entry.Matches(x, values) != want {
		t.Errorf("Matches(%x, %x) = %v", l, values, !want)
	}
	if text(x, values) != before {
		t.Error("Matches changes its arguments")
	}
}

// P23.2: all matches and values of four bits, at the bottom and at the top of a number
func TestMatchesBits(t *testing.T) {
	for code := range uint32(1 << 12) {
		value, mask, v := code&15, code>>4&15, code>>8
		agrees := true
		for b := range 4 {
			agrees = agrees && (mask>>b&1 == 0 || value>>b&1 == v>>b&1)
		}
		expectMatches(t, matches(match(value, mask)), []uint32{v}, agrees)
		expectMatches(t, matches(match(value<<28, mask<<28)), []uint32{v<<28 | 99}, agrees)
		expectMatches(t, matches(match(1, 1), match(value, mask)), []uint32{1, v}, agrees)
		expectMatches(t, matches(match(value, mask), match(1, 1)), []uint32{v, 3}, agrees)
		expectMatches(t, matches(match(value, mask), match(1, 1)), []uint32{v, 2}, false)
	}
	for b := range 32 {
		expectMatches(t, matches(match(1<<b, 1<<b)), []uint32{math.MaxUint32}, true)
		expectMatches(t, matches(match(0, 1<<b)), []uint32{math.MaxUint32}, false)
		expectMatches(t, matches(match(0, 1<<b)), []uint32{^uint32(1 << b)}, true)
		expectMatches(t, matches(match(math.MaxUint32, ^uint32(1<<b))), []uint32{^uint32(1 << b)}, true)
	}
}

// P23.2: as many values as keys, whatever they are
func TestMatchesCount(t *testing.T) {
	for n := range 10 {
		for k := range 10 {
			expectMatches(t, make([]api.KeyMatch, n), make([]uint32, k), n == k)
		}
		for i := range n {
			l, values := make([]api.KeyMatch, n), make([]uint32, n)
			l[i] = match(2, 2)
			expectMatches(t, l, values, false)
			values[i] = 7
			expectMatches(t, l, values, true)
		}
	}
	expectMatches(t, nil, []uint32{}, true)
	expectMatches(t, []api.KeyMatch{}, nil, true)
	expectMatches(t, matches(match(1, 1), match(1, 1))[:1], []uint32{1}, true)
	expectMatches(t, matches(match(1, 1)), []uint32{1, 0}[:1], true)
	expectMatches(t, matches(match(1, 1), match(1, 1)), []uint32{1, 1}[:1], false)
}

func row(id, priority int, masks ...uint32) api.Row {
	x := api.Row{ID: id, Entry: api.Entry{Priority: priority}}
	for _, m := range masks {
		x.Entry.Keys = append(x.Entry.Keys, match(0, m))
	}
	return x
}

// expectOrder expects that a precedes b, and b not a.
func expectOrder(t *testing.T, p api.Program, i int, a, b api.Row) {
	t.Helper()
	before := text(p, a.Entry, b.Entry)
	if !entry.Precedes(p, i, a, b) || entry.Precedes(p, i, b, a) {
		t.Errorf("table %d: %+v precedes %+v: %v, the other way %v", i, a, b, entry.Precedes(p, i, a, b), entry.Precedes(p, i, b, a))
	}
	if text(p, a.Entry, b.Entry) != before {
		t.Error("Precedes changes its arguments")
	}
}

// P23.3: first the priority, then the mask of the LPM key, then the ID
func TestPrecedes(t *testing.T) {
	p := sample(key{ternary, 8}, key{lpm, 8}, key{exact, 8})
	expectOrder(t, p, 1, row(9, 1, 0, 0, 0), row(1, 0, 255, 255, 255))
	expectOrder(t, p, 1, row(9, 255, 0, 0, 0), row(1, 254, 255, 255, 255))
	expectOrder(t, p, 1, row(9, 3, 0, 0x80, 0), row(1, 3, 255, 0, 255))
	expectOrder(t, p, 1, row(9, 3, 0, 0xff, 0), row(1, 3, 255, 0xfe, 255))
	expectOrder(t, p, 1, row(1, 3, 0, 0xf0, 0), row(2, 3, 255, 0xf0, 255))
	expectOrder(t, p, 1, row(-5, 3, 0, 0xf0, 0), row(0, 3, 255, 0xf0, 255))
	// The ones count, not where they are, nor the number that they make.
	expectOrder(t, p, 1, row(9, 0, 0, 7, 0), row(1, 0, 0, 0xc0, 0))
	expectOrder(t, p, 1, row(1, 0, 0, 3, 0), row(9, 0, 0, 0xc0, 0))
	expectOrder(t, p, 1, row(9, 0, 0, 0xffff0000, 0), row(1, 0, 0, 0x7fff, 0))
	expectOrder(t, p, 1, row(9, 0, 0, math.MaxUint32, 0), row(1, 0, 0, math.MaxUint32-1, 0))
	for _, a := range []int{math.MinInt, -1, 0, 1, 255, 256, math.MaxInt} {
		for _, b := range []int{math.MinInt, -1, 0, 1, 255, 256, math.MaxInt} {
			if a > b {
				expectOrder(t, p, 1, row(2, a, 0, 0, 0), row(1, b, 0, 255, 0))
			}
			if a < b {
				expectOrder(t, p, 1, row(a, 7, 0, 3, 0), row(b, 7, 9, 3, 9))
			}
		}
	}
	same := row(4, 3, 0, 0xf0, 0)
	if entry.Precedes(p, 1, same, same) {
		t.Error("a row precedes itself")
	}
	// Only the masks of the LPM key tell: not the values, nor the calls.
	other := row(4, 3, 255, 0x0f, 255)
	other.Entry.Keys[1].Value, other.Entry.Call = 255, call(1, 2)
	if entry.Precedes(p, 1, same, other) || entry.Precedes(p, 1, other, same) {
		t.Error("of two rows with the same ID one precedes the other")
	}
}

// P23.3: without a table, an LPM key or a match for it the ones count as 0
func TestPrecedesWithoutMask(t *testing.T) {
	p := sample(key{exact, 8}, key{lpm, 8})
	low, high := row(1, 0, 255, 0), row(2, 0, 255, 255)
	expectOrder(t, p, 1, high, low)
	for _, i := range append([]int{0, 2, 3}, wrongNumbers...) {
		expectOrder(t, p, i, low, high)
		expectOrder(t, api.Program{}, i, low, high)
		expectOrder(t, p, i, row(9, 1), row(1, 0, 255, 255))
	}
	for _, keys := range [][]key{nil, {{exact, 8}}, {{ternary, 8}, {exact, 8}}, {{ternary, 8}, {ternary, 8}, {ternary, 8}}} {
		expectOrder(t, sample(keys...), 1, low, high)
	}
	for _, short := range [][]uint32{nil, {}, {255}} {
		expectOrder(t, p, 1, high, row(1, 0, short...))
		expectOrder(t, p, 1, row(1, 0, short...), row(2, 0, 255, 0))
		expectOrder(t, p, 1, row(1, 0, 255, 0), row(2, 0, short...))
		expectOrder(t, p, 1, row(1, 0, short...), row(2, 0, short...))
	}
	hidden := row(1, 0, 255, 255)
	hidden.Entry.Keys = hidden.Entry.Keys[:1]
	expectOrder(t, p, 1, row(2, 0, 0, 1), hidden)
	expectOrder(t, p, 1, row(2, 0, 0, 1, 0), row(1, 0, 0, 0, 255))
}

// P23.3: of an invalid table the first LPM key counts
func TestPrecedesInvalidTable(t *testing.T) {
	p := sample(key{exact, 8}, key{lpm, 8}, key{lpm, 8})
	expectOrder(t, p, 1, row(2, 0, 0, 1, 0), row(1, 0, 0, 0, 255))
	expectOrder(t, p, 1, row(1, 0, 0, 1, 0), row(2, 0, 0, 1, 255))
	p = sample(slices.Repeat([]key{{77, 99}}, 20000)...)
	expectOrder(t, p, 1, row(1, 0, 0, 0), row(2, 0, 0, 1))
	p.Tables[1].Keys[19999].Kind = lpm
	masks := make([]uint32, 20000)
	masks[19999] = 6
	expectOrder(t, p, 1, row(2, 0, masks...), row(1, 0, 0, 255))
	p.Tables[1] = api.Table{Keys: []api.TableKey{{Kind: lpm}}, Size: -1}
	expectOrder(t, p, 1, row(2, 0, 1), row(1, 0, 0))
	p.Tables[1].Keys = p.Tables[1].Keys[:0]
	expectOrder(t, p, 1, row(1, 0, 0), row(2, 0, 1))
}

func onesOf(m uint32) int { return strings.Count(strconv.FormatUint(uint64(m), 2), "1") }

// P23.3, P23.5: among rows with different IDs it is a strict order; held against the three numbers that it compares
func TestStrictOrder(t *testing.T) {
	for _, keys := range [][]key{nil, {{exact, 8}}, {{ternary, 8}, {lpm, 8}}, {{lpm, 8}, {ternary, 8}}} {
		p := sample(keys...)
		at := slices.IndexFunc(keys, func(k key) bool { return k.kind == lpm })
		var rows []api.Row
		for i := range 48 {
			rows = append(rows, row(i*7%48-5, i%3, []uint32{3, 5, 0x80, 255}[:i%4]...))
			slices.Reverse(rows[i].Entry.Keys)
		}
		rank := func(x api.Row) []int {
			ones := 0
			if at >= 0 && at < len(x.Entry.Keys) {
				ones = onesOf(x.Entry.Keys[at].Mask)
			}
			return []int{-x.Entry.Priority, -ones, x.ID}
		}
		for _, a := range rows {
			for _, b := range rows {
				ab, ba := entry.Precedes(p, 1, a, b), entry.Precedes(p, 1, b, a)
				if ab != (slices.Compare(rank(a), rank(b)) < 0) || ab && ba || a.ID != b.ID && !ab && !ba {
					t.Fatalf("%v: %+v precedes %+v: %v, the other way %v", keys, a, b, ab, ba)
				}
				for _, c := range rows {
					if ab && entry.Precedes(p, 1, b, c) && !entry.Precedes(p, 1, a, c) {
						t.Fatalf("%v: not transitive: %+v, %+v, %+v", keys, a, b, c)
					}
				}
			}
		}
	}
}

// P23.5: in a table of kind MatchExact a key is matched by one list of keys alone
func TestExactEntriesOfOneKey(t *testing.T) {
	p := sample(key{exact, 2}, key{exact, 1})
	var valid []api.Entry
	for code := range uint32(1 << 6) {
		x := api.Entry{Keys: matches(match(code&3, code>>2&3), match(code>>4&1, code>>5)), Call: call(4)}
		if entry.Check(p, 1, x) == api.OK {
			valid = append(valid, x)
		}
	}
	if len(valid) != 8 {
		t.Fatalf("%d valid entries", len(valid))
	}
	for code := range uint32(1 << 4) {
		values, n := []uint32{code & 7, code >> 3}, 0
		for _, x := range valid {
			if entry.Matches(x, values) {
				n++
			}
		}
		if n != 1 {
			t.Errorf("%d entries match %v", n, values)
		}
	}
}

// expectSame expects what SameKey and Equal answer, whichever comes first.
func expectSame(t *testing.T, a, b api.Entry, sameKey, equal bool) {
	t.Helper()
	before := text(a, b)
	for range 2 {
		if entry.SameKey(a, b) != sameKey || entry.Equal(a, b) != equal {
			t.Errorf("of %+v and %+v SameKey is %v and Equal %v", a, b, !sameKey, !equal)
		}
		a, b = b, a
	}
	if text(a, b) != before {
		t.Error("SameKey or Equal changes its arguments")
	}
}

// P23.4: each part of an entry, and each element of its lists
func TestSameKeyAndEqual(t *testing.T) {
	sampleEntry := func() api.Entry {
		return api.Entry{Keys: matches(match(1, 3), match(0, 0), match(7, 255)), Priority: 5, Call: call(2, 1, 2, 3)}
	}
	expectSame(t, sampleEntry(), sampleEntry(), true, true)
	expectSame(t, api.Entry{}, api.Entry{}, true, true)
	expectSame(t, sampleEntry(), api.Entry{}, false, false)
	for i := range 3 {
		x := sampleEntry()
		x.Keys[i].Value ^= 1 << 31
		expectSame(t, sampleEntry(), x, false, false)
		x = sampleEntry()
		x.Keys[i].Mask ^= 1
		expectSame(t, sampleEntry(), x, false, false)
		x = sampleEntry()
		x.Call.Args[i]++
		expectSame(t, sampleEntry(), x, true, false)
		x = sampleEntry()
		x.Keys = x.Keys[:i]
		expectSame(t, sampleEntry(), x, false, false)
		x = sampleEntry()
		x.Call.Args = x.Call.Args[:i]
		expectSame(t, sampleEntry(), x, true, false)
	}
	for _, n := range append([]int{0, 4, 6}, wrongNumbers...) {
		x := sampleEntry()
		x.Priority = n
		expectSame(t, sampleEntry(), x, false, false)
		x = sampleEntry()
		x.Call.Action = n
		expectSame(t, sampleEntry(), x, true, false)
		y := sampleEntry()
		y.Call.Action = n
		expectSame(t, x, y, true, true)
		y.Priority = 4
		expectSame(t, x, y, false, false)
	}
}

// P23.4: lists are the same if their elements are: in order, up to their lengths
func TestSameLists(t *testing.T) {
	a := api.Entry{Keys: matches(match(1, 1), match(2, 2)), Call: call(0, 1, 2)}
	b := api.Entry{Keys: matches(match(2, 2), match(1, 1)), Call: call(0, 1, 2)}
	expectSame(t, a, b, false, false)
	b = api.Entry{Keys: matches(match(1, 1), match(2, 2), match(3, 3))[:2], Call: call(0, []uint32{1, 2, 3}[:2]...)}
	expectSame(t, a, b, true, true)
	b.Call.Args = []uint32{2, 1}
	expectSame(t, a, b, true, false)
	expectSame(t, api.Entry{Keys: []api.KeyMatch{}}, api.Entry{Call: api.ActionCall{Args: []uint32{}}}, true, true)
	expectSame(t, api.Entry{Keys: matches(match(0, 0))}, api.Entry{}, false, false)
	expectSame(t, api.Entry{Call: call(0, 0)}, api.Entry{}, true, false)
	// Values are compared as they stand, also in bits outside the mask.
	expectSame(t, api.Entry{Keys: matches(match(2, 1))}, api.Entry{Keys: matches(match(0, 1))}, false, false)
	long := slices.Repeat(matches(match(1, 1)), 20000)
	other := slices.Clone(long)
	expectSame(t, api.Entry{Keys: long}, api.Entry{Keys: other}, true, true)
	other[19999].Mask = 3
	expectSame(t, api.Entry{Keys: long}, api.Entry{Keys: other}, false, false)
}
