package lookup_test

import (
	"fmt"
	"math"
	"slices"
	"strconv"
	"strings"
	"testing"

	"patchbay/api"
	"patchbay/entry"
	"patchbay/lookup"
)

const (
	exact   = api.MatchExact
	lpm     = api.MatchLPM
	ternary = api.MatchTernary
)

var wrongNumbers = []int{math.MinInt, -1 << 32, -2, -1, 99, 1 << 32, 1<<32 + 1, math.MaxInt}

// random is a row of numbers that look like no rule, the same ones for the same seed.
type random uint64

func (r *random) bits() uint32 {
	*r = *r*6364136223846793005 + 1442695040888963407
	return uint32(*r >> 32)
}

func (r *random) below(n int) int { return int(r.bits()>>4) % n }

func (r *random) chance(n int) bool { return r.below(n) == 0 }

func pick[T any](r *random, l []T) T { return l[r.below(len(l))] }

// shuffled answers the elements of l in another order.
func shuffled[T any](r *random, l []T) []T {
	l = slices.Clone(l)
	for i := range l {
		k := r.below(i + 1)
		l[i], l[k] = l[k], l[i]
	}
	return l
}

// key is a key of a table, of a field of some width.
type key struct{ kind, width int }

func greatest(w int) uint32 { return uint32(uint64(1)<<w - 1) }

// prefix answers the mask of the n first bits of w.
func prefix(n, w int) uint32 { return greatest(w) - greatest(w-n) }

func match(value, mask uint32) api.KeyMatch { return api.KeyMatch{Value: value, Mask: mask} }

func call(action int, args ...uint32) api.ActionCall {
	return api.ActionCall{Action: action, Args: args}
}

func row(id, priority int, l ...api.KeyMatch) api.Row {
	return api.Row{ID: id, Entry: api.Entry{Keys: l, Priority: priority}}
}

// sample is a program of three tables, the middle one with the given keys, by turns of metadata and of a header. It
// allows the actions 0 and 1.
func sample(keys ...key) api.Program {
	p := api.Program{
		Headers: []api.Header{{Name: "h"}},
		Actions: []api.Action{{Name: "none"}, {Name: "one", Params: []api.Field{{Name: "v", Width: 8}}}, {Name: "other"}},
	}
	x := api.Table{Name: "t", Actions: []int{0, 1}, Size: 4}
	for i, k := range keys {
		f := api.Field{Name: "k" + strconv.Itoa(i), Width: k.width}
		if i%2 == 0 {
			p.Metadata = append(p.Metadata, f)
			x.Keys = append(x.Keys, api.TableKey{Field: api.FieldRef{Header: -1, Field: i / 2}, Kind: k.kind})
		} else {
			p.Headers[0].Fields = append(p.Headers[0].Fields, f)
			x.Keys = append(x.Keys, api.TableKey{Field: api.FieldRef{Field: i / 2}, Kind: k.kind})
		}
	}
	p.Tables = []api.Table{{Name: "first", Actions: []int{0}, Size: 1}, x, {Name: "2", Actions: []int{0}, Size: 1}}
	return p
}

// randomKeys answers the keys of a valid table, of at most some bits in all.
func randomKeys(r *random, bits int) []key {
	var keys []key
	kinds := pick(r, [][]int{{exact}, {exact, lpm}, {exact, lpm}, {ternary}, {exact, lpm, ternary}})
	for range r.below(api.MaxKeys + 1) {
		if bits == 0 {
			break
		}
		k := key{pick(r, kinds), 1 + r.below(min(32, bits))}
		keys = append(keys, k)
		bits -= k.width
		if k.kind == lpm {
			kinds = slices.DeleteFunc(slices.Clone(kinds), func(kind int) bool { return kind == lpm })
		}
	}
	return keys
}

func hasTernary(keys []key) bool {
	return slices.ContainsFunc(keys, func(k key) bool { return k.kind == ternary })
}

// randomEntry answers a valid entry. Narrow masks and small priorities make that many entries meet.
func randomEntry(r *random, keys []key) api.Entry {
	var x api.Entry
	for _, k := range keys {
		mask := greatest(k.width)
		switch k.kind {
		case lpm:
			mask = prefix(r.below(k.width+1), k.width)
		case ternary:
			mask &= r.bits() & r.bits()
		}
		x.Keys = append(x.Keys, match(r.bits()&mask, mask))
	}
	if hasTernary(keys) {
		x.Priority = pick(r, []int{0, 0, 1, 1, 2, 7, 255})
	}
	x.Call = pick(r, []api.ActionCall{call(0), call(1, r.bits()%256)})
	return x
}

// randomRows answers up to n rows that New accepts.
func randomRows(r *random, keys []key, n int) []api.Row {
	var l []api.Row
	for i := range n {
		x := randomEntry(r, keys)
		if !slices.ContainsFunc(l, func(y api.Row) bool { return entry.SameKey(x, y.Entry) }) {
			l = append(l, api.Row{ID: i*37%101 - 8, Entry: x})
		}
	}
	return l
}

// valuesOf answers number n of the keys whose values fit, the first key in the most significant bits.
func valuesOf(keys []key, n uint64) []uint32 {
	l := make([]uint32, len(keys))
	for i, k := range slices.Backward(keys) {
		l[i] = uint32(n) & greatest(k.width)
		n >>= k.width
	}
	return l
}

func bitsOf(keys []key) int {
	n := 0
	for _, k := range keys {
		n += k.width
	}
	return n
}

// randomValues answers a key that one of the rows may well match; some are too long, too short or too wide.
func randomValues(r *random, keys []key, l []api.Row) []uint32 {
	values := make([]uint32, len(keys))
	for i, k := range keys {
		values[i] = r.bits() & greatest(k.width)
	}
	if len(l) > 0 && !r.chance(4) {
		for i, m := range pick(r, l).Entry.Keys {
			values[i] = values[i]&^m.Mask | m.Value
		}
	}
	for i := range values {
		if r.chance(8) {
			values[i] ^= 1 << r.below(32)
		}
		if r.chance(4) {
			values[i] |= r.bits() &^ greatest(keys[i].width)
		}
	}
	switch r.below(12) {
	case 0:
		values = append(values, pick(r, []uint32{0, 1, math.MaxUint32}))
	case 1:
		values = values[:r.below(len(values)+1)]
	}
	return values
}

// text writes values with what lies behind the lengths of the lists of rows.
func text(l ...any) string {
	var s strings.Builder
	for _, v := range l {
		if rows, ok := v.([]api.Row); ok {
			for _, x := range rows[:cap(rows)] {
				fmt.Fprint(&s, x.Entry.Keys[:cap(x.Entry.Keys)], x.Entry.Call.Args[:cap(x.Entry.Call.Args)])
			}
			v = rows[:cap(rows)]
		}
		fmt.Fprintf(&s, "%+v\n", v)
	}
	return s.String()
}

func sameRow(a, b api.Row) bool { return a.ID == b.ID && entry.Equal(a.Entry, b.Entry) }

// wantBest is P24.1, word by word.
func wantBest(p api.Program, t int, l []api.Row, values []uint32) (api.Row, bool) {
	if t < 0 || t >= len(p.Tables) {
		return api.Row{}, false
	}
	var matching []api.Row
	for _, x := range l {
		if entry.Matches(x.Entry, values) {
			matching = append(matching, x)
		}
	}
	for i, x := range matching {
		others := slices.Delete(slices.Clone(matching), i, i+1)
		if !slices.ContainsFunc(others, func(y api.Row) bool { return !entry.Precedes(p, t, x, y) }) {
			return x, true
		}
	}
	for _, x := range matching {
		if !slices.ContainsFunc(matching, func(y api.Row) bool { return entry.Precedes(p, t, y, x) }) {
			return x, true
		}
	}
	return api.Row{}, false
}

func expectBest(t *testing.T, p api.Program, i int, l []api.Row, values []uint32, want api.Row, wantFound bool) {
	t.Helper()
	before := text(p, l, values)
	if got, found := lookup.Best(p, i, l, values); !sameRow(got, want) || found != wantFound {
		t.Errorf("Best of %+v in table %d for %x: %+v, %v, want %+v, %v", l, i, values, got, found, want, wantFound)
	}
	if text(p, l, values) != before {
		t.Error("Best changes its arguments")
	}
}

// expectFind expects that an index finds what Best answers.
func expectFind(t *testing.T, x *lookup.Index, p api.Program, l []api.Row, values []uint32) {
	t.Helper()
	own := slices.Clone(values)
	want, wantFound := lookup.Best(p, 1, l, values)
	if got, found := x.Find(values); !sameRow(got, want) || found != wantFound {
		t.Errorf("Find of %x in %+v: %+v, %v, want %+v, %v", values, l, got, found, want, wantFound)
	}
	if !slices.Equal(own, values) {
		t.Error("Find changes its argument")
	}
}

// expectError expects that New and Shadowed answer an error and nothing else.
func expectError(t *testing.T, p api.Program, i int, l []api.Row, want api.Errno) {
	t.Helper()
	before := text(p, l)
	if x, e := lookup.New(p, i, l); x != nil || e != want {
		t.Errorf("New of %+v in table %d: %v, %v, want %v", l, i, x, e, want)
	}
	if ids, e := lookup.Shadowed(p, i, l); len(ids) != 0 || e != want {
		t.Errorf("Shadowed of %+v in table %d: %v, %v, want %v", l, i, ids, e, want)
	}
	if text(p, l) != before {
		t.Error("the arguments are changed")
	}
}

// made answers an index of rows that New must accept.
func made(t *testing.T, p api.Program, l []api.Row) *lookup.Index {
	t.Helper()
	before := text(p, l)
	x, e := lookup.New(p, 1, l)
	if x == nil || e != api.OK || x.Len() != len(l) {
		t.Fatalf("New of %+v: %v, %v, %d rows", l, x, e, x.Len())
	}
	if text(p, l) != before {
		t.Error("New changes its arguments")
	}
	return x
}
