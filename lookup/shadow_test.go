package lookup_test

import (
	"slices"
	"testing"

	"patchbay/api"
	"patchbay/cubeset"
	"patchbay/entry"
	"patchbay/lookup"
)

func expectShadowed(t *testing.T, p api.Program, l []api.Row, want []int, wantError api.Errno) {
	t.Helper()
	before := text(p, l)
	if ids, e := lookup.Shadowed(p, 1, l); !slices.Equal(ids, want) || e != wantError {
		t.Errorf("Shadowed of %+v: %v, %v, want %v, %v", l, ids, e, want, wantError)
	}
	if text(p, l) != before {
		t.Error("Shadowed changes its arguments")
	}
}

// neverBest answers the IDs of the rows that Best answers for no key whose values fit.
func neverBest(p api.Program, keys []key, l []api.Row) []int {
	seen := map[int]bool{}
	for n := range uint64(1) << bitsOf(keys) {
		if r, found := lookup.Best(p, 1, l, valuesOf(keys, n)); found {
			seen[r.ID] = true
		}
	}
	var ids []int
	for _, r := range l {
		if !seen[r.ID] {
			ids = append(ids, r.ID)
		}
	}
	slices.Sort(ids)
	return ids
}

// P24.4, P24.5: narrow tables, held against all keys; without the shadowed rows Best answers the same
func TestShadowedOfAllKeys(t *testing.T) {
	r := random(6)
	total := 0
	for range 500 {
		keys := append(randomKeys(&r, 5), pick(&r, []key{{ternary, 1}, {ternary, 2}, {exact, 1}}))
		keys = keys[max(0, len(keys)-6):]
		p := sample(keys...)
		l := randomRows(&r, keys, r.below(30))
		want := neverBest(p, keys, l)
		expectShadowed(t, p, l, want, api.OK)
		expectShadowed(t, p, shuffled(&r, l), want, api.OK)
		total += len(want)
		left := slices.DeleteFunc(slices.Clone(l), func(x api.Row) bool { return slices.Contains(want, x.ID) })
		for n := range uint64(1) << bitsOf(keys) {
			a, inAll := lookup.Best(p, 1, l, valuesOf(keys, n))
			b, inLeft := lookup.Best(p, 1, left, valuesOf(keys, n))
			if !sameRow(a, b) || inAll != inLeft {
				t.Fatalf("Best without the rows %v of %+v: %+v, not %+v", want, l, b, a)
			}
		}
		if t.Failed() {
			return
		}
	}
	if total < 500 {
		t.Errorf("%d shadowed rows", total)
	}
}

// cube is the concatenation of P24.4.
func cube(keys []key, x api.Entry) api.Cube {
	var c api.Cube
	shift := 0
	for i, k := range slices.Backward(keys) {
		c.Value |= uint64(x.Keys[i].Value) << shift
		c.Mask |= uint64(x.Keys[i].Mask) << shift
		shift += k.width
	}
	return c
}

// wantShadowed is P24.4, word by word, of rows that New accepts and of at least one key.
func wantShadowed(p api.Program, keys []key, l []api.Row) ([]int, api.Errno) {
	var ids []int
	for _, x := range l {
		var others []api.Cube
		for _, y := range l {
			if entry.Precedes(p, 1, y, x) {
				others = append(others, cube(keys, y.Entry))
			}
		}
		rest, e := cubeset.Subtract([]api.Cube{cube(keys, x.Entry)}, others, bitsOf(keys))
		if e != api.OK {
			return nil, e
		}
		if len(rest) == 0 {
			ids = append(ids, x.ID)
		}
	}
	slices.Sort(ids)
	return ids, api.OK
}

// P24.4: wide tables, held against the promise's words; many of them need too many cubes
func TestShadowedOfWideKeys(t *testing.T) {
	r := random(7)
	failed, total := 0, 0
	for range 300 {
		keys := append(randomKeys(&r, 31), key{ternary, 1 + r.below(32)})
		keys = keys[max(0, len(keys)-6):]
		p := sample(keys...)
		l := randomRows(&r, keys, r.below(60))
		want, e := wantShadowed(p, keys, l)
		expectShadowed(t, p, l, want, e)
		total += len(want)
		if e != api.OK {
			failed++
		}
		if t.Failed() {
			return
		}
	}
	if failed < 30 || failed > 270 || total < 100 {
		t.Errorf("%d errors, %d shadowed rows", failed, total)
	}
}

// pairs answers n rows, each with two one bits of its own, from an ID on, and of some priority.
func pairs(n, id, priority int) []api.Row {
	var l []api.Row
	for i := range n {
		l = append(l, row(id+i, priority, match(3<<(2*i), 3<<(2*i))))
	}
	return l
}

// P24.4: the rows that precede one are taken from its cube in the order of the list, which may need too many cubes
func TestShadowedLimit(t *testing.T) {
	p := sample(key{ternary, 32})
	last, whole := []api.Row{row(1, 0, match(0, 0))}, []api.Row{row(2, 9, match(0, 0))}
	expectShadowed(t, p, slices.Concat(last, pairs(10, 10, 5)), nil, api.OK)
	expectShadowed(t, p, slices.Concat(last, pairs(11, 10, 5)), nil, api.ErrLimit)
	expectShadowed(t, p, slices.Concat(pairs(11, 10, 5), last), nil, api.ErrLimit)
	// Behind the row that takes all there is nothing that the others could split.
	expectShadowed(t, p, slices.Concat(whole, last, pairs(3, 10, 5)), []int{1, 10, 11, 12}, api.OK)
	all := []int{1, 10, 11, 12, 13, 14, 15, 16, 17, 18, 19, 20}
	expectShadowed(t, p, slices.Concat(whole, last, pairs(11, 10, 5)), all, api.OK)
	expectShadowed(t, p, slices.Concat(last, whole, pairs(11, 10, 5)), all, api.OK)
	expectShadowed(t, p, slices.Concat(last, pairs(11, 10, 5), whole), nil, api.ErrLimit)
	expectShadowed(t, p, slices.Concat(last, pairs(10, 10, 5), whole), all[:11], api.OK)
	// Rows that don't precede the last one split nothing.
	expectShadowed(t, p, slices.Concat([]api.Row{row(1, 6, match(0, 0))}, pairs(11, 10, 5)), all[1:], api.OK)
}

// P24.4: which rows precede, by priority, by prefix and by ID
func TestShadowedByPrecedence(t *testing.T) {
	p := sample(key{ternary, 8}, key{lpm, 8})
	a, b := []api.KeyMatch{match(1, 1), match(0x80, 0x80)}, []api.KeyMatch{match(5, 5), match(0xc0, 0xc0)}
	expectShadowed(t, p, []api.Row{row(1, 0, a...), row(2, 0, b...)}, nil, api.OK)
	expectShadowed(t, p, []api.Row{row(1, 1, a...), row(2, 0, b...)}, []int{2}, api.OK)
	expectShadowed(t, p, []api.Row{row(1, 0, a...), row(2, 1, b...)}, nil, api.OK)
	b[1] = a[1]
	expectShadowed(t, p, []api.Row{row(1, 0, a...), row(2, 0, b...)}, []int{2}, api.OK)
	expectShadowed(t, p, []api.Row{row(2, 0, a...), row(1, 0, b...)}, nil, api.OK)
	expectShadowed(t, p, []api.Row{row(2, 0, b...), row(1, 0, a...)}, []int{2}, api.OK)
	expectShadowed(t, p, []api.Row{row(2, 1, a...), row(1, 0, a...), row(3, 2, a...)}, []int{1, 2}, api.OK)
	expectShadowed(t, p, []api.Row{row(9, 0, a...), row(-4, 3, a...), row(0, 2, a...), row(-7, 1, a...)}, []int{-7, 0, 9}, api.OK)
	// Two rows together cover a third one.
	halves := []api.Row{row(1, 0, match(0, 0x10), match(0, 0)), row(2, 0, match(0x10, 0x10), match(0, 0)), row(3, 0, match(9, 9), match(0, 0))}
	expectShadowed(t, p, halves, []int{3}, api.OK)
	expectShadowed(t, p, halves[1:], nil, api.OK)
}

// P24.4: a prefix is shadowed where longer ones cover it; in the key the first value is the most significant one
func TestShadowedPrefixes(t *testing.T) {
	p := sample(key{lpm, 8}, key{exact, 2})
	l := []api.Row{row(1, 0, match(0, 0), match(2, 3)), row(2, 0, match(0, 0x80), match(2, 3)), row(3, 0, match(0x80, 0x80), match(2, 3))}
	expectShadowed(t, p, l, []int{1}, api.OK)
	l[2].Entry.Keys[1] = match(3, 3)
	expectShadowed(t, p, l, nil, api.OK)
	// In the other order of the keys the two values would be the same number.
	p = sample(key{ternary, 1}, key{ternary, 2})
	expectShadowed(t, p, []api.Row{row(1, 0, match(1, 1), match(0, 0)), row(2, 0, match(0, 0), match(1, 1))}, nil, api.OK)
	expectShadowed(t, p, []api.Row{row(1, 0, match(1, 1), match(0, 0)), row(2, 0, match(0, 0), match(2, 2)), row(3, 0, match(1, 1), match(2, 3))}, []int{3}, api.OK)
}

// P24.4: keys of all 64 bits
func TestShadowedOfGreatestWidth(t *testing.T) {
	p := sample(key{ternary, 32}, key{ternary, 1}, key{ternary, 31})
	full := []api.KeyMatch{match(1<<31, 1<<31), match(1, 1), match(1, greatest(31))}
	l := []api.Row{row(1, 0, full...), row(2, 0, full[0], match(1, 1), match(1, 1)), row(3, 0, full[0], match(0, 0), full[2])}
	expectShadowed(t, p, l, nil, api.OK)
	l = append(l, row(4, 0, match(1<<31|5, 1<<31|7), match(1, 1), match(3, 3)), row(5, 0, match(0, 1<<31), match(1, 1), match(3, 3)))
	expectShadowed(t, p, l, []int{4}, api.OK)
	l = append(l, row(6, 255, match(0, 0), match(0, 0), match(0, 0)))
	expectShadowed(t, p, l, []int{1, 2, 3, 4, 5}, api.OK)
}

// P24.4: of a table without keys no row is shadowed, but New's errors come first
func TestShadowedWithoutKeys(t *testing.T) {
	p := sample()
	expectShadowed(t, p, nil, nil, api.OK)
	expectShadowed(t, p, []api.Row{row(1, 0)}, nil, api.OK)
	expectShadowed(t, p, []api.Row{row(1, 0), row(2, 0)}, nil, api.ErrDuplicate)
	expectShadowed(t, p, []api.Row{row(1, 1)}, nil, api.ErrKind)
	expectShadowed(t, p, []api.Row{row(1, 0, match(0, 0))}, nil, api.ErrArg)
}

// P24.5: of exact rows none is shadowed, be they all that there can be
func TestShadowedOfExactRows(t *testing.T) {
	keys := []key{{exact, 3}, {exact, 1}, {exact, 4}}
	var l []api.Row
	for n := range uint64(256) {
		values := valuesOf(keys, n)
		l = append(l, row(int(n), 0, match(values[0], 7), match(values[1], 1), match(values[2], 15)))
	}
	r := random(8)
	expectShadowed(t, sample(keys...), shuffled(&r, l), nil, api.OK)
	expectShadowed(t, sample(keys...), nil, nil, api.OK)
}

// P24.4: what lies behind the length of a list doesn't count, and what is answered is memory of its own
func TestShadowedIsNew(t *testing.T) {
	p := sample(key{ternary, 8})
	l := []api.Row{row(3, 1, match(0, 0)), row(2, 0, match(0, 0)), row(1, 0, match(1, 1)), row(4, 9, match(0, 0))}
	ids, _ := lookup.Shadowed(p, 1, l[:3])
	clear(ids[:cap(ids)])
	expectShadowed(t, p, l[:3], []int{1, 2}, api.OK)
	expectShadowed(t, p, l, []int{1, 2, 3}, api.OK)
	expectShadowed(t, p, l[:1], nil, api.OK)
}
