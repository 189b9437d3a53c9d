package lookup_test

import (
	"math"
	"slices"
	"testing"

	"patchbay/api"
	"patchbay/lookup"
)

// P24.1, P24.4: example 1
func TestExample(t *testing.T) {
	p := sample(key{ternary, 8})
	l := []api.Row{row(1, 0, match(0, 0)), row(2, 0, match(5, 255)), row(3, 9, match(5, 255))}
	expectBest(t, p, 1, l, []uint32{5}, l[2], true)
	expectBest(t, p, 1, l, []uint32{6}, l[0], true)
	if ids, e := lookup.Shadowed(p, 1, l); !slices.Equal(ids, []int{2}) || e != api.OK {
		t.Errorf("Shadowed: %v, %v", ids, e)
	}
}

// P24.1: nothing is found without a table, without rows, and without a row that matches
func TestBestOfNothing(t *testing.T) {
	p := sample(key{exact, 8})
	l := []api.Row{row(1, 0, match(5, 255))}
	expectBest(t, p, 1, l, []uint32{5}, l[0], true)
	expectBest(t, p, 1, l, []uint32{4}, api.Row{}, false)
	expectBest(t, p, 1, l, nil, api.Row{}, false)
	expectBest(t, p, 1, l, []uint32{5, 5}, api.Row{}, false)
	expectBest(t, p, 1, nil, []uint32{5}, api.Row{}, false)
	expectBest(t, p, 1, l[:0], []uint32{5}, api.Row{}, false)
	for _, i := range append([]int{3}, wrongNumbers...) {
		expectBest(t, p, i, l, []uint32{5}, api.Row{}, false)
		expectBest(t, api.Program{}, i, l, []uint32{5}, api.Row{}, false)
	}
	expectBest(t, api.Program{}, 0, l, []uint32{5}, api.Row{}, false)
	// Whether the table and the rows are valid doesn't count.
	expectBest(t, p, 0, l, []uint32{5}, l[0], true)
	expectBest(t, p, 2, l, []uint32{5}, l[0], true)
	odd := []api.Row{row(0, -3, match(7, 2), match(0, 0), match(0, math.MaxUint32))}
	expectBest(t, p, 1, odd, []uint32{2, 9, 0}, odd[0], true)
	expectBest(t, p, 1, odd, []uint32{5, 9, 0}, api.Row{}, false)
	expectBest(t, p, 1, []api.Row{row(4, 0)}, nil, row(4, 0), true)
}

// P24.1: priority, prefix and ID decide, wherever the rows stand
func TestBestOrder(t *testing.T) {
	p := sample(key{ternary, 8}, key{lpm, 8})
	l := []api.Row{
		row(9, 2, match(0, 0), match(0, 0)),
		row(8, 1, match(0, 0), match(0xf0, 0xf0)),
		row(7, 1, match(0, 0), match(0xf0, 0xfe)),
		row(2, 1, match(1, 1), match(0xf0, 0xfe)),
		row(1, 0, match(3, 255), match(0xf0, 0xff)),
	}
	order := []int{9, 2, 7, 8, 1}
	byOrder := func(a, b api.Row) int { return slices.Index(order, a.ID) - slices.Index(order, b.ID) }
	r := random(24)
	for range 200 {
		for m := shuffled(&r, l); len(m) > 0; m = m[1:] {
			expectBest(t, p, 1, m, []uint32{3, 0xf0}, slices.MinFunc(m, byOrder), true)
		}
	}
	expectBest(t, p, 1, l, []uint32{3, 0xf0}, l[0], true)
	expectBest(t, p, 1, l[1:], []uint32{2, 0xf0}, l[2], true)
	expectBest(t, p, 1, l[1:], []uint32{2, 0xf2}, l[1], true)
}

// P24.1: of rows with equal IDs, none of which goes ahead of the others, the first is answered
func TestBestOfEqualIDs(t *testing.T) {
	p := sample(key{ternary, 8})
	l := []api.Row{row(3, 0, match(0, 0)), row(2, 0, match(1, 1)), row(2, 0, match(0, 0)), row(2, 0, match(3, 3)), row(2, 1, match(9, 255))}
	expectBest(t, p, 1, l, []uint32{3}, l[1], true)
	expectBest(t, p, 1, l, []uint32{2}, l[2], true)
	expectBest(t, p, 1, l[2:], []uint32{3}, l[2], true)
	expectBest(t, p, 1, l[3:], []uint32{3}, l[3], true)
	expectBest(t, p, 1, l, []uint32{9}, l[4], true)
	slices.Reverse(l)
	expectBest(t, p, 1, l, []uint32{3}, l[1], true)
	expectBest(t, p, 1, l, []uint32{1}, l[2], true)
	expectBest(t, p, 1, l, []uint32{9}, l[0], true)
	twins := []api.Row{row(5, 0, match(0, 0)), row(5, 0, match(0, 0))}
	twins[0].Entry.Call = call(1, 7)
	expectBest(t, p, 1, twins, []uint32{0}, twins[0], true)
	slices.Reverse(twins)
	expectBest(t, p, 1, twins, []uint32{0}, twins[0], true)
}

// P24.1: rows of all sorts, the valid and the others, held against the promise's words
func TestRandomBest(t *testing.T) {
	r := random(1)
	found := 0
	for range 3000 {
		keys := randomKeys(&r, pick(&r, []int{3, 6, 64}))
		p := sample(keys...)
		var l []api.Row
		for range r.below(9) {
			x := api.Row{ID: r.below(4), Entry: randomEntry(&r, keys)}
			if len(keys) > 0 && r.chance(9) {
				x.Entry.Keys[r.below(len(keys))] = match(r.bits()>>r.below(32), r.bits()>>r.below(32))
			}
			if r.chance(15) {
				x.Entry.Keys = x.Entry.Keys[:r.below(len(keys)+1)]
			}
			l = append(l, x)
		}
		if len(keys) > 1 && r.chance(5) {
			p.Tables[1].Keys[0].Kind, p.Tables[1].Keys[1].Kind = lpm, lpm
		}
		for range 4 {
			values, i := randomValues(&r, keys, nil), pick(&r, []int{0, 1, 1, 1, 2, 3, -1})
			want, ok := wantBest(p, i, l, values)
			expectBest(t, p, i, l, values, want, ok)
			if ok {
				found++
			}
		}
		if t.Failed() {
			return
		}
	}
	if found < 2000 {
		t.Errorf("%d rows are found", found)
	}
}

// P24.1: what is answered is memory of its own
func TestBestIsNew(t *testing.T) {
	p := sample(key{ternary, 8}, key{exact, 8})
	l := []api.Row{row(1, 3, []api.KeyMatch{match(1, 1), match(2, 255), match(9, 9)}[:2]...), row(2, 0)}
	l[0].Entry.Call = call(1, []uint32{5, 6}[:1]...)
	before := text(p, l)
	x, _ := lookup.Best(p, 1, l, []uint32{1, 2})
	y, _ := lookup.Best(p, 1, l, []uint32{1, 2})
	clear(x.Entry.Keys[:cap(x.Entry.Keys)])
	clear(x.Entry.Call.Args[:cap(x.Entry.Call.Args)])
	if text(p, l) != before || !sameRow(y, l[0]) {
		t.Error("what is answered is kept")
	}
	if len(x.Entry.Keys) != 2 || len(x.Entry.Call.Args) != 1 {
		t.Errorf("Best answers %+v", x)
	}
	// Rows behind the length of the list don't count.
	expectBest(t, p, 1, []api.Row{row(2, 0, match(0, 0), match(2, 255)), l[0]}[:1], []uint32{1, 2}, row(2, 0, match(0, 0), match(2, 255)), true)
}
