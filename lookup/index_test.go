package lookup_test

import (
	"math"
	"slices"
	"testing"

	"patchbay/api"
	"patchbay/entry"
	"patchbay/lookup"
	"patchbay/table"
)

// P24.2, P24.4: the error of the table comes first
func TestErrorOfTable(t *testing.T) {
	valid, wrong := []api.Row{row(1, 0, match(1, 255))}, []api.Row{row(1, -1), row(1, 0, match(1, 0))}
	for _, l := range [][]api.Row{nil, valid, wrong} {
		p := sample(key{exact, 8})
		expectError(t, p, 2, l, api.ErrName)
		for _, i := range append([]int{3}, wrongNumbers...) {
			expectError(t, p, i, l, api.ErrNotFound)
			expectError(t, api.Program{}, i, l, api.ErrNotFound)
		}
		for _, c := range []struct {
			damage func(p *api.Program, x *api.Table)
			want   api.Errno
		}{
			{func(p *api.Program, x *api.Table) { x.Keys = slices.Repeat(x.Keys, 7) }, api.ErrLimit},
			{func(p *api.Program, x *api.Table) { x.Keys = slices.Repeat(x.Keys, 20000) }, api.ErrLimit},
			{func(p *api.Program, x *api.Table) { x.Size = 0 }, api.ErrRange},
			{func(p *api.Program, x *api.Table) { x.Keys[0].Field.Field = 9 }, api.ErrNotFound},
			{func(p *api.Program, x *api.Table) { x.Keys[0].Kind = 4 }, api.ErrKind},
			{func(p *api.Program, x *api.Table) { x.Keys[0].Kind = lpm; x.Keys = slices.Repeat(x.Keys, 2) }, api.ErrDuplicate},
			{func(p *api.Program, x *api.Table) { p.Metadata[0].Width = 32; x.Keys = slices.Repeat(x.Keys, 3) }, api.ErrWidth},
			{func(p *api.Program, x *api.Table) { x.Default = call(1) }, api.ErrArg},
		} {
			p := sample(key{exact, 8})
			c.damage(&p, &p.Tables[1])
			expectError(t, p, 1, l, c.want)
		}
	}
	p := sample()
	expectError(t, p, 2, nil, api.ErrName)
}

// P24.2: the error of each row, and which of them comes first
func TestErrorOfRows(t *testing.T) {
	p := sample(key{ternary, 8}, key{exact, 4})
	a, b := row(1, 0, match(1, 255), match(1, 15)), row(2, 0, match(2, 255), match(1, 15))
	faulty := func(x api.Entry) api.Row { return api.Row{ID: 3, Entry: x} }
	for _, c := range []struct {
		x    api.Row
		want api.Errno
	}{
		{row(3, 0), api.ErrArg},
		{row(1, 0, match(1, 255)), api.ErrArg},
		{row(3, 0, match(256, 256), match(1, 15)), api.ErrRange},
		{row(3, 0, match(1, 0), match(1, 15)), api.ErrSyntax},
		{row(1, 0, match(1, 255), match(1, 7)), api.ErrKind},
		{row(1, 256, match(1, 255), match(1, 15)), api.ErrRange},
		{faulty(api.Entry{Keys: a.Entry.Keys, Call: call(2)}), api.ErrNotFound},
		{faulty(api.Entry{Keys: a.Entry.Keys, Call: call(1)}), api.ErrArg},
		{faulty(api.Entry{Keys: a.Entry.Keys, Call: call(1, 256)}), api.ErrRange},
		{row(1, 0, match(7, 255), match(1, 15)), api.ErrDuplicate},
		{row(3, 0, match(1, 255), match(1, 15)), api.ErrDuplicate},
		{row(3, 0, match(2, 255), match(1, 15)), api.ErrDuplicate},
		{row(2, 0, match(1, 255), match(1, 15)), api.ErrDuplicate},
		{faulty(api.Entry{Keys: a.Entry.Keys, Call: call(1, 255)}), api.ErrDuplicate},
	} {
		expectError(t, p, 1, []api.Row{a, b, c.x}, c.want)
		expectError(t, p, 1, []api.Row{a, b, c.x, row(3, -1), a}, c.want)
		expectError(t, p, 1, []api.Row{row(9, 300, b.Entry.Keys...), a, b, c.x}, api.ErrRange)
		expectError(t, p, 1, []api.Row{b, b, c.x}, api.ErrDuplicate)
		if c.want != api.ErrDuplicate {
			expectError(t, p, 1, []api.Row{c.x, a, a}, c.want)
		}
		made(t, p, []api.Row{a, b, c.x}[:2])
	}
}

// P24.2: rows may have the same keys with other priorities, and any IDs, and may be more than the table holds
func TestRowsThatNewTakes(t *testing.T) {
	p := sample(key{ternary, 8})
	made(t, p, nil)
	made(t, p, []api.Row{row(1, 0, match(1, 1)), row(2, 1, match(1, 1)), row(3, 255, match(1, 1)), row(4, 0, match(1, 3)), row(5, 0, match(0, 1))})
	var l []api.Row
	for i, id := range append([]int{0}, wrongNumbers...) {
		l = append(l, row(id, i, match(0, 0)))
	}
	x := made(t, p, l)
	for _, r := range l {
		expectError(t, p, 1, append(slices.Clone(l), row(r.ID, 77, match(0, 0))), api.ErrDuplicate)
		expectError(t, p, 1, append(slices.Clone(l), row(1234, r.Entry.Priority, match(0, 0))), api.ErrDuplicate)
	}
	expectFind(t, x, p, l, []uint32{9})
	p = sample(key{lpm, 16}, key{exact, 16})
	l = nil
	for i := range uint32(3000) {
		l = append(l, row(int(i), 0, match(i<<4, prefix(12, 16)), match(i, 0xffff)))
	}
	for i := range l {
		l[i].Entry.Keys[0].Value &= 0xffff
	}
	x = made(t, p, l)
	for i := range uint32(3000) {
		expectFind(t, x, p, l[i:i+1], []uint32{i<<4&0xffff | 5, i})
	}
	expectError(t, p, 1, append(l, row(3000, 0, l[1].Entry.Keys...)), api.ErrDuplicate)
	expectError(t, p, 1, append(l, row(1, 0, match(0, 0), match(0, 0xffff))), api.ErrDuplicate)
}

// wantError is P24.2, word by word.
func wantError(p api.Program, t int, l []api.Row) api.Errno {
	if _, e := table.Check(p, t); e != api.OK {
		return e
	}
	for i, x := range l {
		if e := entry.Check(p, t, x.Entry); e != api.OK {
			return e
		}
		for _, y := range l[:i] {
			if x.ID == y.ID || entry.SameKey(x.Entry, y.Entry) {
				return api.ErrDuplicate
			}
		}
	}
	return api.OK
}

// P24.2: random rows, held against the promise's words
func TestRandomErrors(t *testing.T) {
	r := random(2)
	count := map[api.Errno]int{}
	for range 3000 {
		keys := randomKeys(&r, pick(&r, []int{4, 8, 64}))
		p := sample(keys...)
		l := randomRows(&r, keys, r.below(9))
		for i := range l {
			switch r.below(16) {
			case 0:
				l[i].ID = l[r.below(len(l))].ID
			case 1:
				l[i].Entry = l[r.below(len(l))].Entry
				l[i].Entry.Call = call(0)
			case 2:
				l[i].Entry.Priority++
			case 3:
				l[i].Entry.Call.Action++
			}
		}
		want := wantError(p, 1, l)
		count[want]++
		if want == api.OK {
			made(t, p, l)
		} else {
			expectError(t, p, 1, l, want)
		}
		if t.Failed() {
			return
		}
	}
	if len(count) < 5 || count[api.OK] < 1000 || count[api.ErrDuplicate] < 100 {
		t.Errorf("errors: %v", count)
	}
}

// P24.3: all keys of narrow tables, and such as are too wide, too long or too short
func TestFindAllKeys(t *testing.T) {
	r := random(3)
	for range 250 {
		keys := randomKeys(&r, 7)
		p := sample(keys...)
		l := randomRows(&r, keys, r.below(40))
		x := made(t, p, l)
		for n := range uint64(1) << bitsOf(keys) {
			values := valuesOf(keys, n)
			expectFind(t, x, p, l, values)
			for i, k := range keys {
				values[i] |= pick(&r, []uint32{0, 1 << 31, math.MaxUint32 &^ greatest(k.width), 1 << k.width})
			}
			expectFind(t, x, p, l, values)
			expectFind(t, x, p, l, append(values, 0))
			if len(values) > 0 {
				expectFind(t, x, p, l, values[1:])
			}
		}
		if t.Failed() {
			return
		}
	}
}

// P24.3, P24.5: wide tables, and the same rows in another order
func TestFindRandomKeys(t *testing.T) {
	r := random(4)
	found := 0
	for range 400 {
		keys := randomKeys(&r, 64)
		p := sample(keys...)
		l := randomRows(&r, keys, r.below(100))
		m := shuffled(&r, l)
		x, y := made(t, p, l), made(t, p, m)
		for range 60 {
			values := randomValues(&r, keys, l)
			expectFind(t, x, p, l, values)
			expectFind(t, y, p, l, values)
			if _, ok := x.Find(values); ok {
				found++
			}
		}
		if t.Failed() {
			return
		}
	}
	if found < 6000 {
		t.Errorf("%d rows are found", found)
	}
}

// expectID expects the ID of the row that is found, or 0 if none is.
func expectID(t *testing.T, x *lookup.Index, want int, values ...uint32) {
	t.Helper()
	if r, found := x.Find(values); r.ID != want || found != (want != 0) {
		t.Errorf("Find of %x: %+v, %v, want %d", values, r, found, want)
	}
}

// P24.3: a longer prefix goes ahead of a shorter one only among rows with the same values of the other keys
func TestFindPrefixes(t *testing.T) {
	x := made(t, sample(key{exact, 4}, key{lpm, 32}, key{exact, 4}), []api.Row{
		row(1, 0, match(1, 15), match(0, 0), match(2, 15)),
		row(2, 0, match(1, 15), match(0x0a000000, prefix(8, 32)), match(2, 15)),
		row(3, 0, match(1, 15), match(0x0a0b0000, prefix(16, 32)), match(3, 15)),
		row(4, 0, match(1, 15), match(0x0a0b0c0d, prefix(32, 32)), match(2, 15)),
		row(5, 0, match(3, 15), match(0x80000000, prefix(1, 32)), match(2, 15)),
	})
	expectID(t, x, 2, 1, 0x0a0b0c0c, 2)
	expectID(t, x, 4, 1, 0x0a0b0c0d, 2)
	expectID(t, x, 3, 1, 0x0a0b0c0d, 3)
	expectID(t, x, 1, 1, 0x0b0b0c0d, 2)
	expectID(t, x, 0, 1, 0x0b0b0c0d, 3)
	expectID(t, x, 0, 2, 0x0a0b0c0d, 1)
	expectID(t, x, 5, 3, math.MaxUint32, 2)
	expectID(t, x, 0, 3, 0x7fffffff, 2)
	expectID(t, x, 4, 0xf1, 0x0a0b0c0d, 0x80000002)
	narrow := made(t, sample(key{lpm, 8}), []api.Row{row(1, 0, match(0xf0, 0xf0)), row(2, 0, match(0, 0)), row(3, 0, match(0xff, 0xff))})
	expectID(t, narrow, 1, 0xf1)
	expectID(t, narrow, 1, 0x1f1)
	expectID(t, narrow, 3, math.MaxUint32)
	expectID(t, narrow, 2, 0xffffff00)
}

// P24.3: in a ternary table the priority goes ahead of the prefix, and the prefix ahead of the ID
func TestFindTernaryWithPrefix(t *testing.T) {
	x := made(t, sample(key{lpm, 8}, key{ternary, 8}), []api.Row{
		row(1, 0, match(0xff, 0xff), match(0, 0)),
		row(2, 5, match(0, 0), match(1, 1)),
		row(3, 5, match(0xf0, 0xf0), match(0, 0)),
		row(4, 5, match(0xf0, 0xf0), match(2, 2)),
		row(5, 9, match(0, 0x80), match(0, 0)),
		row(6, 9, match(0, 0), match(0xff, 0xff)),
	})
	expectID(t, x, 3, 0xff, 3)
	expectID(t, x, 3, 0xff, 2)
	expectID(t, x, 2, 0xef, 1)
	expectID(t, x, 0, 0xef, 2)
	expectID(t, x, 5, 0x7f, 0xff)
	expectID(t, x, 6, 0x8f, 0xff)
	expectID(t, x, 6, 0x18f, 0x1ff)
}

// P24.3: a table without keys has one row at most, and the key that has no values finds it
func TestFindWithoutKeys(t *testing.T) {
	p := sample()
	expectID(t, made(t, p, nil), 0)
	x := made(t, p, []api.Row{row(7, 0)})
	expectID(t, x, 7)
	expectID(t, x, 0, 0)
	if r, found := x.Find([]uint32{}); r.ID != 7 || !found {
		t.Errorf("Find: %+v, %v", r, found)
	}
	expectError(t, p, 1, []api.Row{row(7, 0), row(8, 0)}, api.ErrDuplicate)
}

// P24.3: an index that New did not make has no rows
func TestIndexOfNothing(t *testing.T) {
	var none *lookup.Index
	for _, x := range []*lookup.Index{none, {}, new(lookup.Index)} {
		for n := range 8 {
			if r, found := x.Find(make([]uint32, n)); !sameRow(r, api.Row{}) || found || x.Len() != 0 {
				t.Errorf("Find: %+v, %v, Len %d", r, found, x.Len())
			}
		}
	}
}

// P24.3: an index keeps nothing that it was given, and answers memory of its own
func TestIndexIsItsOwn(t *testing.T) {
	for _, kind := range []int{exact, lpm, ternary} {
		p := sample(key{kind, 8}, key{exact, 8})
		l := []api.Row{row(1, 0, match(5, 255), match(2, 255)), row(2, 0, match(6, 255), match(2, 255))}
		l[0].Entry.Call = call(1, 9)
		x := made(t, p, l)
		l[0].Entry.Keys[0], l[0].Entry.Call.Args[0], l[0].ID = match(0, 0), 3, 77
		l[1] = api.Row{}
		p.Metadata[0].Width, p.Tables[1].Keys[0] = 1, api.TableKey{}
		p.Tables[1] = api.Table{}
		want := api.Row{ID: 1, Entry: api.Entry{Keys: []api.KeyMatch{match(5, 255), match(2, 255)}, Call: call(1, 9)}}
		for range 3 {
			r, found := x.Find([]uint32{5, 2})
			if !sameRow(r, want) || !found {
				t.Fatalf("Find: %+v, %v", r, found)
			}
			clear(r.Entry.Keys[:cap(r.Entry.Keys)])
			clear(r.Entry.Call.Args[:cap(r.Entry.Call.Args)])
		}
		expectID(t, x, 2, 6, 2)
		expectID(t, x, 0, 0, 2)
		if x.Len() != 2 {
			t.Errorf("Len %d", x.Len())
		}
	}
}

// P24.3: indexes don't share anything, and a search changes nothing
func TestSeveralIndexes(t *testing.T) {
	r := random(5)
	keys := []key{{ternary, 4}, {lpm, 4}}
	p := sample(keys...)
	l, m := randomRows(&r, keys, 30), randomRows(&r, keys, 30)
	x, y := made(t, p, l), made(t, p, m)
	for range 3 {
		for n := range uint64(256) {
			expectFind(t, x, p, l, valuesOf(keys, n))
			expectFind(t, y, p, m, valuesOf(keys, n))
		}
	}
}
