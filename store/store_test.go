package store_test

import (
	"math"
	"reflect"
	"testing"

	"patchbay/api"
	"patchbay/lookup"
	"patchbay/store"
)

func entryOf(priority int, c api.ActionCall, l ...api.KeyMatch) api.Entry {
	return api.Entry{Keys: l, Priority: priority, Call: c}
}

// made answers an empty store of a valid program.
func made(t *testing.T, p api.Program) *store.Store {
	t.Helper()
	before := text(p)
	s, e := store.New(p)
	if s == nil || e != api.OK {
		t.Fatalf("New: %v, %v", s, e)
	}
	if text(p) != before {
		t.Error("New changes its argument")
	}
	expectConfig(t, "a new store", s, wantEmpty(p))
	return s
}

// expectInsert expects what Insert answers, and that an error changes nothing.
func expectInsert(t *testing.T, s *store.Store, i int, x api.Entry, id int, want api.Errno) {
	t.Helper()
	before, c := text(x), s.Config()
	if got, e := s.Insert(i, x); got != id || e != want {
		t.Errorf("Insert of %+v in table %d: %d, %v, want %d, %v", x, i, got, e, id, want)
	}
	if want == api.OK {
		c.Rows[i] = append(c.Rows[i], api.Row{ID: id, Entry: x})
		c.NextID[i] = id + 1
	}
	expectConfig(t, "Insert", s, c)
	if text(x) != before {
		t.Error("Insert changes its argument")
	}
}

// expectCode expects what an operation answers, and that an error changes nothing.
func expectCode(t *testing.T, what string, s *store.Store, want api.Errno, operation func() api.Errno) {
	t.Helper()
	c := s.Config()
	if e := operation(); e != want {
		t.Errorf("%s: %v, want %v", what, e, want)
	}
	if want != api.OK {
		expectConfig(t, what, s, c)
	}
}

func expectModify(t *testing.T, s *store.Store, i, id int, c api.ActionCall, want api.Errno) {
	t.Helper()
	before := text(c)
	expectCode(t, "Modify", s, want, func() api.Errno { return s.Modify(i, id, c) })
	if text(c) != before {
		t.Error("Modify changes its argument")
	}
}

func expectDelete(t *testing.T, s *store.Store, i, id int, want api.Errno) {
	t.Helper()
	expectCode(t, "Delete", s, want, func() api.Errno { return s.Delete(i, id) })
}

func expectDefault(t *testing.T, s *store.Store, i int, c api.ActionCall, want api.Errno) {
	t.Helper()
	before := text(c)
	expectCode(t, "SetDefault", s, want, func() api.Errno { return s.SetDefault(i, c) })
	if text(c) != before {
		t.Error("SetDefault changes its argument")
	}
}

// P25.4, P25.5: example 1
func TestExample(t *testing.T) {
	p := sample()
	p.Tables[exactly].Size = 1
	s := made(t, p)
	expectInsert(t, s, exactly, entryOf(0, call(0), match(3, 15), match(7, 7)), 1, api.OK)
	expectInsert(t, s, exactly, entryOf(0, call(0), match(4, 15), match(7, 7)), 0, api.ErrFull)
	expectInsert(t, s, exactly, entryOf(0, call(1, 5), match(3, 15), match(7, 7)), 0, api.ErrDuplicate)
	expectDelete(t, s, exactly, 1, api.OK)
	expectInsert(t, s, exactly, entryOf(0, call(0), match(3, 15), match(7, 7)), 2, api.OK)
}

// P25.4: the errors of Insert, in their order
func TestInsertErrors(t *testing.T) {
	s := made(t, sample())
	good := entryOf(0, call(0), match(3, 15), match(7, 7))
	for _, i := range append([]int{4, 5}, wrongNumbers...) {
		expectInsert(t, s, i, good, 0, api.ErrNotFound)
		expectInsert(t, s, i, api.Entry{Priority: -1}, 0, api.ErrNotFound)
	}
	for _, x := range []struct {
		table int
		entry api.Entry
		want  api.Errno
	}{
		{exactly, entryOf(0, call(0), match(3, 15)), api.ErrArg},
		{exactly, entryOf(0, call(0), match(3, 15), match(7, 7), match(0, 0)), api.ErrArg},
		{exactly, api.Entry{}, api.ErrArg},
		{exactly, entryOf(0, call(0), match(16, 15), match(7, 7)), api.ErrRange},
		{exactly, entryOf(0, call(0), match(3, 31), match(7, 7)), api.ErrRange},
		{exactly, entryOf(0, call(0), match(3, 1), match(7, 7)), api.ErrSyntax},
		{exactly, entryOf(0, call(0), match(3, 7), match(7, 7)), api.ErrKind},
		{exactly, entryOf(1, call(0), match(3, 15), match(7, 7)), api.ErrKind},
		{exactly, entryOf(256, call(0), match(3, 15), match(7, 7)), api.ErrRange},
		{exactly, entryOf(0, call(2, 1, 1, 1), match(3, 15), match(7, 7)), api.ErrNotFound},
		{exactly, entryOf(0, call(-1), match(3, 15), match(7, 7)), api.ErrNotFound},
		{exactly, entryOf(0, call(1), match(3, 15), match(7, 7)), api.ErrArg},
		{exactly, entryOf(0, call(1, 256), match(3, 15), match(7, 7)), api.ErrRange},
		{byPrefix, entryOf(0, call(0), match(3, 7), match(0x80, 0x81)), api.ErrKind},
		{byPattern, entryOf(-1, call(0), match(1, 1), match(0, 0)), api.ErrRange},
		{byPattern, entryOf(256, call(0), match(1, 1), match(0, 0)), api.ErrRange},
		{byPattern, entryOf(255, call(1, 1), match(1, 1), match(0, 0)), api.ErrNotFound},
		{keyless, entryOf(0, call(0), match(0, 0)), api.ErrArg},
	} {
		expectInsert(t, s, x.table, x.entry, 0, x.want)
	}
	expectInsert(t, s, exactly, good, 1, api.OK)
}

// P25.4: an invalid entry comes ahead of an equal key, and that ahead of a full table.
func TestInsertFull(t *testing.T) {
	p := sample()
	s := loaded(t, p, filled())
	present, fresh := entryOf(0, call(1, 3), match(3, 15), match(7, 7)), entryOf(0, call(0), match(5, 15), match(7, 7))
	expectInsert(t, s, exactly, present, 0, api.ErrDuplicate)
	expectInsert(t, s, exactly, fresh, 0, api.ErrFull)
	present.Call, fresh.Call = call(1, 256), call(2)
	expectInsert(t, s, exactly, present, 0, api.ErrRange)
	expectInsert(t, s, exactly, fresh, 0, api.ErrNotFound)
	expectInsert(t, s, keyless, entryOf(0, call(0)), 0, api.ErrDuplicate)
	expectDelete(t, s, keyless, 4, api.OK)
	expectInsert(t, s, keyless, entryOf(0, call(0)), 5, api.OK)
	// The table byPattern has room for three more rows, but an ID for one only.
	expectInsert(t, s, byPattern, entryOf(1, call(0), match(0, 0), match(0, 0)), noID-1, api.OK)
	expectInsert(t, s, byPattern, entryOf(2, call(0), match(0, 0), match(0, 0)), 0, api.ErrFull)
	expectInsert(t, s, byPattern, entryOf(1, call(0), match(0, 0), match(0, 0)), 0, api.ErrDuplicate)
	expectInsert(t, s, byPattern, entryOf(1, call(0), match(0, 0)), 0, api.ErrArg)
	for _, id := range []int{5, noID - 1, noID - 2} {
		expectDelete(t, s, byPattern, id, api.OK)
	}
	expectInsert(t, s, byPattern, entryOf(1, call(0), match(0, 0), match(0, 0)), 0, api.ErrFull)
	if c := s.Config(); c.NextID[byPattern] != noID || store.Check(p, c) != api.OK {
		t.Errorf("a table without IDs: %+v, %v", c, store.Check(p, c))
	}
}

// P25.4: a table of the greatest size, filled to the last row
func TestInsertMany(t *testing.T) {
	p := sample()
	p.Tables[byPattern].Size = api.MaxRows
	s := made(t, p)
	for i := range api.MaxRows {
		if id, e := s.Insert(byPattern, entryOf(i, call(0), match(1, 3), match(0, 0))); id != i+1 || e != api.OK {
			t.Fatalf("Insert number %d: %d, %v", i, id, e)
		}
	}
	expectInsert(t, s, byPattern, entryOf(0, call(0), match(1, 7), match(0, 0)), 0, api.ErrFull)
	expectInsert(t, s, byPattern, entryOf(7, call(0), match(1, 3), match(0, 0)), 0, api.ErrDuplicate)
	for id := 2; id <= api.MaxRows; id += 2 {
		expectDelete(t, s, byPattern, id, api.OK)
	}
	for id := 1; id <= api.MaxRows; id++ {
		want := api.OK
		if id%2 == 0 {
			want = api.ErrNotFound
		}
		expectModify(t, s, byPattern, id, call(2, 1, uint32(id), 3), want)
	}
	for _, x := range s.Config().Rows[byPattern] {
		if x.ID%2 == 0 || x.Entry.Priority != x.ID-1 || x.Entry.Call.Args[1] != uint32(x.ID) {
			t.Errorf("row %+v", x)
		}
	}
	expectInsert(t, s, byPattern, entryOf(1, call(0), match(1, 3), match(0, 0)), api.MaxRows+1, api.OK)
}

// P25.5: Modify replaces a row's call and nothing else.
func TestModify(t *testing.T) {
	s := loaded(t, sample(), filled())
	want := filled()
	for _, x := range []struct {
		table, id, place int
		call             api.ActionCall
	}{{exactly, 9, 2, call(0)}, {exactly, 9, 2, call(1, 0)}, {exactly, 1, 0, call(1, 255)}, {byPattern, noID - 2, 1, call(2, 0, 0, 0)}, {byPrefix, 3, 1, call(1, 9)}, {keyless, 4, 0, call(0)}} {
		want.Rows[x.table][x.place].Entry.Call = x.call
		expectModify(t, s, x.table, x.id, x.call, api.OK)
		expectConfig(t, "Modify", s, want)
	}
	for _, n := range append([]int{0, 3, 8, 10}, wrongNumbers...) {
		expectModify(t, s, exactly, n, call(0), api.ErrNotFound)
		expectModify(t, s, exactly, n, call(1, 256), api.ErrNotFound)
	}
	for _, n := range append([]int{4}, wrongNumbers...) {
		expectModify(t, s, n, 1, call(0), api.ErrNotFound)
		expectModify(t, s, n, 1, call(1), api.ErrNotFound)
		expectModify(t, s, exactly, 1, call(n), api.ErrNotFound)
	}
	expectModify(t, s, exactly, 1, call(2, 0, 0, 0), api.ErrNotFound)
	expectModify(t, s, exactly, 1, call(1), api.ErrArg)
	expectModify(t, s, exactly, 1, call(1, 1, 1), api.ErrArg)
	expectModify(t, s, exactly, 1, call(0, 1), api.ErrArg)
	expectModify(t, s, exactly, 1, call(1, 256), api.ErrRange)
	expectModify(t, s, byPattern, 5, call(2, 2, 0, 0), api.ErrRange)
	expectModify(t, s, byPattern, 5, call(2, 1, 0, 65536), api.ErrRange)
	expectConfig(t, "Modify", s, want)
}

// P25.5: Delete removes a row; those behind it keep their IDs and their order, and NextID stays.
func TestDelete(t *testing.T) {
	for _, order := range [][]int{{2, 3, 4, 6}, {6, 4, 3, 2}, {3, 2, 6, 4}, {4, 6, 2, 3}, {3, 4, 2, 6}} {
		s, want := loaded(t, sample(), filled()), filled()
		for _, id := range order {
			for _, n := range append([]int{0, 1, 5, 7, noID}, wrongNumbers...) {
				expectDelete(t, s, byPrefix, n, api.ErrNotFound)
			}
			for _, n := range append([]int{4}, wrongNumbers...) {
				expectDelete(t, s, n, id, api.ErrNotFound)
			}
			expectDelete(t, s, byPrefix, id, api.OK)
			expectDelete(t, s, byPrefix, id, api.ErrNotFound)
			expectModify(t, s, byPrefix, id, call(0), api.ErrNotFound)
			var rest []api.Row
			for _, x := range want.Rows[byPrefix] {
				if x.ID != id {
					x.Entry.Call = call(1, uint32(x.ID))
					expectModify(t, s, byPrefix, x.ID, x.Entry.Call, api.OK)
					rest = append(rest, x)
				}
			}
			want.Rows[byPrefix] = rest
			expectConfig(t, "Delete", s, want)
		}
		expectInsert(t, s, byPrefix, filled().Rows[byPrefix][0].Entry, 7, api.OK)
	}
}

// P25.5: SetDefault replaces a table's default action and nothing else.
func TestSetDefault(t *testing.T) {
	s, want := loaded(t, sample(), filled()), filled()
	for i, l := range [][]api.ActionCall{{call(0), call(1, 0), call(1, 255)}, {call(1, 7), call(2, 1, math.MaxUint32, 65535), call(0)}, {call(2, 0, 0, 0)}, {call(0)}} {
		for _, c := range l {
			want.Defaults[i] = c
			expectDefault(t, s, i, c, api.OK)
			expectConfig(t, "SetDefault", s, want)
		}
	}
	for _, n := range append([]int{4}, wrongNumbers...) {
		expectDefault(t, s, n, call(0), api.ErrNotFound)
		expectDefault(t, s, n, call(1), api.ErrNotFound)
		expectDefault(t, s, exactly, call(n), api.ErrNotFound)
	}
	expectDefault(t, s, exactly, call(3), api.ErrNotFound)
	expectDefault(t, s, keyless, call(1, 256), api.ErrNotFound)
	expectDefault(t, s, exactly, call(1), api.ErrArg)
	expectDefault(t, s, exactly, call(0, 0), api.ErrArg)
	expectDefault(t, s, exactly, call(1, 256), api.ErrRange)
	expectDefault(t, s, byPrefix, call(2, 1, 1, 65536), api.ErrRange)
	expectConfig(t, "SetDefault", s, want)
}

// P25.6: Lookup is lookup.Best for the rows of the table.
func TestLookup(t *testing.T) {
	p := sample()
	s := loaded(t, p, filled())
	keys := [][]uint32{nil, {}, {0}, {3, 7}, {0, 7}, {3, 0}, {3, 1}, {5, 0}, {5, 0x80}, {5, 0x81}, {5, 0xc0}, {4, 0x81}, {4, 0x80}, {1, 0}, {5, 9}, {9, 255}, {19, 15}, {3, 7, 0}, {math.MaxUint32, math.MaxUint32}}
	found := 0
	for range 3 {
		for i := range p.Tables {
			for _, k := range keys {
				before := text(k)
				want, wantOK := lookup.Best(p, i, s.Config().Rows[i], k)
				if x, ok := s.Lookup(i, k); !same(x, want) || ok != wantOK {
					t.Errorf("Lookup of %d in table %d: %+v, %v, want %+v, %v", k, i, x, ok, want, wantOK)
				} else if ok {
					found++
				}
				if text(k) != before {
					t.Error("Lookup changes its argument")
				}
			}
		}
		s.Delete(byPrefix, 3)
		s.Delete(byPattern, 5)
		s.Modify(exactly, 9, call(1, uint32(found)))
	}
	if found < 20 {
		t.Errorf("%d rows are found", found)
	}
	if x, ok := s.Lookup(byPattern, []uint32{5, 9}); !ok || x.ID != noID-2 {
		t.Errorf("Lookup: %+v, %v", x, ok)
	}
	for _, i := range append([]int{4}, wrongNumbers...) {
		for _, k := range keys {
			if x, ok := s.Lookup(i, k); !same(x, api.Row{}) || ok {
				t.Errorf("Lookup in table %d: %+v, %v", i, x, ok)
			}
		}
		if n := s.Len(i); n != 0 {
			t.Errorf("Len of table %d: %d", i, n)
		}
	}
}

// P25.4 to P25.6: stores that no constructor made
func TestNoStore(t *testing.T) {
	for _, s := range []*store.Store{nil, {}, new(store.Store)} {
		for _, i := range append([]int{0, 1, 4}, wrongNumbers...) {
			if id, e := s.Insert(i, entryOf(0, call(0))); id != 0 || e != api.ErrNil {
				t.Errorf("Insert: %d, %v", id, e)
			}
			if a, b, c := s.Modify(i, i, call(i)), s.Delete(i, 1), s.SetDefault(i, call(i)); a != api.ErrNil || b != api.ErrNil || c != api.ErrNil {
				t.Errorf("Modify, Delete, SetDefault: %v, %v, %v", a, b, c)
			}
			if x, ok := s.Lookup(i, []uint32{1}); !same(x, api.Row{}) || ok {
				t.Errorf("Lookup: %+v, %v", x, ok)
			}
			if n := s.Len(i); n != 0 {
				t.Errorf("Len: %d", n)
			}
		}
		if c := s.Config(); !same(c, api.Config{}) {
			t.Errorf("Config: %+v", c)
		}
		if c := s.Clone(); c != nil {
			t.Errorf("Clone: %v", c)
		}
	}
}

// P25.3: a store of a program without tables
func TestNoTables(t *testing.T) {
	p := parsed("program p metadata { in: 8 out: 8 drop: 1 } state s { default accept } control { } deparser")
	for _, s := range []*store.Store{made(t, p), loaded(t, p, api.Config{}), made(t, p).Clone()} {
		expectInsert(t, s, 0, api.Entry{}, 0, api.ErrNotFound)
		expectDelete(t, s, 0, 0, api.ErrNotFound)
		expectModify(t, s, 0, 1, call(0), api.ErrNotFound)
		expectDefault(t, s, 0, call(0), api.ErrNotFound)
		expectConfig(t, "no tables", s, api.Config{})
	}
}

// P25.3 to P25.6: a store keeps nothing that it is given, and hands out nothing that it keeps.
func TestMemory(t *testing.T) {
	p, c := copied(sample()), copied(filled())
	s := loaded(t, p, c)
	n := made(t, p)
	spoil(reflect.ValueOf(p))
	spoil(reflect.ValueOf(c))
	expectConfig(t, "what was loaded is spoilt", s, filled())
	expectConfig(t, "the program is spoilt", n, wantEmpty(sample()))

	x := copied(filled().Rows[exactly][0].Entry)
	expectInsert(t, n, exactly, x, 1, api.OK)
	d, m := copied(call(1, 3)), copied(call(1, 4))
	expectDefault(t, n, exactly, d, api.OK)
	expectModify(t, n, exactly, 1, m, api.OK)
	after := n.Config()
	for _, l := range []any{x, d, m} {
		spoil(reflect.ValueOf(l))
	}
	expectConfig(t, "the arguments are spoilt", n, after)
	if after.Rows[exactly][0].Entry.Call.Args[0] != 4 || after.Defaults[exactly].Args[0] != 3 {
		t.Errorf("the configuration is %+v", after)
	}

	one, other := s.Config(), s.Config()
	r, _ := s.Lookup(exactly, []uint32{3, 7})
	q, _ := s.Lookup(exactly, []uint32{3, 7})
	expectApart(t, "Config", one, other, r, q)
	expectApart(t, "Lookup", r, q)
	for _, l := range []any{one, other, r, q} {
		spoil(reflect.ValueOf(l))
	}
	expectConfig(t, "the results are spoilt", s, filled())
	expectInsert(t, s, exactly, x, 0, api.ErrKind) // the spoilt entry
	expectModify(t, s, exactly, 9, call(1, 255), api.OK)
}

// P25.4, P25.5: what lies behind the length of an argument's lists isn't read.
func TestBehindLength(t *testing.T) {
	s := made(t, sample())
	keys, args := []api.KeyMatch{match(3, 15), match(7, 7), match(9, 1)}, []uint32{5, 999}
	expectInsert(t, s, exactly, api.Entry{Keys: keys[:2], Call: api.ActionCall{Action: 1, Args: args[:1]}}, 1, api.OK)
	expectDefault(t, s, exactly, api.ActionCall{Action: 1, Args: args[:1]}, api.OK)
	expectModify(t, s, exactly, 1, api.ActionCall{Action: 1, Args: args[:1]}, api.OK)
	expectModify(t, s, exactly, 1, api.ActionCall{Action: 0, Args: args[:0]}, api.OK)
	c := filled()
	c.Rows[exactly] = append(c.Rows[exactly], api.Row{})[:3]
	c.NextID, c.Registers = append(c.NextID, 9)[:4], append(c.Registers, nil)[:3]
	loaded(t, sample(), c)
}
