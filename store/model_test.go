package store_test

import (
	"slices"
	"testing"

	"patchbay/action"
	"patchbay/api"
	"patchbay/entry"
	"patchbay/lookup"
	"patchbay/store"
	"patchbay/table"
)

// model is a store as the promises tell of it, beside the store that must do the same.
type model struct {
	program api.Program
	config  api.Config
	store   *store.Store
	ids     []int // the greatest ID so far, per table
}

func (m *model) place(t, id int) int {
	if t < 0 || t >= len(m.program.Tables) {
		return -1
	}
	return slices.IndexFunc(m.config.Rows[t], func(r api.Row) bool { return r.ID == id })
}

func (m *model) callCode(t int, c api.ActionCall) api.Errno {
	if !table.Allows(m.program, t, c.Action) {
		return api.ErrNotFound
	}
	return action.CheckCall(m.program, c)
}

func (m *model) insert(t int, x api.Entry) (int, api.Errno) {
	if t < 0 || t >= len(m.program.Tables) {
		return 0, api.ErrNotFound
	}
	if e := entry.Check(m.program, t, x); e != api.OK {
		return 0, e
	}
	for _, r := range m.config.Rows[t] {
		if entry.SameKey(r.Entry, x) {
			return 0, api.ErrDuplicate
		}
	}
	id := m.config.NextID[t]
	if len(m.config.Rows[t]) == m.program.Tables[t].Size || id == 1<<30 {
		return 0, api.ErrFull
	}
	m.config.Rows[t] = append(m.config.Rows[t], copied(api.Row{ID: id, Entry: x}))
	m.config.NextID[t] = id + 1
	return id, api.OK
}

func (m *model) modify(t, id int, c api.ActionCall) api.Errno {
	i := m.place(t, id)
	if i < 0 {
		return api.ErrNotFound
	}
	if e := m.callCode(t, c); e != api.OK {
		return e
	}
	m.config.Rows[t][i].Entry.Call = copied(c)
	return api.OK
}

func (m *model) delete(t, id int) api.Errno {
	i := m.place(t, id)
	if i < 0 {
		return api.ErrNotFound
	}
	m.config.Rows[t] = slices.Delete(m.config.Rows[t], i, i+1)
	return api.OK
}

func (m *model) setDefault(t int, c api.ActionCall) api.Errno {
	if t < 0 || t >= len(m.program.Tables) {
		return api.ErrNotFound
	}
	if e := m.callCode(t, c); e != api.OK {
		return e
	}
	m.config.Defaults[t] = copied(c)
	return api.OK
}

func (m *model) clone() *model {
	return &model{m.program, copied(m.config), m.store.Clone(), slices.Clone(m.ids)}
}

func randomCall(r *random) api.ActionCall {
	if r.chance(8) {
		return pick(r, []api.ActionCall{call(-1), call(1), call(1, 256), call(2, 2, 0, 0), call(3), call(0, 0), call(4)})
	}
	return pick(r, []api.ActionCall{call(0), call(1, r.bits()%256), call(2, r.bits()%2, r.bits(), r.bits()%65536)})
}

// randomEntry answers an entry of one of few keys, so that equal ones meet.
func randomEntry(r *random, t int) api.Entry {
	x := api.Entry{Call: randomCall(r)}
	switch t {
	case exactly:
		x.Keys = []api.KeyMatch{match(r.bits()%3, 15), match(r.bits()%2, 7)}
	case byPrefix:
		x.Keys = []api.KeyMatch{match(5, 7), pick(r, []api.KeyMatch{match(0, 0), match(0x80, 0x80), match(0x80, 0xc0), match(0x80, 0xff), match(0x81, 0xff), match(0, 0xff)})}
	case byPattern:
		x.Keys = []api.KeyMatch{pick(r, []api.KeyMatch{match(0, 0), match(1, 1), match(0, 6)}), pick(r, []api.KeyMatch{match(0, 0), match(0x80, 0x80)})}
		x.Priority = pick(r, []int{0, 0, 1, 255})
	}
	if r.chance(12) && len(x.Keys) > 0 {
		x.Keys[0] = pick(r, []api.KeyMatch{match(1, 0), match(0, 255), match(2, 2)})
	}
	if r.chance(20) {
		x.Priority = pick(r, []int{-1, 256, 7})
	}
	return x
}

// step makes a random operation on the store and on its model, and answers its code.
func (m *model) step(t *testing.T, r *random) api.Errno {
	i := r.below(4)
	id := 1 + r.below(m.ids[i]+1)
	if len(m.config.Rows[i]) > 0 && r.chance(2) {
		id = pick(r, m.config.Rows[i]).ID
	}
	if r.chance(20) {
		i = pick(r, append([]int{4}, wrongNumbers...))
	}
	c := randomCall(r)
	var got, want api.Errno
	switch r.below(7) {
	case 0:
		got, want = m.store.Modify(i, id, c), m.modify(i, id, c)
	case 1, 2:
		got, want = m.store.Delete(i, id), m.delete(i, id)
	case 3:
		got, want = m.store.SetDefault(i, c), m.setDefault(i, c)
	default:
		x := randomEntry(r, i)
		gotID, e := m.store.Insert(i, x)
		wantID, code := m.insert(i, x)
		if gotID != wantID {
			t.Errorf("Insert of %+v in table %d answers %d, want %d", x, i, gotID, wantID)
		}
		if e == api.OK {
			if gotID <= m.ids[i] {
				t.Errorf("Insert answers %d behind %d", gotID, m.ids[i])
			}
			m.ids[i] = gotID
		}
		got, want = e, code
	}
	if got != want {
		t.Errorf("the operation answers %v, want %v", got, want)
	}
	return want
}

// expectModel expects that the store is as its model, and its configuration valid.
func (m *model) expectModel(t *testing.T, r *random) {
	t.Helper()
	expectConfig(t, "a step", m.store, m.config)
	c := m.store.Config()
	if e := store.Check(m.program, c); e != api.OK || !store.Equal(c, m.config) {
		t.Errorf("the configuration is %+v, want %+v: %v", c, m.config, e)
	}
	i, key := r.below(4), []uint32{pick(r, []uint32{5, r.bits() % 8}), pick(r, []uint32{0x80, 0x81, r.bits() % 256})}
	want, wantOK := lookup.Best(m.program, i, m.config.Rows[i], key)
	if x, ok := m.store.Lookup(i, key); !same(x, want) || ok != wantOK {
		t.Errorf("Lookup of %d in table %d: %+v, %v, want %+v, %v", key, i, x, ok, want, wantOK)
	}
}

// P25.4 to P25.11: random operations on stores and their clones, each of which must stay as its own model
func TestRandomOperations(t *testing.T) {
	met := map[api.Errno]int{}
	for seed := range 40 {
		r := random(seed)
		p := sample()
		first := &model{program: p, config: wantEmpty(p), store: made(t, p), ids: make([]int, 4)}
		if seed%2 == 1 {
			first = &model{program: p, config: copied(filled()), store: loaded(t, p, filled()), ids: []int{9, 6, noID - 2, 4}}
		}
		all := []*model{first}
		for range 150 {
			met[pick(&r, all).step(t, &r)]++
			for _, m := range all {
				m.expectModel(t, &r)
			}
			if r.chance(30) && len(all) < 4 {
				all = append(all, pick(&r, all).clone())
			}
			if r.chance(40) {
				m := pick(&r, all)
				m.store = loaded(t, p, m.store.Config())
			}
			if t.Failed() {
				return
			}
		}
	}
	for _, e := range []api.Errno{api.OK, api.ErrArg, api.ErrSyntax, api.ErrDuplicate, api.ErrNotFound, api.ErrRange, api.ErrKind, api.ErrFull} {
		if met[e] < 20 {
			t.Errorf("%v is met %d times", e, met[e])
		}
	}
}

// P25.11: what is done to a clone, or to what it was cloned from, isn't done to the other.
func TestClone(t *testing.T) {
	s := loaded(t, sample(), filled())
	c := s.Clone()
	expectConfig(t, "a clone", c, filled())
	do := func(x *store.Store, args uint32) {
		expectDelete(t, x, exactly, 2, api.OK)
		expectInsert(t, x, exactly, entryOf(0, call(1, args), match(8, 15), match(1, 7)), 10, api.OK)
		expectModify(t, x, exactly, 9, call(1, args), api.OK)
		expectDefault(t, x, exactly, call(1, args), api.OK)
		expectDelete(t, x, keyless, 4, api.OK)
	}
	do(c, 1)
	expectConfig(t, "what was cloned", s, filled())
	d := c.Clone()
	changed := c.Config()
	do(s, 2)
	expectConfig(t, "the clone", c, changed)
	expectConfig(t, "the clone's clone", d, changed)
	expectDelete(t, d, exactly, 10, api.OK)
	expectDelete(t, d, exactly, 9, api.OK)
	expectConfig(t, "the clone", c, changed)
	expectInsert(t, d, exactly, entryOf(0, call(3), match(8, 15), match(1, 7)), 0, api.ErrNotFound)
}
