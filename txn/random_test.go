package txn_test

import (
	"slices"
	"testing"

	"patchbay/api"
	"patchbay/store"
	"patchbay/txn"
)

func randomCall(r *random) api.ActionCall {
	if r.chance(40) {
		return pick(r, []api.ActionCall{call(-1), call(1), call(1, 256), call(2, 2, 0, 0), call(3), call(0, 0), call(4)})
	}
	return pick(r, []api.ActionCall{call(0), call(1, r.bits()%256)})
}

// randomEntry answers an entry of one of few keys, so that equal ones meet.
func randomEntry(r *random, t int) api.Entry {
	x := api.Entry{Call: randomCall(r)}
	switch t {
	case exactly:
		x.Keys = []api.KeyMatch{match(r.bits()%4, 15), match(r.bits()%4, 7)}
	case byPattern:
		x.Keys = []api.KeyMatch{pick(r, []api.KeyMatch{match(0, 0), match(1, 1), match(0, 6)}), pick(r, []api.KeyMatch{match(0, 0), match(0x80, 0x80)})}
		x.Priority = r.below(256)
	}
	if r.chance(60) && len(x.Keys) > 0 {
		x.Keys[0] = pick(r, []api.KeyMatch{match(1, 0), match(0, 255), match(2, 2)})
	}
	return x
}

// randomOp answers an operation that mostly succeeds on a store; what it deletes is mostly a last row.
func randomOp(r *random, s *store.Store) api.TableOp {
	t := pick(r, []int{exactly, byPattern, byPattern, keyless})
	rows := s.Config().Rows[t]
	x := api.TableOp{Kind: 1 + r.below(4), Table: t, ID: 1 + r.below(20), Entry: randomEntry(r, t), Call: randomCall(r)}
	if n := len(rows); n == 0 && !r.chance(30) {
		x.Kind = api.OpInsert
	} else if n > 0 && x.Kind == api.OpDelete && !r.chance(5) {
		x.ID = rows[n-1].ID
	} else if n > 0 && !r.chance(30) {
		x.ID = pick(r, rows).ID
	}
	if t != byPattern && x.Kind == api.OpInsert && len(rows) == sample().Tables[t].Size && !r.chance(5) {
		x.Kind, x.ID = api.OpDelete, rows[len(rows)-1].ID
	}
	if r.chance(150) {
		x.Kind = pick(r, append([]int{0, 5}, wrongNumbers...))
	}
	return x
}

// randomOps answers operations of which each is made for what those ahead of it leave.
func randomOps(r *random, c api.Config, n int) []api.TableOp {
	s, _ := store.Load(sample(), c)
	var l []api.TableOp
	for range n {
		x := randomOp(r, s)
		wantOne(s, x)
		l = append(l, x)
	}
	return l
}

// expectConcatenation expects that two transactions do the same as their concatenation.
func expectConcatenation(t *testing.T, p api.Program, c api.Config, a, b []api.TableOp) {
	t.Helper()
	both, ids, at, e := txn.Apply(p, c, slices.Concat(a, b))
	d, first, atA, eA := txn.Apply(p, c, a)
	if eA != api.OK {
		if e != eA || at != atA {
			t.Errorf("both fail at %d, %v, the first one at %d, %v", at, e, atA, eA)
		}
		return
	}
	d, second, atB, eB := txn.Apply(p, d, b)
	if e != eB || e != api.OK && at != len(a)+atB || e == api.OK && (!same(d, both) || !slices.Equal(ids, slices.Concat(first, second))) {
		t.Errorf("both: %+v, %v, %d, %v, one by one: %+v, %v, %v, %d, %v", both, ids, at, e, d, first, second, atB, eB)
	}
}

// P27.1 to P27.5: random transactions one after the other, each held against the promises' words
func TestRandomTransactions(t *testing.T) {
	p := sample()
	applied, inverted := map[api.Errno]int{}, map[api.Errno]int{}
	for seed := range 60 {
		r := random(seed)
		c := store.EmptyConfig(p)
		if seed%2 == 1 {
			c = filled()
		}
		for range 20 {
			l := randomOps(&r, c, r.below(pick(&r, []int{2, 6, 16, 65})))
			d, e := expectApply(t, "random", p, c, l)
			applied[e]++
			inverted[expectInverse(t, "random", p, c, l)]++
			expectConcatenation(t, p, c, l[:len(l)/3], l[len(l)/3:])
			if e == api.OK {
				c = d
			}
			if t.Failed() {
				return
			}
		}
	}
	for _, e := range []api.Errno{api.OK, api.ErrNotFound, api.ErrDuplicate, api.ErrFull, api.ErrKind, api.ErrArg} {
		if applied[e] < 5 {
			t.Errorf("%v is met %d times", e, applied[e])
		}
	}
	if inverted[api.OK] < 300 || inverted[api.ErrOrder] < 30 {
		t.Errorf("Inverse: %v", inverted)
	}
}
