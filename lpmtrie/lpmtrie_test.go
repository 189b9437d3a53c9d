package lpmtrie_test

import (
	"cmp"
	"fmt"
	"iter"
	"maps"
	"math"
	"math/bits"
	"slices"
	"strconv"
	"strings"
	"testing"

	"patchbay/api"
	"patchbay/lpmtrie"
)

// random is a row of numbers that look like no rule, the same ones for the same seed.
type random uint64

func (r *random) bits() uint32 {
	*r = *r*6364136223846793005 + 1442695040888963407
	return uint32(*r >> 32)
}

func (r *random) below(n int) int { return int(r.bits()>>4) % n }

// greatest answers the greatest number of w bits.
func greatest(w int) uint32 { return uint32(1<<w - 1) }

func invalidWidths() []int {
	return []int{math.MinInt, -33, -32, -1, 0, 33, 34, 64, 1 << 32, 1<<32 + 8, math.MaxInt}
}

func invalidLengths(w int) []int {
	return []int{math.MinInt, -w - 1, -w, -2, -1, w + 1, w + 2, 64 + w, 1<<32 + 1, math.MaxInt}
}

func newTrie(t *testing.T, w int) *lpmtrie.Trie {
	t.Helper()
	x, e := lpmtrie.New(w)
	if x == nil || e != api.OK {
		t.Fatalf("New(%d) = %v, %v", w, x, e)
	}
	return x
}

func digits(v uint32, w int) string { return fmt.Sprintf("%0*b", w, v) }

func number(t *testing.T, s string) uint32 {
	t.Helper()
	v, err := strconv.ParseUint(s, 2, 32)
	if err != nil {
		t.Fatal(err)
	}
	return uint32(v)
}

// pair is what All yields.
type pair struct {
	match api.KeyMatch
	value int
}

func collected(all iter.Seq2[api.KeyMatch, int]) []pair {
	var l []pair
	for match, value := range all {
		l = append(l, pair{match, value})
	}
	return l
}

func contents(x *lpmtrie.Trie) []pair { return collected(x.All()) }

// model tells what a trie for numbers of w bits holds: the values by the digits of the prefixes.
type model struct {
	w      int
	values map[string]int
}

func (m model) all(t *testing.T) []pair {
	t.Helper()
	var l []pair
	order := func(a, b string) int {
		return cmp.Or(cmp.Compare(a+strings.Repeat("0", m.w-len(a)), b+strings.Repeat("0", m.w-len(b))), cmp.Compare(len(a), len(b)))
	}
	for _, s := range slices.SortedFunc(maps.Keys(m.values), order) {
		zeros := strings.Repeat("0", m.w-len(s))
		l = append(l, pair{api.KeyMatch{Value: number(t, s+zeros), Mask: number(t, strings.Repeat("1", len(s))+zeros)}, m.values[s]})
	}
	return l
}

func (m model) lookup(key uint32) (value, n int, ok bool) {
	s := digits(key, m.w)
	for n := m.w; n >= 0; n-- {
		if value, ok := m.values[s[:n]]; ok {
			return value, n, true
		}
	}
	return 0, 0, false
}

func (m model) expectLookup(t *testing.T, x *lpmtrie.Trie, key uint32) {
	t.Helper()
	value, n, ok := x.Lookup(key)
	if wantValue, wantN, wantOk := m.lookup(key); value != wantValue || n != wantN || ok != wantOk {
		t.Fatalf("width %d, %v: Lookup(%#x) = %d, %d, %v, want %d, %d, %v", m.w, m.values, key, value, n, ok, wantValue, wantN, wantOk)
	}
}

func (m model) expectGet(t *testing.T, x *lpmtrie.Trie, v uint32, n int) {
	t.Helper()
	want, wantOk := m.values[digits(v, m.w)[:n]]
	if value, ok := x.Get(v, n); value != want || ok != wantOk {
		t.Fatalf("width %d, %v: Get(%#x, %d) = %d, %v, want %d, %v", m.w, m.values, v, n, value, ok, want, wantOk)
	}
}

// expect holds all that x answers of its contents against m, with the given keys.
func (m model) expect(t *testing.T, x *lpmtrie.Trie, keys ...uint32) {
	t.Helper()
	if n := x.Len(); n != len(m.values) {
		t.Fatalf("width %d, %v: Len() = %d", m.w, m.values, n)
	}
	if l, want := contents(x), m.all(t); !slices.Equal(l, want) {
		t.Fatalf("width %d: All yields %v, want %v", m.w, l, want)
	}
	for _, key := range keys {
		m.expectLookup(t, x, key)
		for n := 0; n <= m.w; n++ {
			m.expectGet(t, x, key, n)
		}
	}
}

func (m model) insert(t *testing.T, x *lpmtrie.Trie, v uint32, n, value int) {
	t.Helper()
	s := digits(v, m.w)[:n]
	want := api.OK
	if _, ok := m.values[s]; ok {
		want = api.ErrDuplicate
	} else {
		m.values[s] = value
	}
	if e := x.Insert(v, n, value); e != want {
		t.Fatalf("width %d: Insert(%#x, %d, %d) = %v, want %v", m.w, v, n, value, e, want)
	}
}

func (m model) delete(t *testing.T, x *lpmtrie.Trie, v uint32, n int) {
	t.Helper()
	s := digits(v, m.w)[:n]
	_, want := m.values[s]
	delete(m.values, s)
	if ok := x.Delete(v, n); ok != want {
		t.Fatalf("width %d: Delete(%#x, %d) = %v, want %v", m.w, v, n, ok, want)
	}
}

type written struct {
	v uint32
	n int
}

// prefixes answers every prefix of w-bit numbers, by each of the numbers that stand for it.
func prefixes(w int) []written {
	var l []written
	for _, v := range numbers(w) {
		for n := 0; n <= w; n++ {
			l = append(l, written{v, n})
		}
	}
	return l
}

func numbers(w int) []uint32 {
	var l []uint32
	for v := range uint32(1) << w {
		l = append(l, v)
	}
	return l
}

// P9.1
func TestNew(t *testing.T) {
	for w := 1; w <= 32; w++ {
		x := newTrie(t, w)
		model{w: w}.expect(t, x, 0, 1, greatest(w))
		if x.Delete(0, 0) {
			t.Errorf("width %d: Delete in an empty trie", w)
		}
	}
	for _, w := range invalidWidths() {
		if x, e := lpmtrie.New(w); x != nil || e != api.ErrWidth {
			t.Errorf("New(%d) = %v, %v", w, x, e)
		}
	}
}

// P9.1: each is a trie of its own.
func TestNewAnother(t *testing.T) {
	x, y := newTrie(t, 8), newTrie(t, 8)
	x.Insert(0, 0, 1)
	if y.Len() != 0 {
		t.Error("two tries share their contents")
	}
	if _, ok := y.Get(0, 0); ok {
		t.Error("two tries share their contents")
	}
}

// P9.2 to P9.4: every set of prefixes of small widths.
func TestAllSets(t *testing.T) {
	for w := 1; w <= 3; w++ {
		var all []string
		for n := 0; n <= w; n++ {
			for v := range uint32(1) << n {
				all = append(all, digits(v, w)[w-n:])
			}
		}
		keys := numbers(w)
		for set := range 1 << len(all) {
			x, m := newTrie(t, w), model{w, map[string]int{}}
			for i, s := range all {
				if set>>i%2 == 1 {
					m.insert(t, x, number(t, s+strings.Repeat("0", w-len(s))), len(s), i-5)
				}
			}
			m.expect(t, x, keys...)
		}
	}
}

// P9.2: every two prefixes of small widths, by each of their numbers.
func TestInsert(t *testing.T) {
	for w := 1; w <= 3; w++ {
		keys := numbers(w)
		for _, a := range prefixes(w) {
			for _, b := range prefixes(w) {
				x, m := newTrie(t, w), model{w, map[string]int{}}
				m.insert(t, x, a.v, a.n, -7)
				m.insert(t, x, b.v, b.n, 9)
				m.expect(t, x, keys...)
			}
		}
	}
}

// P9.2: a prefix that is stored keeps its value, however its number is written.
func TestInsertAgain(t *testing.T) {
	for w := 1; w <= 32; w++ {
		for n := 0; n <= w; n++ {
			x := newTrie(t, w)
			behind := greatest(w) >> n
			if n == w {
				behind = 0
			}
			first := greatest(w) &^ behind & 0xa5a5a5a5
			if e := x.Insert(first, n, 4); e != api.OK {
				t.Fatalf("width %d: Insert(%#x, %d) = %v", w, first, n, e)
			}
			for _, v := range []uint32{first, first | behind, first | behind&0x33333333} {
				if e := x.Insert(v, n, 5); e != api.ErrDuplicate {
					t.Errorf("width %d: Insert(%#x, %d) = %v", w, v, n, e)
				}
				if value, ok := x.Get(v, n); value != 4 || !ok {
					t.Errorf("width %d: Get(%#x, %d) = %d, %v", w, v, n, value, ok)
				}
			}
			if x.Len() != 1 {
				t.Errorf("width %d, length %d: Len() = %d", w, n, x.Len())
			}
		}
	}
}

// P9.2: deleted by another of its numbers than it was inserted by, and inserted again with another value.
func TestDelete(t *testing.T) {
	for w := 1; w <= 32; w++ {
		for n := 0; n <= w; n++ {
			x, m := newTrie(t, w), model{w, map[string]int{}}
			m.insert(t, x, 0, n, 1)
			other := greatest(w) >> n
			if n == w {
				other = 0
			}
			m.delete(t, x, other, n)
			m.expect(t, x, 0, other)
			m.delete(t, x, other, n)
			m.insert(t, x, other, n, 2)
			m.expect(t, x, 0, other, greatest(w))
		}
	}
}

// P9.2: of three prefixes each one is deleted, whether it contains the others, parts from them or is alone.
func TestDeleteOfThree(t *testing.T) {
	for w := 1; w <= 2; w++ {
		for _, a := range prefixes(w) {
			for _, b := range prefixes(w) {
				for _, c := range prefixes(w) {
					deleteOfThree(t, w, a, b, c)
				}
			}
		}
	}
}

func deleteOfThree(t *testing.T, w int, a, b, c written) {
	t.Helper()
	x, m := newTrie(t, w), model{w, map[string]int{}}
	m.insert(t, x, a.v, a.n, 1)
	m.insert(t, x, b.v, b.n, 2)
	m.insert(t, x, c.v, c.n, 3)
	m.delete(t, x, a.v, a.n)
	m.expect(t, x, numbers(w)...)
	m.delete(t, x, c.v, c.n)
	m.expect(t, x, numbers(w)...)
	m.insert(t, x, a.v, a.n, 4)
	m.expect(t, x, numbers(w)...)
}

// filled answers a trie of that width with some prefixes, and the model of it.
func filled(t *testing.T, w, n int, seed random) (*lpmtrie.Trie, model) {
	x, m := newTrie(t, w), model{w, map[string]int{}}
	for range n {
		m.insert(t, x, seed.bits()&greatest(w), seed.below(w+1), int(int32(seed.bits())))
	}
	return x, m
}

// P9.2: what is no prefix is refused, and changes nothing.
func TestNoPrefix(t *testing.T) {
	for w := 1; w <= 32; w++ {
		x, m := filled(t, w, 20, random(w))
		refuse := func(v uint32, n int) {
			t.Helper()
			if e := x.Insert(v, n, 1); e != api.ErrRange {
				t.Errorf("width %d: Insert(%#x, %d) = %v", w, v, n, e)
			}
			if value, ok := x.Get(v, n); value != 0 || ok {
				t.Errorf("width %d: Get(%#x, %d) = %d, %v", w, v, n, value, ok)
			}
			if x.Delete(v, n) {
				t.Errorf("width %d: Delete(%#x, %d) = true", w, v, n)
			}
		}
		for _, n := range invalidLengths(w) {
			for _, v := range []uint32{0, 1, greatest(w), math.MaxUint32} {
				refuse(v, n)
			}
		}
		for n := 0; n <= w && w < 32; n++ {
			for _, v := range []uint32{1 << w, 1<<w + 1, greatest(w+1) &^ 1, 1 << 31, math.MaxUint32} {
				refuse(v, n)
			}
		}
		m.expect(t, x, 0, greatest(w))
	}
}

// P9.2: any int is a value.
func TestValues(t *testing.T) {
	x, m := newTrie(t, 32), model{32, map[string]int{}}
	for n, value := range []int{0, math.MinInt, math.MaxInt, -1, 1 << 32} {
		m.insert(t, x, math.MaxUint32, n, value)
	}
	for _, value := range []int{0, 1} { // a 0 that is stored is no prefix that is missing
		m.insert(t, x, 0, 32, value)
	}
	m.expect(t, x, math.MaxUint32, 0)
}

// P9.3: keys at the width and above have no prefix, not even the empty one.
func TestLookupOfWideKey(t *testing.T) {
	for w := 1; w < 32; w++ {
		x := newTrie(t, w)
		for n := 0; n <= w; n++ {
			x.Insert(0, n, 7)
			x.Insert(greatest(w), n, 7)
		}
		for _, key := range []uint32{1 << w, 1<<w + 1, greatest(w + 1), 1 << 31, 1<<31 + 1, math.MaxUint32} {
			if value, n, ok := x.Lookup(key); value != 0 || n != 0 || ok {
				t.Errorf("width %d: Lookup(%#x) = %d, %d, %v", w, key, value, n, ok)
			}
		}
		if value, n, ok := x.Lookup(greatest(w)); value != 7 || n != w || !ok {
			t.Errorf("width %d: Lookup(%#x) = %d, %d, %v", w, greatest(w), value, n, ok)
		}
	}
}

// P9.3: prefixes that contain each other, in both orders of insertion, and found one by one as they are deleted.
func TestNested(t *testing.T) {
	for w := 1; w <= 32; w++ {
		for _, upward := range []bool{true, false} {
			x, m := newTrie(t, w), model{w, map[string]int{}}
			v := 0x96c3a5f0 & greatest(w)
			for i := 0; i <= w; i++ {
				n := i
				if !upward {
					n = w - i
				}
				m.insert(t, x, v, n, 100+n)
			}
			var keys []uint32
			for i := range w {
				keys = append(keys, v^1<<i)
			}
			m.expect(t, x, append(keys, v)...)
			for n := w; n >= 0; n-- {
				m.expectLookup(t, x, v)
				m.delete(t, x, v, n)
			}
			m.expect(t, x, v)
		}
	}
}

// P9.3: where two keys part, bit by bit.
func TestNeighbours(t *testing.T) {
	for w := 1; w <= 32; w++ {
		x, m := newTrie(t, w), model{w, map[string]int{}}
		v := 0x6d2b79f5 & greatest(w)
		keys := []uint32{v}
		m.insert(t, x, v, w, -1)
		for i := range w {
			keys = append(keys, v^1<<i)
			m.insert(t, x, v^1<<i, w, i)
		}
		m.expect(t, x, keys...)
		for i := range w {
			m.delete(t, x, v^1<<i, w)
			m.expect(t, x, keys...)
		}
	}
}

// P9.2 to P9.4: all calls in turn, on few prefixes and on many.
func TestTurns(t *testing.T) {
	for w := 1; w <= 32; w++ {
		r := random(1000 + w)
		x, m := newTrie(t, w), model{w, map[string]int{}}
		var used []uint32
		for range 300 {
			v := r.bits() & greatest(w)
			if len(used) > 0 && r.below(3) > 0 {
				v = used[r.below(len(used))] ^ (r.bits() & r.bits() & r.bits() & greatest(w))
			}
			used = append(used, v)
			n := r.below(w + 1)
			if r.below(5) < 3 {
				m.insert(t, x, v, n, int(int32(r.bits())))
			} else {
				m.delete(t, x, v, n)
			}
			m.expect(t, x, v, used[r.below(len(used))], r.bits()&greatest(w))
		}
		for _, v := range used {
			for n := 0; n <= w; n++ {
				m.delete(t, x, v, n)
			}
		}
		m.expect(t, x, used...)
		if x.Len() != 0 {
			t.Errorf("width %d: %d prefixes are left", w, x.Len())
		}
	}
}

// P9.4: an iteration is left behind each of its prefixes, and the same iterator begins anew.
func TestLeaveEarly(t *testing.T) {
	for _, w := range []int{1, 2, 8, 31, 32} {
		x, m := filled(t, w, 40, random(50+w))
		want, all := m.all(t), x.All()
		for stop := 1; stop <= len(want); stop++ {
			var l []pair
			for match, value := range all {
				l = append(l, pair{match, value})
				if len(l) == stop {
					break
				}
			}
			if !slices.Equal(l, want[:stop]) {
				t.Errorf("width %d: the first %d are %v, want %v", w, stop, l, want[:stop])
			}
		}
		if l := collected(all); !slices.Equal(l, want) {
			t.Errorf("width %d: All yields %v, want %v", w, l, want)
		}
	}
}

// P9.4: iterations within iterations do not meet.
func TestIterateWithinIteration(t *testing.T) {
	x, m := filled(t, 16, 12, 3)
	want, all := m.all(t), x.All()
	i := 0
	for match, value := range all {
		if (pair{match, value}) != want[i] || !slices.Equal(collected(all), want) {
			t.Fatalf("prefix %d is %v, %d", i, match, value)
		}
		i++
	}
}

// P9.4 and general rule 6: an iterator yields what is there when it is ranged over.
func TestIteratorOfEarlierCall(t *testing.T) {
	x, m := newTrie(t, 8), model{8, map[string]int{}}
	all := x.All()
	if l := collected(all); len(l) != 0 {
		t.Errorf("an empty trie yields %v", l)
	}
	m.insert(t, x, 0xa0, 4, 1)
	m.insert(t, x, 0xa8, 5, 2)
	if l := collected(all); !slices.Equal(l, m.all(t)) {
		t.Errorf("All yields %v", l)
	}
	m.delete(t, x, 0xa0, 4)
	if l := collected(all); !slices.Equal(l, m.all(t)) {
		t.Errorf("All yields %v", l)
	}
	m.delete(t, x, 0xa8, 5)
	if l := collected(all); len(l) != 0 {
		t.Errorf("an emptied trie yields %v", l)
	}
}

// P9.4: the length of a prefix is not lost where equal numbers follow each other.
func TestOrderOfEqualValues(t *testing.T) {
	for w := 1; w <= 32; w++ {
		x := newTrie(t, w)
		for i := 0; i <= w; i++ {
			n := i * 5 % (w + 1)
			x.Insert(0, n, n)
		}
		for n := w; n >= 0; n-- {
			x.Insert(0, n, n)
		}
		n := 0
		for m, value := range x.All() {
			if want := number(t, strings.Repeat("1", n)+strings.Repeat("0", w-n)); m != (api.KeyMatch{Mask: want}) || value != n {
				t.Errorf("width %d: prefix %d is %v with %d", w, n, m, value)
			}
			n++
		}
		if n != w+1 {
			t.Errorf("width %d: %d prefixes", w, n)
		}
	}
}

// P9.5
func TestNil(t *testing.T) {
	none := map[string]*lpmtrie.Trie{"a nil trie": nil, "a zero trie": {}, "a new one": new(lpmtrie.Trie)}
	for name, x := range none {
		for _, n := range []int{-1, 0, 8, 33} {
			for _, v := range []uint32{0, 1, math.MaxUint32} {
				if e := x.Insert(v, n, 1); e != api.ErrNil {
					t.Errorf("%s: Insert(%#x, %d) = %v", name, v, n, e)
				}
				if x.Delete(v, n) {
					t.Errorf("%s: Delete(%#x, %d) = true", name, v, n)
				}
				if value, ok := x.Get(v, n); value != 0 || ok {
					t.Errorf("%s: Get(%#x, %d) = %d, %v", name, v, n, value, ok)
				}
				if value, n, ok := x.Lookup(v); value != 0 || n != 0 || ok {
					t.Errorf("%s: Lookup(%#x) = %d, %d, %v", name, v, value, n, ok)
				}
			}
		}
		if n := x.Len(); n != 0 {
			t.Errorf("%s: Len() = %d", name, n)
		}
		for range 2 {
			for m := range x.All() {
				t.Errorf("%s yields %v", name, m)
			}
		}
	}
}

// P9.6: Lookup against a linear search through All.
func TestLinearSearch(t *testing.T) {
	for w := 1; w <= 32; w++ {
		r := random(w)
		x, m := filled(t, w, 60, r)
		var keys []uint32
		for match := range x.All() {
			keys = append(keys, match.Value, match.Value|^match.Mask&greatest(w), match.Value^match.Mask&-match.Mask)
		}
		for range 50 {
			keys = append(keys, r.bits()&greatest(w))
		}
		for _, key := range keys {
			best, value, found := -1, 0, false
			for match, v := range x.All() {
				n := length(match)
				if key&match.Mask == match.Value && n > best {
					best, value, found = n, v, true
				}
			}
			if v, n, ok := x.Lookup(key); v != value || n != max(best, 0) || ok != found {
				t.Errorf("width %d: Lookup(%#x) = %d, %d, %v, want %d, %d, %v", w, key, v, n, ok, value, best, found)
			}
		}
		m.expect(t, x)
	}
}

// shuffled answers the elements of l in another order.
func (r *random) shuffled(l []pair) []pair {
	l = slices.Clone(l)
	for i := range l {
		j := r.below(i + 1)
		l[i], l[j] = l[j], l[i]
	}
	return l
}

func length(m api.KeyMatch) int { return bits.OnesCount32(m.Mask) }

// P9.6: the same set, in other orders, and after prefixes that do not stay or that stay with another value.
func TestOrderOfCalls(t *testing.T) {
	for _, w := range []int{1, 3, 8, 31, 32} {
		r := random(7 * w)
		x, m := filled(t, w, 30, r)
		want := contents(x)
		for range 20 {
			y, n := newTrie(t, w), model{w, map[string]int{}}
			for _, p := range want {
				n.insert(t, y, p.match.Value^r.bits()&r.bits()&greatest(w), r.below(w+1), r.below(9))
			}
			passing := contents(y)
			for _, p := range r.shuffled(want) {
				n.delete(t, y, p.match.Value, length(p.match))
				n.insert(t, y, p.match.Value, length(p.match), p.value)
			}
			for _, p := range r.shuffled(passing) {
				if _, stays := m.values[digits(p.match.Value, w)[:length(p.match)]]; !stays {
					n.delete(t, y, p.match.Value, length(p.match))
				}
			}
			if l := contents(y); !slices.Equal(l, want) {
				t.Fatalf("width %d: All yields %v, want %v", w, l, want)
			}
			m.expect(t, y, r.bits()&greatest(w), want[0].match.Value)
		}
	}
}

// General rule 1: many prefixes are no trouble.
func TestMany(t *testing.T) {
	const n = 200000
	x, r := newTrie(t, 32), random(99)
	inserted := map[uint32]bool{}
	for i := range n {
		v := r.bits()
		if e := x.Insert(v, 32, i); (e == api.OK) == inserted[v] {
			t.Fatalf("Insert(%#x) = %v", v, e)
		}
		inserted[v] = true
	}
	last := int64(-1)
	for m := range x.All() {
		if int64(m.Value) <= last || !inserted[m.Value] {
			t.Fatalf("%#x behind %#x", m.Value, last)
		}
		last = int64(m.Value)
	}
	for v := range inserted {
		if _, n, ok := x.Lookup(v); n != 32 || !ok || !x.Delete(v, 32) {
			t.Fatalf("%#x is amiss", v)
		}
	}
	if x.Len() != 0 || len(contents(x)) != 0 {
		t.Errorf("%d prefixes are left", x.Len())
	}
}

// The chapter's example.
func TestExample(t *testing.T) {
	x := newTrie(t, 8)
	if e := x.Insert(0xa0, 4, 1); e != api.OK {
		t.Error(e)
	}
	if e := x.Insert(0xaf, 4, 2); e != api.ErrDuplicate {
		t.Error(e)
	}
	if e := x.Insert(0, 0, 3); e != api.OK {
		t.Error(e)
	}
	if value, n, ok := x.Lookup(0xa5); value != 1 || n != 4 || !ok {
		t.Errorf("Lookup(0xa5) = %d, %d, %v", value, n, ok)
	}
	if value, n, ok := x.Lookup(5); value != 3 || n != 0 || !ok {
		t.Errorf("Lookup(5) = %d, %d, %v", value, n, ok)
	}
	if l := contents(x); !slices.Equal(l, []pair{{api.KeyMatch{}, 3}, {api.KeyMatch{Value: 0xa0, Mask: 0xf0}, 1}}) {
		t.Errorf("All yields %v", l)
	}
}
