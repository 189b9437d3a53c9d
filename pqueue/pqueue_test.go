package pqueue_test

import (
	"iter"
	"math"
	"slices"
	"strconv"
	"testing"

	"patchbay/api"
	"patchbay/pqueue"
)

// random is a row of numbers that look like no rule, the same ones for the same seed.
type random uint64

func (r *random) bits() uint32 {
	*r = *r*6364136223846793005 + 1442695040888963407
	return uint32(*r >> 32)
}

func (r *random) below(n int) int { return int(r.bits()>>4) % n }

// entry is a key with the element that was pushed with it.
type entry[T any] struct {
	key     int
	element T
}

func newQueue[T any](t *testing.T, capacity int) *pqueue.Queue[T] {
	t.Helper()
	q, e := pqueue.New[T](capacity)
	if q == nil || e != api.OK {
		t.Fatalf("New(%d) = %v, %v", capacity, q, e)
	}
	return q
}

func collected[T any](all iter.Seq2[int, T]) []entry[T] {
	var l []entry[T]
	for key, x := range all {
		l = append(l, entry[T]{key, x})
	}
	return l
}

func push[T any](t *testing.T, q *pqueue.Queue[T], key int, x T) {
	t.Helper()
	if e := q.Push(key, x); e != api.OK {
		t.Fatalf("Push(%d, %v) = %v", key, x, e)
	}
}

func popped[T any](q *pqueue.Queue[T]) []entry[T] {
	var l []entry[T]
	for {
		key, x, ok := q.Pop()
		if !ok {
			return l
		}
		l = append(l, entry[T]{key, x})
	}
}

// model is what a queue holds, in the order in which it was pushed.
type model struct {
	capacity int
	entries  []entry[string]
}

// inOrder answers the entries in the order of the chapter.
func (m *model) inOrder() []entry[string] {
	l := slices.Clone(m.entries)
	slices.SortStableFunc(l, func(a, b entry[string]) int {
		switch {
		case a.key < b.key:
			return -1
		case a.key > b.key:
			return 1
		}
		return 0
	})
	return l
}

func (m *model) push(t *testing.T, q *pqueue.Queue[string], key int, x string) {
	t.Helper()
	want := api.ErrFull
	if len(m.entries) < m.capacity {
		want = api.OK
		m.entries = append(m.entries, entry[string]{key, x})
	}
	if e := q.Push(key, x); e != want {
		t.Fatalf("Push(%d, %q) = %v, want %v", key, x, e, want)
	}
}

// expectFirst holds an answer of Pop or Peek against m.
func (m *model) expectFirst(t *testing.T, call string, key int, x string, ok bool) {
	t.Helper()
	var want entry[string]
	if len(m.entries) > 0 {
		want = m.inOrder()[0]
	}
	if (entry[string]{key, x}) != want || ok != (len(m.entries) > 0) {
		t.Fatalf("%s() = %d, %q, %v, want %v of %v", call, key, x, ok, want, m.entries)
	}
}

func (m *model) pop(t *testing.T, q *pqueue.Queue[string]) {
	t.Helper()
	key, x, ok := q.Pop()
	m.expectFirst(t, "Pop", key, x, ok)
	if ok {
		i := slices.Index(m.entries, entry[string]{key, x})
		m.entries = slices.Delete(m.entries, i, i+1)
	}
}

// expect holds what q answers without a change against m.
func (m *model) expect(t *testing.T, q *pqueue.Queue[string]) {
	t.Helper()
	if n := q.Len(); n != len(m.entries) {
		t.Fatalf("Len() = %d, want %d", n, len(m.entries))
	}
	key, x, ok := q.Peek()
	m.expectFirst(t, "Peek", key, x, ok)
	if l, want := collected(q.All()), m.inOrder(); !slices.Equal(l, want) {
		t.Fatalf("All yields %v, want %v", l, want)
	}
}

// P10.1
func TestNew(t *testing.T) {
	for capacity := 0; capacity <= api.MaxGraph; capacity++ {
		q := newQueue[string](t, capacity)
		(&model{}).expect(t, q)
		(&model{}).pop(t, q)
	}
	for _, capacity := range []int{math.MinInt, -api.MaxGraph, -2, -1, api.MaxGraph + 1, api.MaxGraph + 2, 1 << 16, 1 << 32, 1<<32 + 1, math.MaxInt} {
		if q, e := pqueue.New[string](capacity); q != nil || e != api.ErrRange {
			t.Errorf("New(%d) = %v, %v", capacity, q, e)
		}
	}
}

// P10.1: each is a queue of its own.
func TestNewAnother(t *testing.T) {
	a, b := newQueue[int](t, 1), newQueue[int](t, 1)
	push(t, a, 1, 1)
	if b.Len() != 0 {
		t.Error("two queues share their elements")
	}
	push(t, b, 2, 2)
	if l := popped(a); !slices.Equal(l, []entry[int]{{1, 1}}) {
		t.Errorf("the first queue holds %v", l)
	}
}

// P10.1: a full queue refuses an element, whatever its key is, and takes one again when one is popped.
func TestFull(t *testing.T) {
	for _, capacity := range []int{0, 1, 2, 3, 7, 100, api.MaxGraph - 1, api.MaxGraph} {
		q := newQueue[int](t, capacity)
		for i := range capacity {
			push(t, q, i%5, i)
		}
		for range 2 {
			for _, key := range []int{math.MinInt, -1, 0, 5, math.MaxInt} {
				if e := q.Push(key, -1); e != api.ErrFull {
					t.Errorf("capacity %d: Push(%d) = %v", capacity, key, e)
				}
			}
			if q.Len() != capacity {
				t.Fatalf("capacity %d: Len() = %d", capacity, q.Len())
			}
			if capacity == 0 {
				continue
			}
			if _, x, ok := q.Pop(); x < 0 || !ok {
				t.Errorf("capacity %d: Pop() = %d, %v", capacity, x, ok)
			}
			push(t, q, 5, capacity)
		}
		for _, x := range popped(q) {
			if x.element < 0 {
				t.Errorf("capacity %d: an element that was refused is popped", capacity)
			}
		}
	}
}

// P10.1, P10.2: any int is a key.
func TestKeys(t *testing.T) {
	keys := []int{0, math.MaxInt, -1, math.MinInt, 1, math.MinInt + 1, math.MaxInt - 1, 1 << 32, -1 << 32, math.MaxInt, math.MinInt, 0, -1}
	for _, key := range keys {
		q := newQueue[int](t, 1)
		push(t, q, key, 3)
		if k, x, ok := q.Peek(); k != key || x != 3 || !ok {
			t.Errorf("Peek() = %d, %d, %v, want the key %d", k, x, ok, key)
		}
		if k, x, ok := q.Pop(); k != key || x != 3 || !ok {
			t.Errorf("Pop() = %d, %d, %v, want the key %d", k, x, ok, key)
		}
	}
	q, m := newQueue[string](t, len(keys)), &model{capacity: len(keys)}
	for i, key := range keys {
		m.push(t, q, key, strconv.Itoa(i))
		m.expect(t, q)
	}
	for range keys {
		m.pop(t, q)
		m.expect(t, q)
	}
}

// digitsOf answers the n digits of i to the given base, the lowest one first.
func digitsOf(i, base, n int) []int {
	l := make([]int, n)
	for k := range l {
		l[k] = i % base
		i /= base
	}
	return l
}

// P10.2, P10.4, P10.5: every row of up to six keys of three, negative ones too.
func TestAllRows(t *testing.T) {
	count := 1
	for n := 0; n <= 6; n++ {
		for i := range count {
			q, m := newQueue[string](t, n), &model{capacity: n}
			for k, digit := range digitsOf(i, 3, n) {
				m.push(t, q, digit-1, strconv.Itoa(k))
			}
			m.expect(t, q)
			for range n {
				m.pop(t, q)
			}
			m.expect(t, q)
			m.pop(t, q)
		}
		count *= 3
	}
}

// P10.2: every row of up to seven pushes, of two keys, and pops.
func TestAllTurns(t *testing.T) {
	const turns = 7
	for i := range 3 * 3 * 3 * 3 * 3 * 3 * 3 {
		q, m := newQueue[string](t, 4), &model{capacity: 4}
		for k, digit := range digitsOf(i, 3, turns) {
			if digit == 2 {
				m.pop(t, q)
			} else {
				m.push(t, q, digit, strconv.Itoa(k))
			}
			m.expect(t, q)
		}
	}
}

// P10.1 to P10.5: pushes and pops in turn, with few keys and with many.
func TestTurns(t *testing.T) {
	for _, keys := range []int{1, 2, 5, 1000} {
		for _, capacity := range []int{0, 1, 2, 3, 10, 50} {
			r := random(keys*100 + capacity)
			q, m := newQueue[string](t, capacity), &model{capacity: capacity}
			for i := range 400 {
				// Now the queue tends to fill, now to empty.
				if r.below(10) < 3+4*(i/100%2) {
					m.pop(t, q)
				} else {
					m.push(t, q, r.below(keys)-keys/2, strconv.Itoa(i))
				}
				m.expect(t, q)
			}
		}
	}
}

// P10.2, P10.4: among equal keys the first one pushed is the first one popped, also after many turns.
func TestStable(t *testing.T) {
	q := newQueue[int](t, 10)
	next := 0
	for i := range 20000 {
		push(t, q, 7, i)
		if i%3 == 0 || q.Len() == 10 {
			if key, x, ok := q.Pop(); key != 7 || x != next || !ok {
				t.Fatalf("Pop() = %d, %d, %v, want %d", key, x, ok, next)
			}
			next++
		}
	}
	for _, x := range popped(q) {
		if x.element != next {
			t.Errorf("%d is popped, want %d", x.element, next)
		}
		next++
	}
	if next != 20000 {
		t.Errorf("%d elements are popped", next)
	}
}

// P10.4, P10.5: a full queue of the greatest capacity, with ascending, descending, equal and mixed keys.
func TestGreatest(t *testing.T) {
	r := random(5)
	for _, c := range []struct {
		name string
		key  func(i int) int
	}{
		{"ascending", func(i int) int { return i }},
		{"descending", func(i int) int { return -i }},
		{"equal", func(int) int { return -3 }},
		{"mixed", func(int) int { return int(int32(r.bits())) }},
		{"few", func(int) int { return r.below(7) }},
	} {
		name := c.name
		q, pushed := newQueue[int](t, api.MaxGraph), map[int]int{}
		for i := range api.MaxGraph {
			pushed[i] = c.key(i)
			push(t, q, pushed[i], i)
		}
		if e := q.Push(math.MinInt, -1); e != api.ErrFull || q.Len() != api.MaxGraph {
			t.Errorf("%s keys: Push = %v, Len() = %d", name, e, q.Len())
		}
		all := collected(q.All())
		l := popped(q)
		if !slices.Equal(all, l) || len(l) != api.MaxGraph {
			t.Errorf("%s keys: All yields %d elements, %d are popped", name, len(all), len(l))
		}
		for i, x := range l {
			if pushed[x.element] != x.key {
				t.Errorf("%s keys: %d is popped with the key %d", name, x.element, x.key)
			}
			delete(pushed, x.element)
			if i > 0 && (l[i-1].key > x.key || l[i-1].key == x.key && l[i-1].element > x.element) {
				t.Errorf("%s keys: %v is popped behind %v", name, x, l[i-1])
			}
		}
		if len(pushed) != 0 {
			t.Errorf("%s keys: %d elements are lost or come twice", name, len(pushed))
		}
	}
}

// P10.2: an empty queue, again and again, never used and emptied.
func TestEmpty(t *testing.T) {
	q := newQueue[*int](t, 2)
	for range 3 {
		for range 2 {
			if key, x, ok := q.Peek(); key != 0 || x != nil || ok {
				t.Errorf("Peek() = %d, %v, %v", key, x, ok)
			}
			if key, x, ok := q.Pop(); key != 0 || x != nil || ok {
				t.Errorf("Pop() = %d, %v, %v", key, x, ok)
			}
			if n, l := q.Len(), collected(q.All()); n != 0 || len(l) != 0 {
				t.Errorf("Len() = %d, All yields %v", n, l)
			}
		}
		push(t, q, 4, new(int))
		push(t, q, 4, new(int))
		if l := popped(q); len(l) != 2 {
			t.Errorf("%d elements are popped", len(l))
		}
	}
}

// P10.2: Peek removes nothing.
func TestPeek(t *testing.T) {
	q, m := newQueue[string](t, 3), &model{capacity: 3}
	m.push(t, q, 2, "a")
	m.push(t, q, 1, "b")
	m.push(t, q, 1, "c")
	for range 5 {
		if key, x, ok := q.Peek(); key != 1 || x != "b" || !ok {
			t.Errorf("Peek() = %d, %q, %v", key, x, ok)
		}
		m.expect(t, q)
	}
	m.pop(t, q)
	if key, x, ok := q.Peek(); key != 1 || x != "c" || !ok {
		t.Errorf("Peek() = %d, %q, %v", key, x, ok)
	}
}

// P10.3, P10.6: an iteration is left behind each element, and the same iterator begins anew.
func TestLeaveEarly(t *testing.T) {
	q, m := newQueue[string](t, 40), &model{capacity: 40}
	r := random(8)
	for i := range 40 {
		m.push(t, q, r.below(9)-4, strconv.Itoa(i))
	}
	want, all := m.inOrder(), q.All()
	for stop := 1; stop <= len(want); stop++ {
		var l []entry[string]
		for key, x := range all {
			l = append(l, entry[string]{key, x})
			if len(l) == stop {
				break
			}
		}
		if !slices.Equal(l, want[:stop]) {
			t.Errorf("the first %d are %v, want %v", stop, l, want[:stop])
		}
		m.expect(t, q)
	}
	if l := collected(all); !slices.Equal(l, want) {
		t.Errorf("All yields %v, want %v", l, want)
	}
	for range want {
		m.pop(t, q)
	}
}

// P10.6: iterations within iterations do not meet.
func TestIterateWithinIteration(t *testing.T) {
	q, m := newQueue[string](t, 9), &model{capacity: 9}
	for i := range 9 {
		m.push(t, q, i*4%5, strconv.Itoa(i))
	}
	want, all := m.inOrder(), q.All()
	i := 0
	for key, x := range all {
		if (entry[string]{key, x}) != want[i] || !slices.Equal(collected(all), want) {
			t.Errorf("element %d is %d, %q", i, key, x)
		}
		i++
	}
}

// P10.3 and general rule 6: an iterator yields what is there when it is ranged over.
func TestIteratorOfEarlierCall(t *testing.T) {
	q, m := newQueue[string](t, 3), &model{capacity: 3}
	all := q.All()
	expect := func() {
		t.Helper()
		if l, want := collected(all), m.inOrder(); !slices.Equal(l, want) {
			t.Errorf("All yields %v, want %v", l, want)
		}
	}
	expect()
	m.push(t, q, 2, "a")
	expect()
	m.push(t, q, 1, "b")
	m.push(t, q, 2, "c")
	expect()
	m.pop(t, q)
	m.pop(t, q)
	expect()
	m.pop(t, q)
	expect()
}

// expectNothing holds each call of a queue that New did not make against P10.1 to P10.3.
func expectNothing[T comparable](t *testing.T, name string, q *pqueue.Queue[T], x T) {
	t.Helper()
	var none T
	for _, key := range []int{math.MinInt, 0, 1} {
		if e := q.Push(key, x); e != api.ErrNil {
			t.Errorf("%s: Push(%d) = %v", name, key, e)
		}
	}
	if key, x, ok := q.Pop(); key != 0 || x != none || ok {
		t.Errorf("%s: Pop() = %d, %v, %v", name, key, x, ok)
	}
	if key, x, ok := q.Peek(); key != 0 || x != none || ok {
		t.Errorf("%s: Peek() = %d, %v, %v", name, key, x, ok)
	}
	if n := q.Len(); n != 0 {
		t.Errorf("%s: Len() = %d", name, n)
	}
	for range 2 {
		for key, x := range q.All() {
			t.Errorf("%s yields %d, %v", name, key, x)
		}
	}
}

// P10.1 to P10.3
func TestNil(t *testing.T) {
	expectNothing(t, "a nil queue", nil, "a")
	expectNothing(t, "a zero queue", &pqueue.Queue[string]{}, "a")
	expectNothing(t, "a new one", new(pqueue.Queue[string]), "a")
	expectNothing[error](t, "a nil queue of errors", nil, api.ErrArg)
	expectNothing[error](t, "a zero queue of errors", &pqueue.Queue[error]{}, api.ErrArg)
	expectNothing(t, "a zero queue of structs", &pqueue.Queue[api.Flow]{}, api.Flow{Src: 1})
}

// P10.1: an element is stored as it is.
func TestElementsAreKept(t *testing.T) {
	list, table, number := []int{1, 2, 3}, map[string]int{"a": 1}, 5
	lists, tables, numbers := newQueue[[]int](t, 1), newQueue[map[string]int](t, 1), newQueue[*int](t, 1)
	push(t, lists, 1, list[:2])
	push(t, tables, 1, table)
	push(t, numbers, 1, &number)
	list[0], table["a"], number = 9, 9, 9
	for key := range lists.All() {
		if key != 1 {
			t.Errorf("the key is %d", key)
		}
	}
	if _, l, _ := lists.Peek(); len(l) != 2 || cap(l) != 3 || &l[0] != &list[0] {
		t.Errorf("Peek() = %v", l)
	}
	if _, l, _ := lists.Pop(); len(l) != 2 || l[0] != 9 || l[:3][2] != 3 {
		t.Errorf("Pop() = %v", l)
	}
	if _, m, _ := tables.Pop(); m["a"] != 9 {
		t.Errorf("Pop() = %v", m)
	}
	if _, p, _ := numbers.Pop(); p != &number {
		t.Errorf("Pop() = %v", p)
	}
}

// expectKept pushes x behind and ahead of another element and expects it back.
func expectKept[T any](t *testing.T, x T, same func(T) bool) {
	t.Helper()
	var other T
	q := newQueue[T](t, 3)
	push(t, q, 2, x)
	push(t, q, 1, other)
	push(t, q, 2, other)
	q.Pop()
	if key, got, ok := q.Pop(); key != 2 || !same(got) || !ok {
		t.Errorf("%T: Pop() = %d, %v, %v", x, key, got, ok)
	}
	if key, _, ok := q.Pop(); key != 2 || !ok || q.Len() != 0 {
		t.Errorf("%T: Pop() = %d, %v, and then Len() = %d", x, key, ok, q.Len())
	}
}

// P10.1, P10.2: elements of any type, also of those that can't be compared.
func TestTypes(t *testing.T) {
	expectKept(t, struct{}{}, func(struct{}) bool { return true })
	expectKept(t, [3]string{"a", "", "b"}, func(x [3]string) bool { return x == [3]string{"a", "", "b"} })
	expectKept(t, math.NaN(), func(x float64) bool { return x != x })
	expectKept(t, func() int { return 8 }, func(f func() int) bool { return f() == 8 })
	expectKept(t, []func(){nil}, func(l []func()) bool { return len(l) == 1 && l[0] == nil })
	expectKept(t, api.Entry{Keys: []api.KeyMatch{{Value: 1, Mask: 3}}, Priority: 4}, func(x api.Entry) bool { return len(x.Keys) == 1 && x.Priority == 4 })
	expectKept[any](t, "a", func(x any) bool { return x == "a" })
	expectKept[any](t, []int{1}, func(x any) bool { return len(x.([]int)) == 1 })
	expectKept[any](t, nil, func(x any) bool { return x == nil })
	expectKept[error](t, api.ErrFull, func(x error) bool { return x == api.ErrFull })
	expectKept(t, make(chan int, 2), func(c chan int) bool { return cap(c) == 2 })
	inner := newQueue[int](t, 1)
	expectKept(t, inner, func(q *pqueue.Queue[int]) bool { return q == inner })
}

// The chapter's example.
func TestExample(t *testing.T) {
	q := newQueue[string](t, 4)
	push(t, q, 5, "a")
	push(t, q, 3, "b")
	push(t, q, 5, "c")
	push(t, q, 3, "d")
	if l := popped(q); !slices.Equal(l, []entry[string]{{3, "b"}, {3, "d"}, {5, "a"}, {5, "c"}}) {
		t.Errorf("popped %v", l)
	}
	none := newQueue[string](t, 0)
	for range 3 {
		if e := none.Push(1, "a"); e != api.ErrFull {
			t.Errorf("Push = %v", e)
		}
	}
}
