package pqueue

import "testing"

// An element that is popped is kept no longer.
func TestPlacesBehindTheHeap(t *testing.T) {
	q, _ := New[*int](50)
	for i := range 50 {
		q.Push(i*7%11, new(int))
	}
	for range 50 {
		q.Pop()
		h := q.state.waiting
		for i, x := range h[:cap(h)][len(h):] {
			if x.element != nil {
				t.Fatalf("with %d waiting, place %d still holds an element", len(h), len(h)+i)
			}
		}
	}
}
