package pqueue

import "iter"

type item[T any] struct {
	key     int
	turn    uint64 // no two items of a queue have the same one
	element T
}

func (a item[T]) precedes(b item[T]) bool {
	if a.key != b.key {
		return a.key < b.key
	}
	return a.turn < b.turn
}

// heap is a binary heap: the item at place i precedes those at places 2i + 1 and 2i + 2.
type heap[T any] []item[T]

func (h heap[T]) swap(i, j int) { h[i], h[j] = h[j], h[i] }

func (h *heap[T]) push(x item[T]) {
	*h = append(*h, x)
	l := *h
	for i := len(l) - 1; i > 0 && l[i].precedes(l[(i-1)/2]); i = (i - 1) / 2 {
		l.swap(i, (i-1)/2)
	}
}

// pop removes the first item. There must be one.
func (h *heap[T]) pop() item[T] {
	l := *h
	first, last := l[0], len(l)-1
	l[0] = l[last]
	// What the element refers to must not be kept by the memory behind the heap.
	l[last] = item[T]{}
	l = l[:last]
	l.sink()
	*h = l
	return first
}

// sink moves the item at the first place down to where it belongs.
func (h heap[T]) sink() {
	i := 0
	for 2*i+1 < len(h) {
		child := 2*i + 1
		if child+1 < len(h) && h[child+1].precedes(h[child]) {
			child++
		}
		if h[i].precedes(h[child]) {
			return
		}
		h.swap(i, child)
		i = child
	}
}

// inOrder yields the items in the order in which pop would answer them, and takes them from a copy.
func (h heap[T]) inOrder() iter.Seq[item[T]] {
	return func(yield func(item[T]) bool) {
		rest := append(heap[T](nil), h...)
		for len(rest) > 0 {
			if !yield(rest.pop()) {
				return
			}
		}
	}
}
