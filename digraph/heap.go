package digraph

// minHeap is a binary heap of numbers: that at place i is at most those at places 2i + 1 and 2i + 2.
type minHeap []int

func (h minHeap) swap(i, j int) { h[i], h[j] = h[j], h[i] }

func (h *minHeap) push(v int) {
	*h = append(*h, v)
	l := *h
	for i := len(l) - 1; i > 0 && l[i] < l[(i-1)/2]; i = (i - 1) / 2 {
		l.swap(i, (i-1)/2)
	}
}

// pop removes the smallest number. There must be one.
func (h *minHeap) pop() int {
	l := *h
	smallest, last := l[0], len(l)-1
	l[0] = l[last]
	l = l[:last]
	l.sink()
	*h = l
	return smallest
}

// sink moves the first number down to where it belongs.
func (h minHeap) sink() {
	i := 0
	for 2*i+1 < len(h) {
		child := 2*i + 1
		if child+1 < len(h) && h[child+1] < h[child] {
			child++
		}
		if h[i] <= h[child] {
			return
		}
		h.swap(i, child)
		i = child
	}
}
