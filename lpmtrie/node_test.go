package lpmtrie

import "testing"

// What is kept is told by the stored prefixes alone, whatever was stored and deleted before.
func TestNodesThatAreKept(t *testing.T) {
	x, _ := New(16)
	const odd = 0x9e37
	for i := range uint32(4000) {
		x.Insert(i*odd&0xffff, int(i%17), 0)
		x.Delete(i*i*odd&0xffff, int(i%17))
		nodes := 0
		for n := range x.state.inOrder() {
			nodes++
			if !n.stored && (n.children[0] == nil || n.children[1] == nil) {
				t.Fatalf("%v is kept for nothing", n.prefix)
			}
		}
		if nodes > 2*x.Len() {
			t.Fatalf("%d nodes for %d prefixes", nodes, x.Len())
		}
	}
	for v := range uint32(1) << 16 {
		for n := range 17 {
			x.Delete(v, n)
		}
	}
	if x.state.root != nil {
		t.Error("an emptied trie keeps nodes")
	}
}
