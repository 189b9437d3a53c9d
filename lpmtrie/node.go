package lpmtrie

import (
	"iter"

	"patchbay/bitvec"
)

// prefix holds its bits as a number of the trie's width, with zeros behind them, so that equal prefixes are equal
// structs.
type prefix struct {
	bits   uint32
	length int
}

// node stands for a prefix, and the nodes below it for longer ones that begin with it. A node that is not stored is
// there as a fork only: it always has both children. So the nodes are fewer than twice the stored prefixes.
type node struct {
	prefix   prefix
	stored   bool
	value    int
	children [2]*node // by the bit behind the prefix
}

// bit answers bit i of v, from the most significant one on; 0 behind the last one.
func (s *state) bit(v uint32, i int) uint32 { return bitvec.Slice(v, s.width-1-i, 1) }

// has reports whether v begins with p.
func (s *state) has(v uint32, p prefix) bool { return v&bitvec.PrefixMask(p.length, s.width) == p.bits }

// placeOf answers the place of p's node, or the one in which such a node would have to be put.
func (s *state) placeOf(p prefix) **node {
	place := &s.root
	for x := s.root; x != nil && x.prefix.length < p.length && s.has(p.bits, x.prefix); x = *place {
		place = &x.children[s.bit(p.bits, x.prefix.length)]
	}
	return place
}

// common answers the longest prefix with which both begin.
func (s *state) common(a, b prefix) prefix {
	n := 0
	for n < min(a.length, b.length) && s.bit(a.bits, n) == s.bit(b.bits, n) {
		n++
	}
	return prefix{a.bits & bitvec.PrefixMask(n, s.width), n}
}

// grow answers the node of p. If there is none it puts one in, which is not stored yet.
func (s *state) grow(p prefix) *node {
	place := s.placeOf(p)
	below := *place
	if below != nil && below.prefix == p {
		return below
	}
	grown := &node{prefix: p}
	*place = grown
	if below == nil {
		return grown
	}
	shared := s.common(p, below.prefix)
	if shared != p {
		fork := &node{prefix: shared}
		fork.children[s.bit(p.bits, shared.length)] = grown
		*place = fork
	}
	(*place).children[s.bit(below.prefix.bits, shared.length)] = below
	return grown
}

// without answers what is left of x and the nodes below it when p, whose node is one of them, is stored no more.
func (s *state) without(x *node, p prefix) *node {
	if x.prefix == p {
		x.stored = false
	} else {
		child := &x.children[s.bit(p.bits, x.prefix.length)]
		*child = s.without(*child, p)
	}
	return x.needed()
}

// needed answers x, or what there is below it if it is neither stored nor a fork.
func (x *node) needed() *node {
	if x.stored || x.children[0] != nil && x.children[1] != nil {
		return x
	}
	if x.children[0] != nil {
		return x.children[0]
	}
	return x.children[1]
}

// longest answers the node of the longest stored prefix that key has, or nil.
func (s *state) longest(key uint32) *node {
	var found *node
	for x := s.root; x != nil && s.has(key, x.prefix); x = x.children[s.bit(key, x.prefix.length)] {
		if x.stored {
			found = x
		}
	}
	return found
}

// inOrder yields every node, by ascending bits and ahead of those below it.
func (s *state) inOrder() iter.Seq[*node] {
	return func(yield func(*node) bool) {
		pending := []*node{s.root}
		for len(pending) > 0 {
			last := len(pending) - 1
			x := pending[last]
			pending = pending[:last]
			if x == nil {
				continue
			}
			if !yield(x) {
				return
			}
			pending = append(pending, x.children[1], x.children[0])
		}
	}
}
