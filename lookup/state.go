package lookup

import (
	"slices"

	"patchbay/api"
	"patchbay/bitvec"
	"patchbay/entry"
	"patchbay/lpmtrie"
	"patchbay/table"
)

// noKey is the index of the key that tries hold, in a table of which they hold none.
const noKey = -1

// numbers holds one number for each key of a table, with zeros behind them, so that equal lists are equal structs.
type numbers struct{ at [api.MaxKeys]uint32 }

// cut answers the values of a key in the bits of the masks m.
func (m numbers) cut(key []uint32) numbers {
	for i, v := range key {
		m.at[i] &= v
	}
	return m
}

// state tells rows by their places in the order of precedence: of several that match, the one at the smallest place is
// selected.
type state struct {
	rows    []api.Row
	widths  []int
	trieKey int
	groups  []*group
}

// group holds the rows that have the same masks, but for the key that tries hold.
type group struct {
	masks  numbers
	values map[numbers]bucket
}

// bucket holds the rows of a group that have the same values, but for the key that tries hold. If there is no such key,
// what one of them matches the others match too, so that none but the first is ever selected.
type bucket struct {
	first    int
	prefixes *lpmtrie.Trie // the places of all of them; nil if there is no such key
}

// trieKeyOf answers the key that tries hold. In a table of kind MatchTernary a row of greater priority goes ahead of one
// with a longer prefix, so that its LPM key is told by masks, as the others are.
func trieKeyOf(p api.Program, t int) int {
	if table.Kind(p, t) != api.MatchLPM {
		return noKey
	}
	return slices.IndexFunc(p.Tables[t].Keys, func(k api.TableKey) bool { return k.Kind == api.MatchLPM })
}

// inOrder answers copies of the rows of l, whose IDs differ, in the order of precedence.
func inOrder(p api.Program, t int, l []api.Row) []api.Row {
	rows := make([]api.Row, 0, len(l))
	for _, r := range l {
		rows = append(rows, copyOf(r))
	}
	slices.SortFunc(rows, func(a, b api.Row) int {
		switch {
		case entry.Precedes(p, t, a, b):
			return -1
		case entry.Precedes(p, t, b, a):
			return 1
		}
		return 0
	})
	return rows
}

// newState expects rows that check accepts.
func newState(p api.Program, t int, l []api.Row) *state {
	s := &state{rows: inOrder(p, t, l), widths: table.Widths(p, t), trieKey: trieKeyOf(p, t)}
	groups := map[numbers]*group{}
	for place, r := range s.rows {
		masks, values := s.parts(r.Entry)
		g := groups[masks]
		if g == nil {
			g = &group{masks: masks, values: map[numbers]bucket{}}
			groups[masks] = g
			s.groups = append(s.groups, g)
		}
		s.addTo(g, values, place)
	}
	return s
}

// parts answers the masks and the values of an entry, without those of the key that tries hold.
func (s *state) parts(x api.Entry) (masks, values numbers) {
	for i, m := range x.Keys {
		if i != s.trieKey {
			masks.at[i], values.at[i] = m.Mask, m.Value
		}
	}
	return masks, values
}

func (s *state) addTo(g *group, values numbers, place int) {
	b, known := g.values[values]
	if !known {
		b = s.newBucket(place)
		g.values[values] = b
	}
	if s.trieKey != noKey {
		m := s.rows[place].Entry.Keys[s.trieKey]
		n, _ := bitvec.PrefixLen(m.Mask, s.widths[s.trieKey])
		b.prefixes.Insert(m.Value, n, place)
	}
}

func (s *state) newBucket(first int) bucket {
	b := bucket{first: first}
	if s.trieKey != noKey {
		b.prefixes, _ = lpmtrie.New(s.widths[s.trieKey])
	}
	return b
}

// find answers the place of the first row of g that matches key.
func (s *state) find(g *group, key []uint32) (int, bool) {
	b, known := g.values[g.masks.cut(key)]
	if !known || s.trieKey == noKey {
		return b.first, known
	}
	// A trie finds nothing for a number that is too wide, but the masks of a row ask for none of the bits above.
	v := key[s.trieKey] & bitvec.Mask(s.widths[s.trieKey])
	place, _, found := b.prefixes.Lookup(v)
	return place, found
}
