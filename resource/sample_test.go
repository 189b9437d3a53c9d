package resource_test

import (
	"fmt"
	"math"
	"slices"
	"testing"

	"patchbay/api"
	"patchbay/program"
)

var wrongNumbers = []int{math.MinInt, -1 << 32, -2, -1, 99, 1 << 32, 1<<32 + 1, math.MaxInt}

// random is a row of numbers that look like no rule, the same ones for the same seed.
type random uint64

func (r *random) bits() uint32 {
	*r = *r*6364136223846793005 + 1442695040888963407
	return uint32(*r >> 32)
}

func (r *random) below(n int) int { return int(r.bits()>>4) % n }

func (r *random) chance(n int) bool { return r.below(n) == 0 }

func pick[T any](r *random, l []T) T { return l[r.below(len(l))] }

// text writes a value.
func text(x any) string { return fmt.Sprintf("%#v", x) }

// spare answers a copy of a list in which the given elements lie behind its length.
func spare[T any](l []T, behind ...T) []T { return slices.Concat(l, behind)[:len(l)] }

const (
	exact   = api.MatchExact
	lpm     = api.MatchLPM
	ternary = api.MatchTernary
)

// sample is a valid program without tables and actions. It has a metadata field of each width from 1 to 8 and of 16, in
// the order of wide, and two of 32 in a header.
func sample() api.Program {
	p := api.Program{
		Name:     "p",
		Headers:  []api.Header{{Name: "h", Fields: []api.Field{{Name: "a", Width: 32}, {Name: "b", Width: 32}}}},
		Metadata: []api.Field{{Name: "in", Width: 8}, {Name: "out", Width: 8}, {Name: "drop", Width: 1}},
		States:   []api.ParserState{{Name: "s", Extract: []int{0}, Default: api.Accept}},
		Deparser: []int{0},
	}
	for _, w := range wide() {
		p.Metadata = append(p.Metadata, api.Field{Name: fmt.Sprint("w", w), Width: w})
	}
	return p
}

func wide() []int { return []int{1, 2, 3, 4, 5, 6, 7, 8, 16} }

// fieldOf answers a field of the sample of the given width.
func fieldOf(w int) api.FieldRef {
	if w == 32 {
		return api.FieldRef{Header: 0, Field: 1}
	}
	return api.FieldRef{Header: api.Metadata, Field: 3 + slices.Index(wide(), w)}
}

// key is a key field of the given kind and width.
func key(kind, w int) api.TableKey { return api.TableKey{Field: fieldOf(w), Kind: kind} }

// keys answers keys of one kind and of k bits in all, at most 64.
func keys(kind, k int) []api.TableKey {
	var l []api.TableKey
	for _, w := range []int{32, 16, 8, 7, 6, 5, 4, 3, 2, 1} {
		for k >= w {
			l = append(l, key(kind, w))
			k -= w
		}
	}
	return l
}

// params answers a list of parameters of the given widths.
func params(widths ...int) []int { return widths }

// withAction answers p with one more action, which has parameters of the given widths.
func withAction(p api.Program, widths []int) api.Program {
	a := api.Action{Name: fmt.Sprint("a", len(p.Actions))}
	for i, w := range widths {
		a.Params = append(a.Params, api.Field{Name: fmt.Sprint("x", i), Width: w})
	}
	p.Actions = append(slices.Clip(p.Actions), a)
	return p
}

// withTable answers p with one more table, whose default is the first of its actions.
func withTable(p api.Program, size int, keys []api.TableKey, actions ...int) api.Program {
	x := api.Table{Name: fmt.Sprint("t", len(p.Tables)), Keys: keys, Actions: actions, Size: size}
	x.Default = api.ActionCall{Action: actions[0], Args: make([]uint32, len(p.Actions[actions[0]].Params))}
	p.Tables = append(slices.Clip(p.Tables), x)
	return p
}

// one answers the sample with one table and one action.
func one(size int, keys []api.TableKey, widths ...int) api.Program {
	return withTable(withAction(sample(), widths), size, keys, 0)
}

func expectValid(t *testing.T, what string, p api.Program) {
	t.Helper()
	if d := program.Check(p); d.Code != api.OK {
		t.Errorf("%s: the program is not valid: %v", what, d)
	}
}
