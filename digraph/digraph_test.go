package digraph_test

import (
	"math"
	"reflect"
	"slices"
	"testing"

	"patchbay/api"
	"patchbay/digraph"
)

// random is a row of numbers that look like no rule, the same ones for the same seed.
type random uint32

func (r *random) below(n int) int {
	*r = *r*1664525 + 1013904223
	return int(*r>>8) % n
}

func hasEdge(g [][]int, v, w int) bool { return w >= 0 && w < len(g) && slices.Contains(g[v], w) }

// successors answers where the edges from v lead, in ascending order.
func successors(g [][]int, v int) []int {
	var l []int
	for w := range g {
		if hasEdge(g, v, w) {
			l = append(l, w)
		}
	}
	return l
}

// walks hands every path of that length which begins with path to visit, the smallest ones first, until visit answers true.
func walks(g [][]int, path []int, length int, visit func([]int) bool) bool {
	if length == 0 {
		return visit(path)
	}
	for _, w := range successors(g, path[len(path)-1]) {
		if walks(g, append(slices.Clone(path), w), length-1, visit) {
			return true
		}
	}
	return false
}

// wantPath answers the first path between the two nodes among those of the lengths least to most.
func wantPath(g [][]int, from, to, least, most int) (found []int, ok bool) {
	for length := least; length <= most; length++ {
		ok = walks(g, []int{from}, length, func(path []int) bool {
			found = path
			return path[len(path)-1] == to
		})
		if ok {
			return found, true
		}
	}
	return nil, false
}

func wantCycle(g [][]int) []int {
	for v := range g {
		if cycle, ok := wantPath(g, v, v, 1, len(g)); ok {
			return cycle[:len(cycle)-1]
		}
	}
	return nil
}

// orders hands every order of the nodes that goes on from order to visit, the smallest ones first, until visit answers true.
func orders(n int, order []int, visit func([]int) bool) bool {
	if len(order) == n {
		return visit(order)
	}
	for v := range n {
		if !slices.Contains(order, v) && orders(n, append(slices.Clone(order), v), visit) {
			return true
		}
	}
	return false
}

func isTopological(g [][]int, order []int) bool {
	for i, v := range order {
		for _, w := range order[:i+1] {
			if hasEdge(g, v, w) {
				return false
			}
		}
	}
	return true
}

func wantOrder(g [][]int) (found []int, ok bool) {
	ok = orders(len(g), nil, func(order []int) bool {
		found = order
		return isTopological(g, order)
	})
	if !ok {
		return nil, false
	}
	return found, true
}

// wantLevel is asked of graphs without cycles alone.
func wantLevel(g [][]int, w int) int {
	level := 0
	for v := range g {
		if hasEdge(g, v, w) {
			level = max(level, wantLevel(g, v)+1)
		}
	}
	return level
}

// wantLongest is asked of graphs without cycles alone.
func wantLongest(g [][]int) []int {
	for length := len(g) - 1; length >= 0; length-- {
		for v := range g {
			var found []int
			if walks(g, []int{v}, length, func(path []int) bool { found = path; return true }) {
				return found
			}
		}
	}
	return nil
}

func expectPath(t *testing.T, g [][]int, from, to int, want []int, is bool) {
	t.Helper()
	if l, ok := digraph.ShortestPath(g, from, to); !slices.Equal(l, want) || ok != is {
		t.Errorf("ShortestPath(%v, %d, %d) = %v, %v, want %v, %v", g, from, to, l, ok, want, is)
	}
}

func expectReachable(t *testing.T, g [][]int, from int, want []bool) {
	t.Helper()
	if l := digraph.Reachable(g, from); !slices.Equal(l, want) {
		t.Errorf("Reachable(%v, %d) = %v, want %v", g, from, l, want)
	}
}

func expectOrder(t *testing.T, g [][]int, want []int, is bool) {
	t.Helper()
	if l, ok := digraph.TopologicalOrder(g); !slices.Equal(l, want) || ok != is {
		t.Errorf("TopologicalOrder(%v) = %v, %v, want %v, %v", g, l, ok, want, is)
	}
}

func expectLevels(t *testing.T, g [][]int, want []int, is bool) {
	t.Helper()
	if l, ok := digraph.Levels(g); !slices.Equal(l, want) || ok != is {
		t.Errorf("Levels(%v) = %v, %v, want %v, %v", g, l, ok, want, is)
	}
}

func expectLongest(t *testing.T, g [][]int, want []int, is bool) {
	t.Helper()
	if l, ok := digraph.LongestPath(g); !slices.Equal(l, want) || ok != is {
		t.Errorf("LongestPath(%v) = %v, %v, want %v, %v", g, l, ok, want, is)
	}
}

func expectCycle(t *testing.T, g [][]int, want []int) {
	t.Helper()
	if l := digraph.ShortestCycle(g); !slices.Equal(l, want) {
		t.Errorf("ShortestCycle(%v) = %v, want %v", g, l, want)
	}
}

func expectReverse(t *testing.T, g [][]int, want [][]int) {
	t.Helper()
	if l := digraph.Reverse(g); !slices.EqualFunc(l, want, slices.Equal[[]int]) {
		t.Errorf("Reverse(%v) = %v, want %v", g, l, want)
	}
}

// expectAll holds every function against the test's own search of all paths and orders.
func expectAll(t *testing.T, g [][]int) {
	t.Helper()
	want := make([][]int, len(g))
	for v := range g {
		reachable := make([]bool, len(g))
		for w := range g {
			path, ok := wantPath(g, v, w, 0, len(g)-1)
			reachable[w] = ok
			expectPath(t, g, v, w, path, ok)
			if hasEdge(g, w, v) {
				want[v] = append(want[v], w)
			}
		}
		expectReachable(t, g, v, reachable)
	}
	expectReverse(t, g, want)
	expectCycle(t, g, wantCycle(g))
	order, ok := wantOrder(g)
	expectOrder(t, g, order, ok)
	if !ok {
		expectLevels(t, g, nil, false)
		expectLongest(t, g, nil, false)
		return
	}
	levels := make([]int, len(g))
	for v := range g {
		levels[v] = wantLevel(g, v)
	}
	expectLevels(t, g, levels, true)
	expectLongest(t, g, wantLongest(g), true)
}

// graphOf answers the graph of n nodes whose edges are the bits of edges.
func graphOf(n, edges int) [][]int {
	g := make([][]int, n)
	for i := range n * n {
		if edges>>i&1 == 1 {
			g[i/n] = append(g[i/n], i%n)
		}
	}
	return g
}

// littered answers the same graph with the edges in another order, some told again, and elements that are not nodes.
func littered(g [][]int, r *random) [][]int {
	noise := []int{-1, len(g), len(g) + 1, math.MaxInt, math.MinInt, 1 << 32, -1 << 32}
	dirty := make([][]int, len(g))
	for v, l := range g {
		m := slices.Clone(l)
		for range r.below(3) {
			m = append(m, noise[r.below(len(noise))])
			if len(l) > 0 {
				m = append(m, l[r.below(len(l))])
			}
		}
		for i := range m {
			j := r.below(i + 1)
			m[i], m[j] = m[j], m[i]
		}
		dirty[v] = m
	}
	return dirty
}

// P6.2 to P6.6: every graph of up to three nodes.
func TestSmallGraphs(t *testing.T) {
	r := random(1)
	for n := range 4 {
		for edges := range 1 << (n * n) {
			g := graphOf(n, edges)
			expectAll(t, g)
			expectAll(t, littered(g, &r))
		}
	}
}

// P6.2 to P6.6: some of the graphs of four nodes.
func TestGraphsOfFourNodes(t *testing.T) {
	r := random(2)
	for edges := 0; edges < 1<<16; edges += 5 {
		expectAll(t, littered(graphOf(4, edges), &r))
	}
}

// someGraph answers a graph of n nodes that has about one in rare of the edges; without cycles, if it shall be so.
func someGraph(n, rare int, acyclic bool, r *random) [][]int {
	names := make([]int, n)
	for i := range names {
		j := r.below(i + 1)
		names[i], names[j] = names[j], i
	}
	g := make([][]int, n)
	for i, v := range names {
		for j, w := range names {
			if r.below(rare) == 0 && (!acyclic || i < j) {
				g[v] = append(g[v], w)
			}
		}
	}
	return littered(g, r)
}

// P6.2 to P6.6: graphs of five and six nodes, with and without cycles.
func TestSomeGraphs(t *testing.T) {
	r := random(3)
	for i := range 1500 {
		expectAll(t, someGraph(5+i%2, 2+i%5, i%3 > 0, &r))
	}
}

// P6.1
func TestCheck(t *testing.T) {
	most := make([][]int, api.MaxGraph)
	most[0], most[api.MaxGraph-1] = []int{api.MaxGraph - 1, 0}, []int{0, 0, 0}
	for _, g := range [][][]int{nil, {}, {nil}, {{}}, {{0}}, {{0, 0, 0}}, {{1, 2}, {3}, {3}, {}}, {{1}, {0}}, most} {
		if e := digraph.Check(g); e != api.OK {
			t.Errorf("Check(%.60v) = %v", g, e)
		}
	}
	for _, g := range [][][]int{{{5}}, {{1}}, {{-1}}, {{0}, {0, 1, 2}}, {{}, {math.MaxInt}}, {{math.MinInt}, {}}, {{1}, {}, {0, 3, 1}}, {{1 << 32}}} {
		if e := digraph.Check(g); e != api.ErrRange {
			t.Errorf("Check(%v) = %v", g, e)
		}
	}
}

// P6.1: the limit of nodes and one beyond, where too many nodes are told first.
func TestCheckLimit(t *testing.T) {
	for _, n := range []int{api.MaxGraph + 1, 2 * api.MaxGraph} {
		g := make([][]int, n)
		if e := digraph.Check(g); e != api.ErrLimit {
			t.Errorf("Check of %d nodes: %v", n, e)
		}
		g[0] = []int{-1, n}
		if e := digraph.Check(g); e != api.ErrLimit {
			t.Errorf("Check of %d nodes and of elements that are none: %v", n, e)
		}
	}
	last := make([][]int, api.MaxGraph)
	last[api.MaxGraph-1] = []int{0, api.MaxGraph}
	if e := digraph.Check(last); e != api.ErrRange {
		t.Errorf("Check of an element one beyond the last node: %v", e)
	}
}

// P6.2
func TestShortestPath(t *testing.T) {
	g := [][]int{{1, 2}, {3}, {3}, {}}
	expectPath(t, g, 0, 3, []int{0, 1, 3}, true)
	expectPath(t, g, 3, 3, []int{3}, true)
	expectPath(t, g, 3, 0, nil, false)
	expectPath(t, [][]int{{3, 1, 3}, {2}, {4, 9}, {2, -1}, {}}, 0, 4, []int{0, 1, 2, 4}, true)
	// An edge to itself makes no path longer or shorter.
	expectPath(t, [][]int{{0}}, 0, 0, []int{0}, true)
	expectPath(t, [][]int{{0, 1}, {1, 0}}, 0, 1, []int{0, 1}, true)
	// The shorter path is not the smaller one.
	expectPath(t, [][]int{{1, 4}, {2}, {3}, {}, {3}}, 0, 3, []int{0, 4, 3}, true)
	// Of several shortest paths the first difference counts, not the later ones.
	expectPath(t, [][]int{{3, 1}, {4}, {5}, {2}, {5}, {}}, 0, 5, []int{0, 1, 4, 5}, true)
	// The smallest successor need not lead to the end, or not by a shortest path.
	expectPath(t, [][]int{{4, 3, 2, 1}, {1}, {0, 1}, {5}, {5}, {}}, 0, 5, []int{0, 3, 5}, true)
}

// P6.2: starts and ends that are no nodes.
func TestNoNodes(t *testing.T) {
	g := [][]int{{1, -1, 2}, {0, 2}}
	for _, v := range []int{-1, 2, 3, math.MaxInt, math.MinInt, 1 << 32, -1 << 32} {
		expectReachable(t, g, v, []bool{false, false})
		expectReachable(t, nil, v, nil)
		expectPath(t, g, v, 0, nil, false)
		expectPath(t, g, 0, v, nil, false)
		expectPath(t, g, v, v, nil, false)
		expectPath(t, nil, v, v, nil, false)
	}
	expectReachable(t, nil, 0, nil)
	expectPath(t, nil, 0, 0, nil, false)
}

// P6.2: Reachable tells of every node, and of the start always.
func TestReachable(t *testing.T) {
	g := [][]int{{1, 2}, {3}, {3}, {}, {0, 4}}
	expectReachable(t, g, 0, []bool{true, true, true, true, false})
	expectReachable(t, g, 3, []bool{false, false, false, true, false})
	expectReachable(t, g, 4, []bool{true, true, true, true, true})
	expectReachable(t, [][]int{{5, -1}, {0}}, 0, []bool{true, false})
}

// P6.3
func TestTopologicalOrder(t *testing.T) {
	expectOrder(t, [][]int{{1, 2}, {3}, {3}, {}}, []int{0, 1, 2, 3}, true)
	expectOrder(t, [][]int{{}, {}, {}}, []int{0, 1, 2}, true)
	expectOrder(t, [][]int{{}, {0}, {1}}, []int{2, 1, 0}, true)
	// A node comes as soon as it may, though it was not free when others were.
	expectOrder(t, [][]int{{}, {}, {1}, {}, {0}}, []int{2, 1, 3, 4, 0}, true)
	expectOrder(t, [][]int{{3, 3, 3}, {7, 3, -1}, {}, {2, 2}}, []int{0, 1, 3, 2}, true)
	expectOrder(t, nil, nil, true)
	expectOrder(t, [][]int{}, nil, true)
	expectOrder(t, [][]int{{5}}, []int{0}, true)
	for _, g := range [][][]int{{{0}}, {{1}, {0}}, {{1}, {2}, {1}}, {{}, {1}}, {{1}, {2}, {3}, {0}}, {{}, {}, {4}, {2}, {3}}} {
		expectOrder(t, g, nil, false)
	}
}

// P6.4
func TestLevels(t *testing.T) {
	expectLevels(t, [][]int{{1, 2}, {3}, {3}, {}}, []int{0, 1, 1, 2}, true)
	expectLevels(t, [][]int{{3}, {3}, {1}, {}}, []int{0, 1, 0, 2}, true)
	expectLevels(t, [][]int{{1, 2, 3}, {2}, {3}, {}}, []int{0, 1, 2, 3}, true)
	expectLevels(t, [][]int{{5}}, []int{0}, true)
	expectLevels(t, nil, nil, true)
	expectLevels(t, [][]int{}, nil, true)
	expectLevels(t, [][]int{{1}, {2}, {1}}, nil, false)
	expectLevels(t, [][]int{{0}}, nil, false)
}

// P6.4
func TestLongestPath(t *testing.T) {
	expectLongest(t, [][]int{{1, 2}, {3}, {3}, {}}, []int{0, 1, 3}, true)
	expectLongest(t, [][]int{{}, {}, {}}, []int{0}, true)
	expectLongest(t, [][]int{{}, {0}, {1}}, []int{2, 1, 0}, true)
	// The smallest start counts ahead of what follows it.
	expectLongest(t, [][]int{{}, {5}, {0}, {4}, {0}, {0}}, []int{1, 5, 0}, true)
	expectLongest(t, [][]int{{4, 3}, {}, {}, {2}, {1}}, []int{0, 3, 2}, true)
	expectLongest(t, [][]int{{1, 2}, {}, {3}, {}}, []int{0, 2, 3}, true)
	expectLongest(t, nil, nil, true)
	expectLongest(t, [][]int{}, nil, true)
	expectLongest(t, [][]int{{5}}, []int{0}, true)
	expectLongest(t, [][]int{{1}, {2}, {1}}, nil, false)
	expectLongest(t, [][]int{{}, {1}}, nil, false)
}

// P6.5
func TestShortestCycle(t *testing.T) {
	expectCycle(t, [][]int{{1}, {2}, {1}}, []int{1, 2})
	expectCycle(t, [][]int{{1}, {2, 1}, {1}}, []int{1})
	expectCycle(t, [][]int{{0}}, []int{0})
	expectCycle(t, [][]int{{5}}, nil)
	expectCycle(t, [][]int{{1, 2}, {3}, {3}, {}}, nil)
	expectCycle(t, nil, nil)
	// The smallest node on a cycle counts, not the shortest cycle of all.
	expectCycle(t, [][]int{{1}, {2}, {0}, {3}}, []int{0, 1, 2})
	// Node 0 leads to a cycle, and node 1 lies between two, without lying on one.
	expectCycle(t, [][]int{{4}, {2}, {3}, {2}, {5}, {4, 1}}, []int{2, 3})
	// Of several shortest cycles the smallest one.
	expectCycle(t, [][]int{{4, 3, 2, 1}, {5}, {5}, {6}, {0, 5}, {}, {0}}, []int{0, 4})
	expectCycle(t, [][]int{{2, 1}, {4, 3}, {4, 3}, {0}, {0}}, []int{0, 1, 3})
}

// P6.6
func TestReverse(t *testing.T) {
	expectReverse(t, [][]int{{1, 2}, {3}, {3}, {}}, [][]int{{}, {0}, {0}, {1, 2}})
	expectReverse(t, [][]int{{3, 1, 3}, {2}, {4, 9}, {2, -1}, {}}, [][]int{{}, {0}, {1, 3}, {0}, {2}})
	expectReverse(t, [][]int{{1, 0, 1, 0, 1}, {0, 1}}, [][]int{{0, 1}, {0, 1}})
	expectReverse(t, [][]int{{math.MaxInt, math.MinInt, 1, -1}}, [][]int{{}})
	expectReverse(t, nil, nil)
}

// expectConsequences holds the functions against one another.
func expectConsequences(t *testing.T, g [][]int) {
	t.Helper()
	_, ordered := digraph.TopologicalOrder(g)
	levels, levelled := digraph.Levels(g)
	path, found := digraph.LongestPath(g)
	is := len(digraph.ShortestCycle(g)) == 0
	if ordered != is || levelled != is || found != is {
		t.Errorf("%d nodes: the cycle is missing (%v), but %v, %v, %v", len(g), is, ordered, levelled, found)
	}
	if is && len(g) > 0 && len(path)-1 != slices.Max(levels) {
		t.Errorf("%d nodes: the longest path has %d nodes, and the greatest level is %d", len(g), len(path), slices.Max(levels))
	}
	reversed := digraph.Reverse(g)
	back := make([][]bool, len(g))
	for w := range g {
		back[w] = digraph.Reachable(reversed, w)
	}
	for v := range g {
		there := digraph.Reachable(g, v)
		for w := range g {
			_, ok := digraph.ShortestPath(g, v, w)
			if there[w] != back[w][v] || there[w] != ok {
				t.Errorf("%d nodes, from %d to %d: %v, %v, %v", len(g), v, w, there[w], back[w][v], ok)
			}
		}
	}
	sorted := make([][]int, len(g))
	for v := range g {
		sorted[v] = successors(g, v)
	}
	expectReverse(t, reversed, sorted)
}

// P6.7
func TestConsequences(t *testing.T) {
	r := random(4)
	expectConsequences(t, nil)
	for i := range 400 {
		expectConsequences(t, someGraph(1+r.below(24), 2+r.below(12), i%2 > 0, &r))
	}
}

// calls answers what every function answers of g.
func calls(g [][]int) []any {
	l := []any{digraph.Check(g), digraph.ShortestCycle(g), digraph.Reverse(g)}
	for _, f := range []func([][]int) ([]int, bool){digraph.TopologicalOrder, digraph.Levels, digraph.LongestPath} {
		list, ok := f(g)
		l = append(l, list, ok)
	}
	for v := range g {
		l = append(l, digraph.Reachable(g, v))
		for w := range g {
			path, ok := digraph.ShortestPath(g, v, w)
			l = append(l, path, ok)
		}
	}
	return l
}

// spoil writes into every list of an answer, and behind its end.
func spoil(l []any) {
	for _, x := range l {
		switch y := x.(type) {
		case []int:
			_ = append(y[:0], slices.Repeat([]int{77}, cap(y))...)
		case []bool:
			for i := range y {
				y[i] = !y[i]
			}
		case [][]int:
			for _, z := range y {
				_ = append(z[:0], slices.Repeat([]int{77}, cap(z))...)
			}
		}
	}
}

// P6.1 to P6.6: no call changes or keeps its argument, or goes by what lies behind a list's end.
func TestArgumentsAreLeft(t *testing.T) {
	r := random(5)
	for i := range 200 {
		g := someGraph(1+r.below(6), 2+r.below(4), i%2 > 0, &r)
		want := calls(g)
		whole := make([][]int, len(g)+2)
		for v := range whole {
			whole[v] = []int{0, 1, 2, 3, 0, 1}
			if v < len(g) {
				whole[v] = append(slices.Clone(g[v]), 0, 1, 2)
			}
		}
		g = slices.Clone(whole)[:len(g)]
		for v := range g {
			g[v] = g[v][:len(g[v])-3]
		}
		kept := make([][]int, len(whole))
		for v := range whole {
			kept[v] = slices.Clone(whole[v])
		}
		first := calls(g)
		if !reflect.DeepEqual(first, want) {
			t.Errorf("what lies behind the lists of %v counts", g)
		}
		spoil(first)
		if !reflect.DeepEqual(calls(g), want) || !reflect.DeepEqual(whole, kept) {
			t.Errorf("a call changes %v", g)
		}
	}
}

// P6.6: no two lists of the answer share memory.
func TestReverseFresh(t *testing.T) {
	g := [][]int{{1, 2}, {2, 0}, {0, 1}}
	l := digraph.Reverse(g)
	for v := range l {
		l[v] = append(l[v], 8, 9)
		l[v][0] = 7
	}
	if want := [][]int{{7, 2, 8, 9}, {7, 2, 8, 9}, {7, 1, 8, 9}}; !reflect.DeepEqual(l, want) {
		t.Errorf("the lists are %v", l)
	}
	expectReverse(t, g, [][]int{{1, 2}, {0, 2}, {0, 1}})
}

// chain answers the graph with an edge from each node to the next one, from the last to the first.
func chain(n int) [][]int {
	g := make([][]int, n)
	for v := 1; v < n; v++ {
		g[v] = []int{v - 1}
	}
	return g
}

// P6.1 to P6.6: graphs far greater than those that Check takes, deep and wide.
func TestGreatGraphs(t *testing.T) {
	const n = 300000
	g := chain(n)
	down := make([]int, n)
	for i := range down {
		down[i] = n - 1 - i
	}
	if e := digraph.Check(g); e != api.ErrLimit {
		t.Errorf("Check: %v", e)
	}
	if path, ok := digraph.ShortestPath(g, n-1, 0); !ok || !slices.Equal(path, down) {
		t.Errorf("ShortestPath: %d nodes, %v", len(path), ok)
	}
	if l := digraph.Reachable(g, n-2); l[n-1] || !l[0] || !l[n-2] {
		t.Error("Reachable")
	}
	if order, ok := digraph.TopologicalOrder(g); !ok || !slices.Equal(order, down) {
		t.Errorf("TopologicalOrder: %d nodes, %v", len(order), ok)
	}
	if levels, ok := digraph.Levels(g); !ok || !slices.Equal(levels, down) {
		t.Errorf("Levels: %d nodes, %v", len(levels), ok)
	}
	if path, ok := digraph.LongestPath(g); !ok || !slices.Equal(path, down) {
		t.Errorf("LongestPath: %d nodes, %v", len(path), ok)
	}
	if cycle := digraph.ShortestCycle(g); len(cycle) != 0 {
		t.Errorf("ShortestCycle of none: %d nodes", len(cycle))
	}
	g[0] = []int{n - 1}
	if cycle := digraph.ShortestCycle(g); len(cycle) != n || cycle[0] != 0 || cycle[1] != n-1 || cycle[n-1] != 1 {
		t.Errorf("ShortestCycle: %d nodes", len(cycle))
	}
	if _, ok := digraph.LongestPath(g); ok {
		t.Error("LongestPath of a cycle")
	}
}

// P6.2 to P6.6: as many edges as so many nodes can have.
func TestDenseGraph(t *testing.T) {
	const n = 1500
	g := make([][]int, n)
	for v := range g {
		for w := n - 1; w > v; w-- {
			g[v] = append(g[v], w)
		}
	}
	up := make([]int, n)
	for i := range up {
		up[i] = i
	}
	if order, ok := digraph.TopologicalOrder(g); !ok || !slices.Equal(order, up) {
		t.Errorf("TopologicalOrder: %v", ok)
	}
	if path, ok := digraph.LongestPath(g); !ok || !slices.Equal(path, up) {
		t.Errorf("LongestPath: %d nodes, %v", len(path), ok)
	}
	if path, ok := digraph.ShortestPath(g, 0, n-1); !ok || !slices.Equal(path, []int{0, n - 1}) {
		t.Errorf("ShortestPath: %v, %v", path, ok)
	}
	if cycle := digraph.ShortestCycle(g); len(cycle) != 0 {
		t.Errorf("ShortestCycle of none: %v", cycle)
	}
	g[n-1] = []int{n - 3}
	if cycle := digraph.ShortestCycle(g); !slices.Equal(cycle, []int{n - 3, n - 1}) {
		t.Errorf("ShortestCycle: %v", cycle)
	}
}
