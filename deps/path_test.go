package deps_test

import (
	"slices"
	"testing"

	"patchbay/deps"
)

// mustFollow is the chapter's definition: it tries each sequence of units from i to j.
func mustFollow(d [][]int, i, j int) bool {
	var try func(at int, later bool) bool
	try = func(at int, later bool) bool {
		if at == j {
			return later
		}
		for next := at + 1; next <= j; next++ {
			kind := element(d, at, next)
			if kind != 0 && try(next, later || kind == 2) {
				return true
			}
		}
		return false
	}
	return try(i, false)
}

// wantPath is P33.3, word by word: it tries each list of units, in lexicographic order.
func wantPath(d [][]int) []int {
	follows := make([][]bool, len(d))
	for i := range d {
		for j := range d {
			follows[i] = append(follows[i], i < j && mustFollow(d, i, j))
		}
	}
	var best, path []int
	var try func()
	try = func() {
		if len(path) > len(best) {
			best = slices.Clone(path)
		}
		for j := range d {
			if len(path) > 0 && !follows[path[len(path)-1]][j] {
				continue
			}
			path = append(path, j)
			try()
			path = path[:len(path)-1]
		}
	}
	try()
	return best
}

func expectPath(t *testing.T, what string, d [][]int, want []int) {
	t.Helper()
	expectList(t, what+": CriticalPath", deps.CriticalPath, wantPath, d, want)
}

// P33.3: the longest list, and the smallest of several
func TestCriticalPath(t *testing.T) {
	for _, x := range []struct {
		what string
		d    [][]int
		want []int
	}{
		{"nil", nil, nil},
		{"no units", [][]int{}, nil},
		{"one unit", lists(1), []int{0}},
		{"no dependencies", lists(3), []int{0}},
		{"units beside each other", lists(3, beside(0, 1), beside(1, 2), beside(0, 2)), []int{0}},
		{"two units", lists(2, follow(0, 1)), []int{0, 1}},
		{"the last two", lists(4, follow(2, 3)), []int{2, 3}},
		{"a row of units", lists(4, follow(0, 1), follow(1, 2), follow(2, 3)), []int{0, 1, 2, 3}},
		{"the first of two pairs", lists(4, follow(0, 3), follow(1, 2)), []int{0, 3}},
		{"the first of two that follow", lists(4, follow(1, 2), follow(1, 3)), []int{1, 2}},
		{"the first of two that are followed", lists(4, follow(1, 3), follow(2, 3)), []int{1, 3}},
		{"the longer one, though it starts later", lists(6, follow(0, 5), follow(1, 2), follow(2, 3)), []int{1, 2, 3}},
		{"the longer one, though it goes on later", lists(6, follow(0, 1), follow(0, 4), follow(4, 5)), []int{0, 4, 5}},
		{"the smaller one in the middle", lists(6, follow(0, 1), follow(0, 2), follow(1, 4), follow(2, 3), follow(4, 5), follow(3, 5)), []int{0, 1, 4, 5}},
		{"one that starts beside", lists(3, beside(0, 1), follow(1, 2)), []int{0, 2}},
		{"one that ends beside", lists(3, follow(0, 1), beside(1, 2)), []int{0, 1}},
		{"one that ends beside an earlier unit", lists(4, follow(0, 3), follow(0, 1), beside(1, 2)), []int{0, 1}},
		{"units beside each other between", lists(6, follow(0, 1), beside(1, 2), beside(2, 3), beside(3, 4), follow(4, 5)), []int{0, 1, 5}},
		{"units beside each other at a start and between", lists(6, beside(0, 1), follow(1, 2), beside(2, 3), follow(3, 4), beside(4, 5)), []int{0, 2, 4}},
		{"a smaller one by way of a unit beside", lists(5, follow(0, 4), beside(0, 1), follow(1, 3)), []int{0, 3}},
		{"a smaller one past a unit beside", lists(5, follow(0, 2), beside(0, 1), follow(1, 3)), []int{0, 2}},
		{"beside and yet to follow by another way", lists(4, beside(0, 3), follow(0, 1), beside(1, 3), follow(3, 2)), []int{0, 1}},
		{"a follower that is nearer to the end", lists(5, follow(0, 1), follow(0, 2), follow(2, 3), beside(1, 3)), []int{0, 2, 3}},
		{"a longer one by way of a unit beside", lists(6, follow(0, 1), beside(0, 2), follow(2, 3), follow(3, 4)), []int{0, 3, 4}},
		{"a unit beside that is itself followed more", lists(6, follow(0, 3), beside(0, 1), follow(1, 2), follow(2, 5), follow(3, 4)), []int{0, 2, 5}},
	} {
		expectPath(t, x.what, x.d, x.want)
		expectPath(t, x.what+", with full rows", plain(x.d), x.want)
	}
}

// P33.3, P33.5: random matrices, held against the words of the promises
func TestRandomPaths(t *testing.T) {
	r := random(333)
	longest := map[int]int{}
	for range 20000 {
		d := randomMatrix(&r, 7)
		want := wantPath(d)
		expectPath(t, "a random matrix", d, want)
		longest[len(want)]++
		if stages := append(deps.EarliestStages(d), -1); len(want) != slices.Max(stages)+1 {
			t.Errorf("the critical path of %v is %v, the earliest stages are %v", d, want, stages[:len(d)])
		}
		if t.Failed() {
			return
		}
	}
	if len(longest) != 8 || longest[3] < 1000 || longest[4] < 500 {
		t.Errorf("the lengths of the critical paths are %v", longest)
	}
}

// P33.3, P33.5: all matrices of four units
func TestAllPaths(t *testing.T) {
	pairs := [][2]int{{0, 1}, {0, 2}, {0, 3}, {1, 2}, {1, 3}, {2, 3}}
	assignments(len(pairs), 2, func(kinds []int) {
		d := plain(lists(4))
		for at, x := range pairs {
			d[x[0]][x[1]] = kinds[at]
		}
		expectPath(t, "four units", d, wantPath(d))
		expectStages(t, "four units", d, wantStages(d))
		if stages := deps.EarliestStages(d); len(deps.CriticalPath(d)) != slices.Max(stages)+1 {
			t.Errorf("the critical path of %v is %v, the earliest stages are %v", d, deps.CriticalPath(d), stages)
		}
	})
}

// P33.2 to P33.5: far more units than a program has
func TestManyUnits(t *testing.T) {
	const n = 2000
	row, all := make([][]int, n), make([][]int, n)
	var stages, evens []int
	for i := range n {
		row[i], all[i] = make([]int, i+2), slices.Repeat([]int{1 + i%2}, n) // SameStage from even numbers, LaterStage from odd ones
		row[i][i+1] = 2
		stages = append(stages, i)
		evens = append(evens, i/2)
	}
	if s := deps.EarliestStages(row); !slices.Equal(s, stages) {
		t.Errorf("the earliest stages of a long row are %v", s)
	}
	if l := deps.CriticalPath(row); !slices.Equal(l, stages) {
		t.Errorf("the critical path of a long row is %v", l)
	}
	if !deps.Satisfied(row, stages) || deps.Satisfied(row, evens) {
		t.Error("Satisfied of a long row")
	}
	if s := deps.EarliestStages(all); !slices.Equal(s, evens) {
		t.Errorf("the earliest stages of units of which all depend on each other are %v", s)
	}
	if l := deps.CriticalPath(all); len(l) != n/2 || l[0] != 0 || l[1] != 2 || l[n/2-1] != n-2 {
		t.Errorf("the critical path of units of which all depend on each other is %v", l)
	}
	if !deps.Satisfied(all, evens) || !deps.Satisfied(all, stages) {
		t.Error("Satisfied of units of which all depend on each other")
	}
}

// P33.2 to P33.4: a million units whose rows are nearly all empty
func TestManyEmptyRows(t *testing.T) {
	const n = 1000000
	d := make([][]int, n)
	d[0] = slices.Repeat([]int{2}, n+5)
	d[3] = []int{2, 2, 2, 2, 2}
	s := deps.EarliestStages(d)
	if len(s) != n || s[0] != 0 || s[3] != 1 || s[4] != 2 || s[n-1] != 1 {
		t.Errorf("%d earliest stages, %v at the start, %d at the end", len(s), s[:9], s[n-1])
	}
	if l := deps.CriticalPath(d); !slices.Equal(l, []int{0, 3, 4}) {
		t.Errorf("the critical path is %v", l)
	}
	if !deps.Satisfied(d, s) {
		t.Error("the earliest stages do not satisfy the dependencies")
	}
	s[n-1] = 0
	if deps.Satisfied(d, s) {
		t.Error("the last unit in the stage of the first one")
	}
}
