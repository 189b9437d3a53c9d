package deps_test

import (
	"math"
	"slices"
	"testing"

	"patchbay/deps"
)

// wantStages is P33.2, word by word.
func wantStages(d [][]int) []int {
	var stage []int
	for j := range d {
		earliest := []int{0}
		for i := range j {
			switch element(d, i, j) {
			case 2:
				earliest = append(earliest, stage[i]+1)
			case 1:
				earliest = append(earliest, stage[i])
			}
		}
		stage = append(stage, slices.Max(earliest))
	}
	return stage
}

// wantSatisfied is P33.4, word by word.
func wantSatisfied(d [][]int, stage []int) bool {
	if len(stage) != len(d) {
		return false
	}
	for i := range d {
		for j := range d {
			kind := element(d, i, j)
			if kind == 2 && !(stage[j] > stage[i]) || kind == 1 && !(stage[j] >= stage[i]) {
				return false
			}
		}
	}
	return true
}

func expectStages(t *testing.T, what string, d [][]int, want []int) {
	t.Helper()
	expectList(t, what+": EarliestStages", deps.EarliestStages, wantStages, d, want)
}

func expectSatisfied(t *testing.T, what string, d [][]int, stage []int, want bool) {
	t.Helper()
	stage = spare(stage, -9, 9)
	before := text(d, stage)
	if got := deps.Satisfied(d, stage); got != want {
		t.Errorf("%s: Satisfied(%v, %v) = %v, want %v", what, d, stage, got, want)
	}
	if text(d, stage) != before {
		t.Errorf("%s: Satisfied changes its arguments", what)
	}
	if own := wantSatisfied(d, stage); own != want {
		t.Errorf("%s: the tests' own answer: %v, want %v", what, own, want)
	}
}

// P33.2, P33.3: the chapter's example
func TestExample(t *testing.T) {
	d := [][]int{{0, deps.SameStage, 0}, {0, 0, deps.LaterStage}, {0, 0, 0}}
	expectStages(t, "the example", d, []int{0, 0, 1})
	expectPath(t, "the example", d, []int{0, 2})
	if deps.None != 0 || deps.SameStage != 1 || deps.LaterStage != 2 {
		t.Errorf("the constants are %d, %d and %d", deps.None, deps.SameStage, deps.LaterStage)
	}
}

// P33.2: the greatest of what the earlier units ask for
func TestEarliestStages(t *testing.T) {
	for _, x := range []struct {
		what string
		d    [][]int
		want []int
	}{
		{"nil", nil, nil},
		{"no units", [][]int{}, nil},
		{"one unit", lists(1), []int{0}},
		{"no dependencies", lists(4), []int{0, 0, 0, 0}},
		{"two units", lists(2, follow(0, 1)), []int{0, 1}},
		{"two units beside each other", lists(2, beside(0, 1)), []int{0, 0}},
		{"a row of units", lists(4, follow(0, 1), follow(1, 2), follow(2, 3)), []int{0, 1, 2, 3}},
		{"a row of units beside each other", lists(3, beside(0, 1), beside(1, 2)), []int{0, 0, 0}},
		{"a unit beside a late one", lists(4, follow(0, 1), follow(1, 2), beside(2, 3)), []int{0, 1, 2, 2}},
		{"the stronger one first", lists(4, follow(0, 1), follow(0, 2), follow(1, 3), beside(2, 3)), []int{0, 1, 1, 2}},
		{"the stronger one last", lists(4, follow(0, 1), follow(0, 2), beside(1, 3), follow(2, 3)), []int{0, 1, 1, 2}},
		{"beside a later unit than it must follow", lists(4, follow(0, 1), follow(1, 2), follow(0, 3), beside(2, 3)), []int{0, 1, 2, 2}},
		{"two rows that meet", lists(6, follow(0, 2), follow(1, 3), follow(3, 4), beside(2, 5), follow(4, 5)), []int{0, 0, 1, 1, 2, 3}},
		{"unit 0 alone", lists(3, follow(1, 2)), []int{0, 0, 1}},
	} {
		expectStages(t, x.what, x.d, x.want)
		expectStages(t, x.what+", with full rows", plain(x.d), x.want)
	}
}

// P33.2, P33.3, P33.4: what counts as no dependency
func TestIgnoredElements(t *testing.T) {
	for _, kind := range slices.Concat(wrongKinds, []int{0}) {
		d := [][]int{{2, kind, 2, 2, 2}, {2, 2, kind, 1}, {2, 1, 2}}
		expectStages(t, "elements of no kind", d, []int{0, 0, 1})
		expectPath(t, "elements of no kind", d, []int{0, 2})
		expectSatisfied(t, "elements of no kind", d, []int{1, 0, 2}, true)
		expectSatisfied(t, "elements of no kind", d, []int{1, 3, 2}, true)
		expectSatisfied(t, "elements of no kind", d, []int{1, 0, 1}, false)
	}
	d := [][]int{{2, 2, 2}, {2, 2}, {2, 1, 2}, {1, 1, 1, 1}}
	expectStages(t, "elements on the diagonal and below", d, []int{0, 1, 1, 0})
	expectPath(t, "elements on the diagonal and below", d, []int{0, 1})
	expectSatisfied(t, "elements on the diagonal and below", d, []int{0, 2, 1, -5}, true)
	for _, d := range [][][]int{{{}, nil, {2}}, {{0, 0, 0, 2, 2, 2}, {0, 0, 0, 1, 2}, {0, 0, 0, 2}}, {{0, 0, 0, math.MaxInt}, nil, nil}} {
		expectStages(t, "elements missing, or of units that are not there", spare(d, []int{2, 2, 2, 2}), []int{0, 0, 0})
		expectPath(t, "elements missing, or of units that are not there", spare(d, []int{2, 2, 2, 2}), []int{0})
		expectSatisfied(t, "elements missing, or of units that are not there", spare(d, []int{2, 2, 2, 2}), []int{5, 0, -5}, true)
	}
	short := [][]int{spare([]int{0}, 2, 2), spare([]int{0, 0}, 2), {}}
	expectStages(t, "rows that end ahead of their memory", short, []int{0, 0, 0})
	expectPath(t, "rows that end ahead of their memory", short, []int{0})
	expectSatisfied(t, "rows that end ahead of their memory", short, []int{2, 1, 0}, true)
}

// P33.4: stages of each number
func TestSatisfied(t *testing.T) {
	for _, x := range []struct {
		what        string
		a, b        int
		beside, far bool // whether they satisfy SameStage and LaterStage
	}{
		{"one stage", 3, 3, true, false},
		{"the next stage", 3, 4, true, true},
		{"the stage ahead", 4, 3, false, false},
		{"stage 0", 0, 0, true, false},
		{"stages far apart", 0, 1 << 40, true, true},
		{"stages that agree in their low bits", 1 << 32, 0, false, false},
		{"negative stages", -3, -2, true, true},
		{"one negative stage", -1, -1, true, false},
		{"from negative to positive", -1, 0, true, true},
		{"from positive to negative", 0, -1, false, false},
		{"the greatest stage twice", math.MaxInt, math.MaxInt, true, false},
		{"ahead of the greatest stage", math.MaxInt - 1, math.MaxInt, true, true},
		{"the smallest stage twice", math.MinInt, math.MinInt, true, false},
		{"behind the smallest stage", math.MinInt, math.MinInt + 1, true, true},
		{"from the greatest to the smallest stage", math.MaxInt, math.MinInt, false, false},
		{"from the smallest to the greatest stage", math.MinInt, math.MaxInt, true, true},
	} {
		stage := []int{x.a, 77, x.b}
		expectSatisfied(t, x.what, lists(3, beside(0, 2)), stage, x.beside)
		expectSatisfied(t, x.what, lists(3, follow(0, 2)), stage, x.far)
		expectSatisfied(t, x.what+", none", lists(3), stage, true)
	}
}

// P33.4: every pair counts, and the number of stages
func TestSatisfiedOfLists(t *testing.T) {
	expectSatisfied(t, "nil", nil, nil, true)
	expectSatisfied(t, "no units", [][]int{}, []int{}, true)
	expectSatisfied(t, "no units and a stage", nil, []int{0}, false)
	expectSatisfied(t, "a unit and no stage", lists(1), nil, false)
	expectSatisfied(t, "a unit and two stages", lists(1), []int{0, 0}, false)
	d := lists(4, follow(0, 1), beside(0, 2), follow(1, 3), beside(2, 3))
	for _, x := range []struct {
		stage []int
		want  bool
	}{
		{[]int{0, 1, 0, 2}, true},
		{[]int{0, 1, 2, 2}, true},
		{[]int{5, 7, 6, 9}, true},
		{[]int{0, 0, 0, 2}, false},
		{[]int{1, 2, 0, 3}, false},
		{[]int{0, 2, 0, 2}, false},
		{[]int{0, 1, 3, 2}, false},
		{[]int{0, 1, 0}, false},
		{[]int{0, 1, 0, 2, 3}, false},
		{nil, false},
	} {
		expectSatisfied(t, "four units", d, x.stage, x.want)
	}
}

// P33.2, P33.4: random matrices and stages, held against the words of the promises
func TestRandomStages(t *testing.T) {
	r := random(332)
	count := map[bool]int{}
	latest := 0
	for range 20000 {
		d := randomMatrix(&r, 8)
		want := wantStages(d)
		expectStages(t, "a random matrix", d, want)
		stage := slices.Clone(want)
		for range r.below(3) {
			if len(stage) > 0 {
				stage[r.below(len(stage))] += r.below(5) - 2
			}
		}
		if r.chance(20) {
			stage = append(stage, 9)
		}
		ok := wantSatisfied(d, stage)
		count[ok]++
		expectSatisfied(t, "a random matrix", d, stage, ok)
		latest = max(latest, slices.Max(append(want, 0)))
		if t.Failed() {
			return
		}
	}
	if count[true] < 3000 || count[false] < 3000 || latest < 6 {
		t.Errorf("Satisfied answers %v, the latest stage is %d", count, latest)
	}
}

// assignments calls f with each list of n stages from 0 to most.
func assignments(n, most int, f func(stage []int)) {
	stage := make([]int, n)
	for {
		f(stage)
		i := 0
		for i < n && stage[i] == most {
			stage[i] = 0
			i++
		}
		if i == n {
			return
		}
		stage[i]++
	}
}

// P33.5: the earliest stages satisfy the dependencies, and no others have a smaller stage for any unit.
func TestEarliestStagesAreBest(t *testing.T) {
	r := random(335)
	for range 300 {
		d := randomMatrix(&r, 5)
		earliest := deps.EarliestStages(d)
		if !deps.Satisfied(d, earliest) {
			t.Errorf("the earliest stages %v do not satisfy %v", earliest, d)
		}
		assignments(len(d), 4, func(stage []int) {
			if !deps.Satisfied(d, stage) {
				return
			}
			for i, s := range stage {
				if s < earliest[i] {
					t.Errorf("the stages %v satisfy %v; the earliest are %v", stage, d, earliest)
				}
			}
		})
		if t.Failed() {
			return
		}
	}
}
