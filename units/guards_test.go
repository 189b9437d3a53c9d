package units_test

import (
	"slices"
	"testing"

	"patchbay/api"
	"patchbay/control"
	"patchbay/units"
)

// wantExecutes is P32.2, word by word.
func wantExecutes(l []api.Unit, bits []bool, i int) bool {
	if i < 0 || i >= len(l) {
		return false
	}
	for _, g := range l[i].Guards {
		bit := false
		if g.Unit >= 0 && g.Unit < len(bits) {
			bit = bits[g.Unit]
		}
		if g.Want != bit {
			return false
		}
	}
	return true
}

// wantExclusive is P32.3, word by word.
func wantExclusive(l []api.Unit, i, j int) bool {
	if i < 0 || i >= len(l) || j < 0 || j >= len(l) {
		return false
	}
	for _, g := range l[i].Guards {
		for _, h := range l[j].Guards {
			if g.Unit == h.Unit && g.Want != h.Want {
				return true
			}
		}
	}
	return false
}

func expectExecutes(t *testing.T, what string, l []api.Unit, bits []bool, i int, want bool) {
	t.Helper()
	before := text(l, bits)
	if got := units.Executes(l, bits, i); got != want {
		t.Errorf("%s: Executes(%+v, %v, %d) = %v, want %v", what, l, bits, i, got, want)
	}
	if text(l, bits) != before {
		t.Errorf("%s: Executes changes its arguments", what)
	}
	if x := wantExecutes(l, bits, i); x != want {
		t.Errorf("%s: the tests' own answer: %v, want %v", what, x, want)
	}
}

// expectExclusive expects what Exclusive answers, whichever unit comes first.
func expectExclusive(t *testing.T, what string, l []api.Unit, i, j int, want bool) {
	t.Helper()
	before := text(l)
	if x, y := units.Exclusive(l, i, j), units.Exclusive(l, j, i); x != want || y != want {
		t.Errorf("%s: Exclusive of %+v, %d and %d: %v, %v, want %v", what, l, i, j, x, y, want)
	}
	if text(l) != before {
		t.Errorf("%s: Exclusive changes its argument", what)
	}
	if x := wantExclusive(l, i, j); x != want {
		t.Errorf("%s: the tests' own answer: %v, want %v", what, x, want)
	}
}

// bitsOf answers a list of bits that ends ahead of its memory: 1 is true.
func bitsOf(s string) []bool {
	l := slices.Repeat([]bool{true}, len(s)+3)
	for i, c := range s {
		l[i] = c == '1'
	}
	return l[:len(s)]
}

// P32.2: every guard must hold
func TestExecutes(t *testing.T) {
	l := []api.Unit{table(0), gate(nil, yes(0)), table(1, yes(0), no(1)), gate(nil, no(0)), table(-5, yes(2), yes(2)), table(2, yes(2), no(2))}
	for _, x := range []struct {
		bits string
		i    int
		want bool
	}{
		{"", 0, true},
		{"111111", 0, true},
		{"000000", 1, false},
		{"011111", 1, false},
		{"100000", 1, true},
		{"1", 1, true},
		{"", 1, false}, // a bit that is not there is false
		{"100000", 2, true},
		{"1", 2, true},
		{"110000", 2, false},
		{"000000", 2, false},
		{"010000", 2, false},
		{"", 2, false},
		{"", 3, true},
		{"011111", 3, true},
		{"100000", 3, false},
		{"001", 4, true},
		{"11", 4, false},
		{"001", 5, false}, // its guards contradict each other
		{"000", 5, false},
		{"00011111111", 4, false}, // a bit behind the units
		{"00111111111", 4, true},
	} {
		expectExecutes(t, "a unit", l, bitsOf(x.bits), x.i, x.want)
	}
	expectExecutes(t, "no bits", l, nil, 3, true)
	expectExecutes(t, "a list that ends ahead of its memory", l[:2], bitsOf("1"), 1, true)
	expectExecutes(t, "a unit behind the length of the list", l[:2], bitsOf("1"), 2, false)
}

// P32.2, P32.3: units that are not there
func TestWrongUnits(t *testing.T) {
	l := []api.Unit{table(0, yes(0), no(0)), table(1, yes(0), no(0))}
	for _, i := range append([]int{2}, wrongNumbers...) {
		expectExecutes(t, "a unit that is not there", []api.Unit{table(0), table(1)}, bitsOf("11"), i, false)
		expectExecutes(t, "a unit of no list", nil, nil, i, false)
		expectExclusive(t, "a unit that is not there", l, i, 0, false)
		expectExclusive(t, "a unit that is not there", l, i, 1, false)
		expectExclusive(t, "units that are not there", l, i, i, false)
		expectExclusive(t, "units of no list", nil, i, 0, false)
	}
	expectExecutes(t, "unit 0 of no list", nil, bitsOf("1"), 0, false)
	expectExclusive(t, "unit 0 of no list", nil, 0, 0, false)
	expectExclusive(t, "a unit behind the length of the list", l[:1], 0, 1, false)
}

// P32.2, P32.3: guards that refer to units that are not there
func TestWrongGuards(t *testing.T) {
	for _, n := range append([]int{2, 3}, wrongNumbers...) {
		l := []api.Unit{table(0, yes(n)), table(1, no(n))}
		expectExecutes(t, "a guard of a unit that is not there", l, bitsOf("11"), 0, false)
		expectExecutes(t, "a guard of a unit that is not there", l, bitsOf("11"), 1, true)
		expectExclusive(t, "guards of a unit that is not there", l, 0, 1, true)
		expectExclusive(t, "a guard of a unit that is not there", l, 0, 0, false)
	}
	self := []api.Unit{table(0, yes(0)), table(1, no(2)), table(2)}
	expectExecutes(t, "a unit that guards itself", self, bitsOf("1"), 0, true)
	expectExecutes(t, "a unit that guards itself", self, bitsOf("0"), 0, false)
	expectExecutes(t, "a guard of a later unit", self, bitsOf("110"), 1, true)
	expectExecutes(t, "a guard of a later unit", self, bitsOf("111"), 1, false)
}

// P32.3: the same unit and different wants
func TestExclusive(t *testing.T) {
	for _, x := range []struct {
		what string
		a, b []api.Guard
		want bool
	}{
		{"no guards", nil, nil, false},
		{"one guard", guards(yes(3)), nil, false},
		{"the same guard", guards(yes(3)), guards(yes(3)), false},
		{"the other want", guards(yes(3)), guards(no(3)), true},
		{"another unit", guards(yes(3)), guards(no(4)), false},
		{"another unit and want", guards(no(3)), guards(yes(4)), false},
		{"units that agree in their low bits", guards(yes(3)), guards(no(3 + 1<<32)), false},
		{"the outermost differs", guards(yes(1), yes(2), no(3)), guards(no(1), yes(4)), true},
		{"the innermost differs", guards(yes(1), yes(2), no(3)), guards(yes(1), yes(2), yes(3)), true},
		{"a guard at another place", guards(yes(1), yes(2), no(3)), guards(yes(3), yes(1)), true},
		{"one inside the other", guards(yes(1), yes(2)), guards(yes(1), yes(2), no(3)), false},
		{"side by side", guards(yes(1), yes(2)), guards(yes(1), no(3), no(4)), false},
		{"wants that differ at other units", guards(yes(1), no(2)), guards(yes(3), no(4)), false},
		{"a unit without sense", guards(yes(1), no(1)), guards(yes(1)), true},
	} {
		l := []api.Unit{table(0, x.a...), table(9), table(0, x.b...)}
		expectExclusive(t, x.what, l, 0, 2, x.want)
		expectExclusive(t, x.what+": with a unit without guards", l, 0, 1, false)
		l[0], l[2] = gate(nil, x.a...), gate(nil, x.b...)
		expectExclusive(t, x.what+", of gates", l, 2, 0, x.want)
	}
	l := []api.Unit{table(0, yes(1), no(1)), table(0, yes(1), no(2)), table(0)}
	expectExclusive(t, "a unit without sense and itself", l, 0, 0, true)
	expectExclusive(t, "a unit and itself", l, 1, 1, false)
	expectExclusive(t, "a unit without guards and itself", l, 2, 2, false)
}

// randomUnits answers any units.
func randomUnits(r *random) []api.Unit {
	var l []api.Unit
	for range r.below(7) {
		u := table(r.below(5) - 2)
		for range r.below(5) {
			u.Guards = append(u.Guards, api.Guard{Unit: r.below(9) - 1, Want: r.chance(2)})
		}
		l = append(l, u)
	}
	return l
}

func randomBits(r *random, n int) []bool {
	l := make([]bool, n)
	for i := range l {
		l[i] = r.chance(2)
	}
	return l
}

// expectExclusion is P32.5.
func expectExclusion(t *testing.T, l []api.Unit, bits []bool) {
	t.Helper()
	for i := range l {
		for j := range l {
			if units.Exclusive(l, i, j) && units.Executes(l, bits, i) && units.Executes(l, bits, j) {
				t.Errorf("%d and %d of %+v are exclusive and both execute for %v", i, j, l, bits)
			}
		}
	}
}

// P32.2, P32.3, P32.5: random units and bits, held against the words of the promises
func TestRandomGuards(t *testing.T) {
	r := random(322)
	execute, exclude := map[bool]int{}, map[bool]int{}
	for range 3000 {
		l := randomUnits(&r)
		bits := randomBits(&r, r.below(10))
		for i := -1; i <= len(l); i++ {
			want := wantExecutes(l, bits, i)
			execute[want]++
			expectExecutes(t, "random units", l, bits, i, want)
			for j := -1; j <= i; j++ {
				want := wantExclusive(l, i, j)
				exclude[want]++
				expectExclusive(t, "random units", l, i, j, want)
			}
		}
		expectExclusion(t, l, bits)
		if t.Failed() {
			return
		}
	}
	if execute[true] < 3000 || execute[false] < 3000 || exclude[true] < 3000 || exclude[false] < 3000 {
		t.Errorf("Executes answers %v, Exclusive %v", execute, exclude)
	}
}

// visited answers the units that Walk visits if it is given their result bits. Each table and condition has one unit.
func visited(c nodes, l []api.Unit, bits []bool) []int {
	var at []int
	visit := func(is func(u api.Unit) bool) bool {
		i := slices.IndexFunc(l, is)
		at = append(at, i)
		return i < len(bits) && bits[i]
	}
	control.Walk(c, func(table int) bool {
		return visit(func(u api.Unit) bool { return u.Table == table })
	}, func(cond []api.ExprNode) bool {
		return visit(func(u api.Unit) bool { return u.Table == -1 && slices.Equal(u.Cond, cond) })
	})
	return at
}

func executing(l []api.Unit, bits []bool) []int {
	var at []int
	for i := range l {
		if units.Executes(l, bits, i) {
			at = append(at, i)
		}
	}
	return at
}

// P32.5, P32.6: random control flows, with any result bits and with too few of them
func TestWalk(t *testing.T) {
	r := random(326)
	some, all := 0, 0
	for range 600 {
		p := randomProgram(&r)
		l := units.Build(p)
		for range 20 {
			bits := randomBits(&r, pick(&r, []int{len(l), len(l), r.below(len(l) + 1)}))
			got, want := visited(p.Control, l, bits), executing(l, bits)
			if !slices.Equal(got, want) {
				t.Errorf("Walk of %+v visits %v for %v; %v execute", p.Control, got, bits, want)
				return
			}
			some, all = some+len(got), all+len(l)
			expectExclusion(t, l, bits)
		}
	}
	if some < all/4 || some > all*3/4 {
		t.Errorf("%d of %d units are visited", some, all)
	}
}

// P32.5, P32.6: all result bits of a control flow
func TestWalkOfAllBits(t *testing.T) {
	p := sample(hit(0, list(when(cond(1), list(apply(1)), list(hit(2, list(apply(3)), list(apply(4)))))), list(apply(5))), when(cond(2), nil, list(apply(6))), apply(7))
	l := units.Build(p)
	for n := range 1 << len(l) {
		bits := make([]bool, len(l))
		for i := range bits {
			bits[i] = n>>i&1 == 1
		}
		if got, want := visited(p.Control, l, bits), executing(l, bits); !slices.Equal(got, want) {
			t.Errorf("Walk visits %v for %v; %v execute", got, bits, want)
		}
		expectExclusion(t, l, bits)
	}
}

// P32.2, P32.3: far more guards than a unit has
func TestManyGuards(t *testing.T) {
	const n = 200000
	up, down := make([]api.Guard, n), make([]api.Guard, n)
	for i := range n {
		up[i], down[i] = yes(i), yes(n-1-i)
	}
	l := []api.Unit{table(0, up...), table(1, down...)}
	bits := slices.Repeat([]bool{true}, n)
	if units.Exclusive(l, 0, 1) || !units.Executes(l, bits, 0) {
		t.Error("many guards that agree")
	}
	l[1].Guards[n/2].Want, bits[7] = false, false
	if !units.Exclusive(l, 0, 1) || units.Executes(l, bits, 0) {
		t.Error("many guards of which one does not agree")
	}
}
