package table_test

import (
	"fmt"
	"math"
	"slices"
	"strconv"
	"strings"
	"testing"

	"patchbay/action"
	"patchbay/api"
	"patchbay/env"
	"patchbay/table"
)

var wrongWidths = []int{math.MinInt, -32, -8, -1, 0, 33, 64, 1 << 32, 1<<32 + 8, math.MaxInt}

var wrongNames = []string{"", "1", "1a", "_", "_a", "a-b", "a b", " a", "a ", "a.b", "a\n", "a\x00", "\xff", "é", "aé", "seventeen_letters"}

var wrongKinds = []int{math.MinInt, -1, 0, 4, 5, 257, 1 << 32, 1<<32 + 1, math.MaxInt}

var wrongNumbers = []int{math.MinInt, -1 << 32, -2, -1, 99, 1 << 32, math.MaxInt}

var wrongSizes = []int{math.MinInt, -256, -1, 0, 257, 258, 1 << 32, 1<<32 + 1, math.MaxInt}

var allKinds = []int{api.MatchExact, api.MatchLPM, api.MatchTernary}

// random is a row of numbers that look like no rule, the same ones for the same seed.
type random uint64

func (r *random) bits() uint32 {
	*r = *r*6364136223846793005 + 1442695040888963407
	return uint32(*r >> 32)
}

func (r *random) below(n int) int { return int(r.bits()>>4) % n }

func (r *random) chance(n int) bool { return r.below(n) == 0 }

func pick[T any](r *random, l []T) T { return l[r.below(len(l))] }

func greatest(w int) uint32 { return uint32(uint64(1)<<w - 1) }

func ref(header, field int) api.FieldRef { return api.FieldRef{Header: header, Field: field} }

func meta(field int) api.FieldRef { return ref(-1, field) }

func widths(l ...int) []api.Field {
	var fields []api.Field
	for i, w := range l {
		fields = append(fields, api.Field{Name: "f" + strconv.Itoa(i), Width: w})
	}
	return fields
}

func exact(r api.FieldRef) api.TableKey { return api.TableKey{Field: r, Kind: api.MatchExact} }

func lpm(r api.FieldRef) api.TableKey { return api.TableKey{Field: r, Kind: api.MatchLPM} }

func ternary(r api.FieldRef) api.TableKey { return api.TableKey{Field: r, Kind: api.MatchTernary} }

func call(action int, args ...uint32) api.ActionCall {
	return api.ActionCall{Action: action, Args: args}
}

// sample is a program of three tables, the middle one with the given keys. Its 20 actions have no parameters, but for
// action 1 with one of 8 bits, action 2 with three, and action 3 with one of no valid width.
func sample(keys ...api.TableKey) api.Program {
	actions := make([]api.Action, 20)
	actions[1] = api.Action{Name: "one", Params: widths(8)}
	actions[2] = api.Action{Name: "three", Params: widths(1, 32, 16)}
	actions[3] = api.Action{Name: "wrong", Params: widths(0)}
	return api.Program{
		Headers:  []api.Header{{Name: "a", Fields: widths(8, 4, 4)}, {Name: "b", Fields: widths(16, 32, 0)}, {Name: "c"}},
		Metadata: widths(8, 8, 1, 33, 32, 31),
		Actions:  actions,
		Tables: []api.Table{
			{Name: "first", Actions: []int{0}, Size: 1},
			{Name: "t", Keys: keys, Actions: []int{4, 1, 0, 2}, Default: call(1, 255), Size: 16},
			{Name: "2", Actions: []int{0}, Size: 1},
		},
	}
}

// changedBy answers a program whose table 1 is changed.
func changedBy(change func(x *api.Table), keys ...api.TableKey) api.Program {
	p := sample(keys...)
	change(&p.Tables[1])
	return p
}

// text writes a program or an environment with what lies behind the lengths of its lists.
func text(v any) string {
	switch x := v.(type) {
	case api.Program:
		var s strings.Builder
		fmt.Fprintf(&s, "%+v", x)
		for _, y := range x.Tables[:cap(x.Tables)] {
			fmt.Fprint(&s, y.Keys[:cap(y.Keys)], y.Actions[:cap(y.Actions)], y.Default.Args[:cap(y.Default.Args)])
		}
		return s.String()
	case api.Env:
		return fmt.Sprint(x.Valid[:cap(x.Valid)], x.Fields[:cap(x.Fields)], x.Meta[:cap(x.Meta)], x.Payload[:cap(x.Payload)])
	}
	return fmt.Sprintf("%+v", v)
}

// filled answers an environment in which every element of p has the value v.
func filled(p api.Program, v uint32) api.Env {
	e := env.New(p)
	for h := range e.Valid {
		e.Valid[h] = true
		for f := range e.Fields[h] {
			e.Fields[h][f] = v
		}
	}
	for i := range e.Meta {
		e.Meta[i] = v
	}
	return e
}

// expectNothing expects what P17.2 and P17.3 tell of an invalid table.
func expectNothing(t *testing.T, p api.Program, i int) {
	t.Helper()
	if k, w, b, key := table.Kind(p, i), table.Widths(p, i), table.Bits(p, i), table.Key(p, i, filled(p, 1)); k != 0 || len(w) != 0 || b != 0 || len(key) != 0 {
		t.Errorf("of the invalid table %d Kind = %d, Widths = %v, Bits = %d, Key = %v", i, k, w, b, key)
	}
	for a := -1; a <= len(p.Actions) && a <= 20; a++ {
		if table.Allows(p, i, a) {
			t.Errorf("the invalid table %d allows action %d", i, a)
		}
	}
}

func expectCheck(t *testing.T, p api.Program, i, at int, want api.Errno) {
	t.Helper()
	before := text(p)
	if n, e := table.Check(p, i); n != at || e != want {
		t.Errorf("Check(%+v, %d) = %d, %v, want %d, %v", p.Tables, i, n, e, at, want)
	}
	if want != api.OK {
		expectNothing(t, p, i)
	}
	if text(p) != before {
		t.Error("the program is changed")
	}
}

// P17.1: which tables there are
func TestCheckNumber(t *testing.T) {
	p := sample()
	expectCheck(t, p, 0, 0, api.OK)
	expectCheck(t, p, 1, 0, api.OK)
	expectCheck(t, p, 2, -1, api.ErrName)
	for _, i := range append([]int{3}, wrongNumbers...) {
		expectCheck(t, p, i, -1, api.ErrNotFound)
		expectCheck(t, api.Program{}, i, -1, api.ErrNotFound)
	}
	expectCheck(t, api.Program{}, 0, -1, api.ErrNotFound)
	p.Tables = p.Tables[:1]
	expectCheck(t, p, 1, -1, api.ErrNotFound)
}

// spoiled makes everything of a table wrong, but for its name.
func spoiled(x *api.Table) {
	x.Keys = make([]api.TableKey, 7)
	x.Actions = make([]int, 17)
	x.Default = call(99)
	x.Size = 0
}

// P17.1: the name
func TestCheckName(t *testing.T) {
	for _, name := range wrongNames {
		expectCheck(t, changedBy(func(x *api.Table) { x.Name = name }, exact(meta(0))), 1, -1, api.ErrName)
		expectCheck(t, changedBy(func(x *api.Table) { spoiled(x); x.Name = name }), 1, -1, api.ErrName)
	}
	for _, name := range []string{"a", "Z", "first", "one", "f0", "sixteen_letters_"} {
		expectCheck(t, changedBy(func(x *api.Table) { x.Name = name }, exact(meta(0))), 1, 0, api.OK)
	}
}

// P17.1: how many keys and actions there may be
func TestCheckLimits(t *testing.T) {
	for _, keys := range []int{0, 1, 5, 6, 7, 8, 500} {
		for _, actions := range []int{1, 2, 15, 16, 17, 18, 500} {
			p := sample(slices.Repeat([]api.TableKey{exact(meta(2))}, keys)...)
			p.Actions = make([]api.Action, 500)
			p.Tables[1].Actions = nil
			for a := range actions {
				p.Tables[1].Actions = append(p.Tables[1].Actions, 499-a)
			}
			p.Tables[1].Default = call(499)
			if keys > 6 || actions > 16 {
				expectCheck(t, p, 1, -1, api.ErrLimit)
				continue
			}
			expectCheck(t, p, 1, 0, api.OK)
		}
	}
	expectCheck(t, changedBy(spoiled), 1, -1, api.ErrLimit)
	expectCheck(t, changedBy(func(x *api.Table) { x.Keys, x.Size = make([]api.TableKey, 7), 0 }), 1, -1, api.ErrLimit)
	expectCheck(t, changedBy(func(x *api.Table) { x.Actions, x.Size = make([]int, 17), 0 }), 1, -1, api.ErrLimit)
}

// P17.1: the number of rows
func TestCheckSize(t *testing.T) {
	for size := 1; size <= 256; size++ {
		expectCheck(t, changedBy(func(x *api.Table) { x.Size = size }), 1, 0, api.OK)
	}
	for _, size := range wrongSizes {
		expectCheck(t, changedBy(func(x *api.Table) { x.Size = size }), 1, -1, api.ErrRange)
		expectCheck(t, changedBy(func(x *api.Table) { x.Size, x.Actions = size, nil }, make([]api.TableKey, 6)...), 1, -1, api.ErrRange)
	}
}

// expectKey expects an error of a key wherever among the keys it stands, and whatever stands behind it.
func expectKey(t *testing.T, k api.TableKey, want api.Errno) {
	t.Helper()
	for before := range api.MaxKeys {
		keys := append(slices.Repeat([]api.TableKey{exact(meta(2))}, before), k)
		expectCheck(t, sample(keys...), 1, before, want)
		if before < 4 {
			keys = append(keys, api.TableKey{Field: meta(0)}, exact(ref(9, 9)))
			expectCheck(t, sample(keys...), 1, before, want)
			expectCheck(t, changedBy(func(x *api.Table) { x.Actions = nil }, keys...), 1, before, want)
		}
	}
}

// P17.1: the fields of the keys
func TestCheckFields(t *testing.T) {
	missing := []api.FieldRef{ref(0, 3), ref(1, 3), ref(2, 0), ref(3, 0), meta(6)}
	for _, n := range wrongNumbers {
		missing = append(missing, ref(0, n), meta(n))
		if n != -1 {
			missing = append(missing, ref(n, 0))
		}
	}
	ofNoWidth := []api.FieldRef{ref(1, 2), meta(3)}
	for _, r := range append(missing, ofNoWidth...) {
		for _, kind := range append(slices.Clone(allKinds), wrongKinds...) {
			expectKey(t, api.TableKey{Field: r, Kind: kind}, api.ErrNotFound)
		}
	}
	for w := 1; w <= 32; w++ {
		p := sample(exact(meta(0)), lpm(ref(0, 0)))
		p.Metadata[0].Width, p.Headers[0].Fields[0].Width = w, w
		expectCheck(t, p, 1, 0, api.OK)
	}
	for _, w := range wrongWidths {
		p := sample(exact(meta(1)), exact(meta(0)))
		p.Metadata[0].Width = w
		expectCheck(t, p, 1, 1, api.ErrNotFound)
		p = sample(exact(ref(0, 1)), exact(ref(0, 0)))
		p.Headers[0].Fields[0].Width = w
		expectCheck(t, p, 1, 1, api.ErrNotFound)
	}
	p := sample(exact(meta(5)))
	p.Metadata = p.Metadata[:5]
	expectCheck(t, p, 1, 0, api.ErrNotFound)
}

// P17.1: the kinds of the keys
func TestCheckKinds(t *testing.T) {
	for _, kind := range wrongKinds {
		for _, r := range []api.FieldRef{meta(0), meta(2), meta(4), ref(0, 0), ref(1, 1)} {
			expectKey(t, api.TableKey{Field: r, Kind: kind}, api.ErrKind)
		}
	}
	for _, kind := range allKinds {
		expectCheck(t, sample(api.TableKey{Field: meta(0), Kind: kind}), 1, 0, api.OK)
	}
}

// P17.1: how many LPM keys there may be
func TestCheckPrefixKeys(t *testing.T) {
	for set := range 64 {
		n := 0
		keys := make([]api.TableKey, 6)
		for i := range keys {
			keys[i] = []api.TableKey{exact(meta(2)), ternary(ref(0, 1))}[i%2]
			if set>>i&1 == 1 {
				keys[i] = lpm(meta(2))
				n++
			}
		}
		if n > 1 {
			expectCheck(t, sample(keys...), 1, -2, api.ErrDuplicate)
			expectCheck(t, changedBy(func(x *api.Table) { x.Actions = nil }, keys...), 1, -2, api.ErrDuplicate)
			continue
		}
		expectCheck(t, sample(keys...), 1, 0, api.OK)
	}
	wide := []api.TableKey{lpm(meta(4)), exact(meta(4)), lpm(meta(4))}
	expectCheck(t, sample(wide...), 1, -2, api.ErrDuplicate)
	expectCheck(t, sample(append(wide, exact(meta(3)))...), 1, 3, api.ErrNotFound)
}

// P17.1: the total width of the keys
func TestCheckTotalWidth(t *testing.T) {
	for a := 1; a <= 32; a++ {
		for b := 1; b <= 32; b++ {
			p := sample(exact(meta(0)), ternary(meta(1)), lpm(ref(0, 0)))
			p.Metadata[0].Width, p.Metadata[1].Width, p.Headers[0].Fields[0].Width = 32, a, b
			if 32+a+b <= 64 {
				expectCheck(t, p, 1, 0, api.OK)
				continue
			}
			expectCheck(t, p, 1, -2, api.ErrWidth)
		}
	}
	six := slices.Repeat([]api.TableKey{exact(meta(4))}, 6)
	expectCheck(t, sample(six...), 1, -2, api.ErrWidth)
	expectCheck(t, sample(six[:2]...), 1, 0, api.OK)
	expectCheck(t, sample(append(slices.Clone(six[:2]), exact(meta(2)))...), 1, -2, api.ErrWidth)
	expectCheck(t, changedBy(func(x *api.Table) { x.Actions = nil }, six...), 1, -2, api.ErrWidth)
}

// P17.1: the actions, in order, and then the default action
func TestCheckActions(t *testing.T) {
	for _, c := range []struct {
		actions []int
		def     api.ActionCall
		want    api.Errno
	}{
		{[]int{0}, call(0), api.OK},
		{[]int{19, 0}, call(19), api.OK},
		{[]int{5, 4, 3, 2, 1, 0}, call(2, 1, math.MaxUint32, 65535), api.OK},
		{nil, call(0), api.ErrNotFound},
		{[]int{}, call(99), api.ErrNotFound},
		{[]int{1}, call(0), api.ErrNotFound},
		{[]int{0, 1}, call(2), api.ErrNotFound},
		{[]int{0, 1}, call(-1), api.ErrNotFound},
		{[]int{0, 1}, call(20), api.ErrNotFound},
		{[]int{0, 20}, call(0), api.ErrNotFound},
		{[]int{20}, call(20), api.ErrNotFound},
		{[]int{-1}, call(-1), api.ErrNotFound},
		{[]int{0, 0}, call(0), api.ErrDuplicate},
		{[]int{0, 1, 0}, call(1), api.ErrDuplicate},
		{[]int{0, 0, 20}, call(0), api.ErrDuplicate},
		{[]int{0, 20, 0}, call(0), api.ErrNotFound},
		{[]int{20, 20}, call(0), api.ErrNotFound},
		{[]int{-1, -1}, call(0), api.ErrNotFound},
		{[]int{0, 0}, call(1), api.ErrDuplicate},
		{[]int{0, 1}, call(0, 1), api.ErrArg},
		{[]int{0, 1}, call(1), api.ErrArg},
		{[]int{0, 1}, call(1, 1, 2), api.ErrArg},
		{[]int{0, 1}, call(1, 256), api.ErrRange},
		{[]int{0, 1}, call(1, 256, 0), api.ErrArg},
		{[]int{1, 2}, call(2, 2, 0, 0), api.ErrRange},
		{[]int{1, 2}, call(2, 0, 0, 65536), api.ErrRange},
		{[]int{3}, call(3, 0), api.ErrRange},
		{[]int{3}, call(3), api.ErrArg},
		{[]int{3, 0}, call(0), api.OK},
		{[]int{1, 1}, call(1, 256), api.ErrDuplicate},
		{[]int{2}, call(1, 256), api.ErrNotFound},
	} {
		at := -3
		if c.want == api.OK {
			at = 0
		}
		expectCheck(t, changedBy(func(x *api.Table) { x.Actions, x.Default = c.actions, c.def }), 1, at, c.want)
		expectCheck(t, changedBy(func(x *api.Table) { x.Actions, x.Default = c.actions, c.def }, lpm(meta(4)), ternary(meta(4))), 1, at, c.want)
	}
	for _, a := range append([]int{20}, wrongNumbers...) {
		for i := range 16 {
			p := changedBy(func(x *api.Table) {
				x.Actions, x.Default = []int{0, 1, 2, 3, 4, 5, 6, 7, 8, 9, 10, 11, 12, 13, 14, 15}, call(0)
				x.Actions[i] = a
			})
			expectCheck(t, p, 1, -3, api.ErrNotFound)
			for j := range i {
				p.Tables[1].Actions[i] = j
				expectCheck(t, p, 1, -3, api.ErrDuplicate)
			}
		}
	}
}

// P17.1: what lies behind the length of a list doesn't count
func TestCheckBehindLengths(t *testing.T) {
	p := sample(append(slices.Repeat([]api.TableKey{exact(meta(2))}, 6), api.TableKey{}, exact(ref(9, 9)))...)
	x := &p.Tables[1]
	x.Keys = x.Keys[:6]
	x.Actions = []int{1, 0, 1, 99}[:2]
	x.Default.Args = []uint32{1, 2}[:1]
	expectCheck(t, p, 1, 0, api.OK)
	if table.Allows(p, 1, 99) || table.Bits(p, 1) != 6 {
		t.Error("elements behind a length are read")
	}
	x.Actions = x.Actions[:1]
	if table.Allows(p, 1, 0) {
		t.Error("an action behind the length is allowed")
	}
	p.Actions = p.Actions[:1]
	expectCheck(t, p, 1, -3, api.ErrNotFound)
}

// fault is an error that a table may have, and where.
type fault struct {
	has  bool
	at   int
	code api.Errno
}

// widthOf answers the width of a field, or 0 if it is missing or of no valid width.
func widthOf(p api.Program, r api.FieldRef) int {
	lists := map[int][]api.Field{-1: p.Metadata}
	for h, x := range p.Headers {
		lists[h] = x.Fields
	}
	for f, x := range lists[r.Header] {
		if f == r.Field && x.Width >= 1 && x.Width <= 32 {
			return x.Width
		}
	}
	return 0
}

// faults lists all that may be wrong with a table of a valid name, in the document's order.
func faults(p api.Program, x api.Table) []fault {
	l := []fault{
		{len(x.Keys) > 6 || len(x.Actions) > 16, -1, api.ErrLimit},
		{x.Size < 1 || x.Size > 256, -1, api.ErrRange},
	}
	prefixes, total := 0, 0
	for i, k := range x.Keys {
		w := widthOf(p, k.Field)
		l = append(l, fault{w == 0, i, api.ErrNotFound}, fault{!slices.Contains(allKinds, k.Kind), i, api.ErrKind})
		total += w
		if k.Kind == 2 {
			prefixes++
		}
	}
	l = append(l, fault{prefixes > 1, -2, api.ErrDuplicate}, fault{total > 64, -2, api.ErrWidth})
	for i, a := range x.Actions {
		l = append(l, fault{a < 0 || a >= len(p.Actions), -3, api.ErrNotFound}, fault{slices.Contains(x.Actions[:i], a), -3, api.ErrDuplicate})
	}
	e := action.CheckCall(p, x.Default)
	return append(l, fault{!slices.Contains(x.Actions, x.Default.Action), -3, api.ErrNotFound}, fault{e != api.OK, -3, e})
}

func firstOf(l []fault) (int, api.Errno) {
	for _, f := range l {
		if f.has {
			return f.at, f.code
		}
	}
	return 0, api.OK
}

// randomTable answers a table that has a fault now and then.
func randomTable(r *random, p api.Program) api.Table {
	fields := []api.FieldRef{ref(0, 0), ref(0, 1), ref(1, 0), ref(1, 1), meta(0), meta(2), meta(4), meta(5)}
	x := api.Table{Name: "t", Size: 1 + r.below(256), Default: call(0)}
	for range r.below(6) {
		x.Keys = append(x.Keys, api.TableKey{Field: pick(r, fields), Kind: pick(r, []int{1, 1, 1, 2, 3, 3})})
	}
	for a := range len(p.Actions) {
		if r.chance(3) || a == 0 {
			x.Actions = append(x.Actions, a)
		}
	}
	for i := range x.Keys {
		if r.chance(25) {
			x.Keys[i].Field = pick(r, []api.FieldRef{ref(1, 2), ref(2, 0), ref(3, 0), ref(-2, 0), meta(3), meta(6), ref(0, -1)})
		}
		if r.chance(25) {
			x.Keys[i].Kind = pick(r, wrongKinds)
		}
	}
	for i := range x.Actions {
		if r.chance(30) {
			x.Actions[i] = pick(r, []int{-1, 20, 0, 1, 2})
		}
	}
	if r.chance(20) {
		x.Size = pick(r, wrongSizes)
	}
	if r.chance(3) {
		x.Default = pick(r, []api.ActionCall{call(1, 255), call(1, 256), call(2, 1, 2, 3), call(2), call(3, 0), call(7), call(20)})
	}
	return x
}

// P17.1 to P17.3: random tables, held against the lists of their faults
func TestRandomTables(t *testing.T) {
	r := random(17)
	valid := 0
	for range 8000 {
		p := sample()
		p.Tables[1] = randomTable(&r, p)
		at, want := firstOf(faults(p, p.Tables[1]))
		expectCheck(t, p, 1, at, want)
		if want == api.OK {
			expectAnswers(t, &r, p, 1)
			valid++
		}
		if t.Failed() {
			return
		}
	}
	if valid < 1000 || valid > 7000 {
		t.Errorf("%d valid tables", valid)
	}
}

// kindOf answers the kind of a valid table by P17.2.
func kindOf(x api.Table) int {
	for _, kind := range []int{api.MatchTernary, api.MatchLPM} {
		for _, k := range x.Keys {
			if k.Kind == kind {
				return kind
			}
		}
	}
	return api.MatchExact
}

// elementOf answers what env.Get promises of an environment.
func elementOf(e api.Env, r api.FieldRef) uint32 {
	lists := map[int][]uint32{-1: e.Meta}
	for h, l := range e.Fields {
		if h < len(e.Valid) && e.Valid[h] {
			lists[h] = l
		}
	}
	for f, v := range lists[r.Header] {
		if f == r.Field {
			return v
		}
	}
	return 0
}

// randomEnv answers an environment that fits p in its shape or doesn't, with values of any size.
func randomEnv(r *random, p api.Program) api.Env {
	e := filled(p, 0)
	lists := append([][]uint32{e.Meta}, e.Fields...)
	for _, l := range lists {
		for i := range l {
			l[i] = r.bits() >> r.below(32)
		}
	}
	for h := range e.Valid {
		e.Valid[h] = !r.chance(4)
	}
	switch r.below(6) {
	case 0:
		e.Valid = e.Valid[:r.below(len(e.Valid)+1)]
	case 1:
		e.Fields = e.Fields[:r.below(len(e.Fields)+1)]
	case 2:
		h := r.below(len(e.Fields))
		e.Fields[h] = e.Fields[h][:r.below(len(e.Fields[h])+1)]
	case 3:
		e.Meta = e.Meta[:r.below(len(e.Meta)+1)]
	}
	return e
}

// expectAnswers holds all that is asked of a valid table against the table itself.
func expectAnswers(t *testing.T, r *random, p api.Program, i int) {
	t.Helper()
	x, total := p.Tables[i], 0
	var want []int
	for _, k := range x.Keys {
		want = append(want, widthOf(p, k.Field))
		total += widthOf(p, k.Field)
	}
	if k, w, b := table.Kind(p, i), table.Widths(p, i), table.Bits(p, i); k != kindOf(x) || !slices.Equal(w, want) || b != total {
		t.Errorf("of %+v Kind = %d, Widths = %v, Bits = %d", x, k, w, b)
	}
	for _, e := range []api.Env{randomEnv(r, p), randomEnv(r, p), filled(p, math.MaxUint32), env.New(p), {}} {
		before := text(p) + text(e)
		key := table.Key(p, i, e)
		if len(key) != len(want) {
			t.Fatalf("Key of %+v = %v", x, key)
		}
		for j, k := range x.Keys {
			if v := uint32(uint64(elementOf(e, k.Field)) % (1 << want[j])); key[j] != v {
				t.Errorf("Key of %+v in %v = %v, want %d at %d", x, e, key, v, j)
			}
		}
		if text(p)+text(e) != before {
			t.Error("Key changes its arguments")
		}
	}
	for _, a := range []int{math.MinInt, -1, 0, 1, 2, 3, 4, 5, 6, 7, 8, 9, 10, 11, 12, 13, 14, 15, 16, 17, 18, 19, 20, 1 << 32, math.MaxInt} {
		if table.Allows(p, i, a) != slices.Contains(x.Actions, a) {
			t.Errorf("Allows of %+v, action %d, = %v", x, a, table.Allows(p, i, a))
		}
	}
}

// P17.2: the kind, for all lists of up to four keys
func TestKind(t *testing.T) {
	fields := []api.FieldRef{meta(0), ref(0, 1), meta(1), ref(0, 0)}
	for n := range 5 {
		for code := range 81 {
			var keys []api.TableKey
			for i := range n {
				keys = append(keys, api.TableKey{Field: fields[i], Kind: 1 + code/[]int{1, 3, 9, 27}[i]%3})
			}
			p := sample(keys...)
			if countOf(keys, api.MatchLPM) > 1 {
				expectCheck(t, p, 1, -2, api.ErrDuplicate)
			} else if k := table.Kind(p, 1); k != kindOf(p.Tables[1]) {
				t.Errorf("Kind of %v = %d", keys, k)
			}
		}
	}
}

func countOf(keys []api.TableKey, kind int) int {
	n := 0
	for _, k := range keys {
		if k.Kind == kind {
			n++
		}
	}
	return n
}

// P17.2: the widths are those that are declared, and their sum
func TestWidths(t *testing.T) {
	p := sample(exact(meta(5)), lpm(ref(0, 1)), ternary(ref(1, 0)), exact(meta(2)), ternary(ref(0, 1)), exact(meta(0)))
	if w, b := table.Widths(p, 1), table.Bits(p, 1); !slices.Equal(w, []int{31, 4, 16, 1, 4, 8}) || b != 64 {
		t.Errorf("Widths = %v, Bits = %d", w, b)
	}
	if k, w, b := table.Kind(p, 0), table.Widths(p, 0), table.Bits(p, 0); k != api.MatchExact || len(w) != 0 || b != 0 {
		t.Errorf("without keys Kind = %d, Widths = %v, Bits = %d", k, w, b)
	}
	for w := 1; w <= 32; w++ {
		p := sample(exact(meta(0)), ternary(ref(0, 0)))
		p.Metadata[0].Width, p.Headers[0].Fields[0].Width = w, 33-w
		if l, b := table.Widths(p, 1), table.Bits(p, 1); !slices.Equal(l, []int{w, 33 - w}) || b != 33 {
			t.Errorf("Widths = %v, Bits = %d", l, b)
		}
	}
}

// P17.3: each width, with values that it holds and such as it doesn't
func TestKeyReduces(t *testing.T) {
	for w := 1; w <= 32; w++ {
		p := sample(ternary(meta(0)), exact(ref(0, 0)))
		p.Metadata[0].Width, p.Headers[0].Fields[0].Width = w, w
		for _, v := range []uint32{0, 1, greatest(w), greatest(w) + 1, greatest(w) - 1, greatest(w)<<1 + 1, 0x12345678, 0x80000000, math.MaxUint32} {
			want := []uint32{v & greatest(w), v & greatest(w)}
			if k := table.Key(p, 1, filled(p, v)); !slices.Equal(k, want) {
				t.Errorf("Key of width %d at %#x = %v", w, v, k)
			}
		}
	}
}

// P17.3: the fields of invalid headers are 0, as are those that the environment lacks
func TestKeyOfLacking(t *testing.T) {
	p := sample(exact(ref(0, 2)), lpm(ref(1, 0)), ternary(meta(1)))
	whole := filled(p, 3)
	for _, c := range []struct {
		change func(e *api.Env)
		want   []uint32
	}{
		{func(e *api.Env) {}, []uint32{3, 3, 3}},
		{func(e *api.Env) { e.Valid[0] = false }, []uint32{0, 3, 3}},
		{func(e *api.Env) { e.Valid = e.Valid[:1] }, []uint32{3, 0, 3}},
		{func(e *api.Env) { e.Valid = nil }, []uint32{0, 0, 3}},
		{func(e *api.Env) { e.Fields[0] = e.Fields[0][:2] }, []uint32{0, 3, 3}},
		{func(e *api.Env) { e.Fields = e.Fields[:1] }, []uint32{3, 0, 3}},
		{func(e *api.Env) { e.Meta = e.Meta[:1] }, []uint32{3, 3, 0}},
		{func(e *api.Env) { *e = api.Env{} }, []uint32{0, 0, 0}},
	} {
		e := env.Clone(whole)
		c.change(&e)
		if k := table.Key(p, 1, e); !slices.Equal(k, c.want) {
			t.Errorf("Key in %v = %v, want %v", e, k, c.want)
		}
	}
}

// P17.3: one field may be a key more than once
func TestKeyOfOneField(t *testing.T) {
	p := sample(exact(meta(0)), ternary(meta(0)), lpm(meta(0)))
	if k := table.Key(p, 1, api.Env{Meta: []uint32{0x1ab}}); !slices.Equal(k, []uint32{0xab, 0xab, 0xab}) {
		t.Errorf("Key = %v", k)
	}
}

// P17.3: which actions a table allows
func TestAllows(t *testing.T) {
	p := sample()
	for a := -3; a < 30; a++ {
		if got, want := table.Allows(p, 1, a), a == 0 || a == 1 || a == 2 || a == 4; got != want {
			t.Errorf("Allows(%d) = %v", a, got)
		}
		if got := table.Allows(p, 0, a); got != (a == 0) {
			t.Errorf("Allows(%d) of the first table = %v", a, got)
		}
	}
}

// P17.2, P17.3: answers are memory of their own
func TestAnswersAreNew(t *testing.T) {
	p, e := sample(exact(meta(0)), lpm(ref(0, 0))), filled(sample(), 7)
	before := text(p) + text(e)
	w, k := table.Widths(p, 1), table.Key(p, 1, e)
	clear(w[:cap(w)])
	clear(k[:cap(k)])
	if text(p)+text(e) != before || !slices.Equal(table.Widths(p, 1), []int{8, 8}) || !slices.Equal(table.Key(p, 1, e), []uint32{7, 7}) {
		t.Error("what is answered is kept")
	}
}

// P17.1 to P17.3: programs beyond the limits
func TestBeyondLimits(t *testing.T) {
	const n = 20000
	p := api.Program{Metadata: make([]api.Field, n), Actions: make([]api.Action, n), Tables: make([]api.Table, n)}
	for range n {
		p.Headers = append(p.Headers, api.Header{Fields: widths(8)})
	}
	p.Metadata[n-1].Width = 32
	p.Tables[n-1] = api.Table{Name: "last", Keys: []api.TableKey{exact(meta(n - 1)), exact(ref(n-1, 0))}, Actions: []int{n - 1}, Default: call(n - 1), Size: 256}
	expectCheck(t, p, n-1, 0, api.OK)
	expectCheck(t, p, n-2, -1, api.ErrName)
	if k := table.Key(p, n-1, filled(p, 0x1ff)); !slices.Equal(k, []uint32{0x1ff, 0xff}) || !table.Allows(p, n-1, n-1) {
		t.Errorf("Key = %v", k)
	}
}

// P17.2: example 1
func TestExample(t *testing.T) {
	p := sample(exact(meta(0)), ternary(ref(0, 0)))
	if table.Kind(p, 1) != api.MatchTernary || table.Kind(p, 0) != api.MatchExact || table.Bits(p, 0) != 0 {
		t.Errorf("Kind = %d, without keys %d of %d bits", table.Kind(p, 1), table.Kind(p, 0), table.Bits(p, 0))
	}
}
