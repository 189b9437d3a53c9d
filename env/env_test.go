package env_test

import (
	"math"
	"slices"
	"testing"

	"patchbay/api"
	"patchbay/env"
)

var invalidWidths = []int{math.MinInt, -32, -1, 0, 33, 64, 1 << 32, 1<<32 + 8, math.MaxInt}

var values = []uint32{0, 1, 2, 3, 7, 8, 0x15, 0x7f, 0x80, 0xff, 0x100, 0xffff, 0x10000, 1<<31 - 1, 1 << 31, 0xdeadbeef, math.MaxUint32 - 1, math.MaxUint32}

// random is a row of numbers that look like no rule, the same ones for the same seed.
type random uint64

func (r *random) bits() uint32 {
	*r = *r*6364136223846793005 + 1442695040888963407
	return uint32(*r >> 32)
}

func (r *random) below(n int) int { return int(r.bits()>>4) % n }

func ref(header, field int) api.FieldRef { return api.FieldRef{Header: header, Field: field} }

func widths(l ...int) []api.Field {
	var fields []api.Field
	for _, w := range l {
		fields = append(fields, api.Field{Name: "f", Width: w})
	}
	return fields
}

func headers(l ...[]api.Field) []api.Header {
	var hs []api.Header
	for _, fields := range l {
		hs = append(hs, api.Header{Name: "h", Fields: fields})
	}
	return hs
}

// programs is ordinary programs, and ones that no check would let pass.
func programs() []api.Program {
	return []api.Program{
		{},
		{Metadata: widths(8, 8, 1)},
		{Headers: headers(widths(8, 4))},
		{Headers: headers(widths(8, 4), widths(32, 1, 31), widths(16)), Metadata: widths(8, 8, 1, 32, 5)},
		{Headers: headers(nil, widths(8), nil), Metadata: widths(3)},
		{Headers: headers(widths(invalidWidths...), widths(8, 33, 0, 2)), Metadata: widths(0, 8, -1, 33)},
		{Headers: headers(widths(7), nil, widths(1), widths(2), widths(3), widths(4), widths(5), widths(6), widths(9), widths(10)), Metadata: widths(1, 2, 3, 4, 5, 6, 7, 8, 9, 10, 11, 12, 13, 14)},
	}
}

// valuesOf answers lists that are filled with numbers, up to and behind their lengths.
func valuesOf(r *random, n int) []uint32 {
	l := make([]uint32, n+2)
	for i := range l {
		l[i] = r.bits() | 1
	}
	return l[:n]
}

// environments is environments for p: fresh and filled ones, and ones of another shape than p.
func environments(p api.Program) []api.Env {
	r := random(len(p.Headers))
	filled := func(n, fields, meta int) api.Env {
		e := api.Env{Meta: valuesOf(&r, meta), Payload: []byte{1, 2, 3, 4}[:3]}
		for h := range fields {
			size := 2
			if h < len(p.Headers) {
				size = len(p.Headers[h].Fields)
			}
			e.Fields = append(e.Fields, valuesOf(&r, size))
		}
		for h := range n {
			e.Valid = append(e.Valid, h%2 == 0)
		}
		return e
	}
	n, m := len(p.Headers), len(p.Metadata)
	l := []api.Env{{}, env.New(p), filled(n, n, m), filled(n+1, n+1, m+1), filled(n+2, 0, 0), filled(0, n, m), filled(max(n-1, 0), n, max(m-1, 0)), filled(n, max(n-1, 0), m)}
	other := filled(n, n, m)
	for h := range other.Fields {
		other.Valid[h] = !other.Valid[h]
		other.Fields[h] = append(other.Fields[h], 5)
	}
	short := filled(n, n, m)
	for h, vals := range short.Fields {
		short.Fields[h] = vals[:len(vals)/2]
	}
	all := filled(n, n, m)
	for h := range all.Valid {
		all.Valid[h] = true
	}
	return append(l, other, short, all)
}

// references is every field of p, and ones around them that don't exist.
func references(p api.Program) []api.FieldRef {
	var l []api.FieldRef
	for h := -3; h < len(p.Headers)+3; h++ {
		for f := -2; f < 16; f++ {
			l = append(l, ref(h, f))
		}
	}
	for _, i := range []int{math.MinInt, math.MaxInt, 1 << 32, -1 << 32} {
		l = append(l, ref(i, 0), ref(0, i), ref(api.Metadata, i), ref(i, i))
	}
	return l
}

func headerNumbers(p api.Program) []int {
	l := []int{math.MinInt, -1 << 32, -2, -1, 1 << 32, math.MaxInt}
	for h := range len(p.Headers) + 4 {
		l = append(l, h)
	}
	return l
}

// state is what an environment holds, in a form of the tests' own.
type state struct {
	valid   string
	values  map[api.FieldRef]uint32
	sizes   map[int]int
	payload string
}

func stateOf(e api.Env) state {
	s := state{values: map[api.FieldRef]uint32{}, sizes: map[int]int{}, payload: string(e.Payload)}
	for _, v := range e.Valid {
		s.valid += map[bool]string{false: "0", true: "1"}[v]
	}
	add := func(h int, vals []uint32) {
		s.sizes[h] = len(vals)
		for f, v := range vals {
			s.values[ref(h, f)] = v
		}
	}
	add(api.Metadata, e.Meta)
	for h, vals := range e.Fields {
		add(h, vals)
	}
	return s
}

func (s state) isValid(h int) bool { return h >= 0 && h < len(s.valid) && s.valid[h] == '1' }

func (s state) setValid(h int, valid bool) state {
	b := []byte(s.valid)
	b[h] = '0'
	if valid {
		b[h] = '1'
	}
	s.valid = string(b)
	return s
}

func sameMaps[K, V comparable](a, b map[K]V) bool {
	if len(a) != len(b) {
		return false
	}
	for k, v := range a {
		if w, ok := b[k]; !ok || v != w {
			return false
		}
	}
	return true
}

func (s state) same(o state) bool {
	return s.valid == o.valid && s.payload == o.payload && sameMaps(s.values, o.values) && sameMaps(s.sizes, o.sizes)
}

func (s state) clear(h int) {
	for r := range s.values {
		if r.Header == h {
			s.values[r] = 0
		}
	}
}

// widthOf answers the width of a field by the words of P12.1.
func widthOf(p api.Program, r api.FieldRef) int {
	for f, m := range p.Metadata {
		if r == ref(api.Metadata, f) && m.Width >= 1 && m.Width <= 32 {
			return m.Width
		}
	}
	for h := range p.Headers {
		for f, x := range p.Headers[h].Fields {
			if r == ref(h, f) && x.Width >= 1 && x.Width <= 32 {
				return x.Width
			}
		}
	}
	return 0
}

func reduced(v uint32, w int) uint32 { return uint32(uint64(v) % (1 << w)) }

// scribble writes over all that an environment holds, and over what lies behind its lengths.
func scribble(e api.Env) {
	for i := range e.Valid[:cap(e.Valid)] {
		e.Valid[:cap(e.Valid)][i] = !e.Valid[:cap(e.Valid)][i]
	}
	fill := func(vals []uint32) {
		for i := range vals[:cap(vals)] {
			vals[:cap(vals)][i] ^= 0x5a5a5a5a
		}
	}
	fill(e.Meta)
	all := e.Fields[:cap(e.Fields)]
	for i, vals := range all {
		fill(vals)
		all[i] = nil
	}
	for i := range e.Payload[:cap(e.Payload)] {
		e.Payload[:cap(e.Payload)][i] ^= 0x5a
	}
}

// whole answers e with all that lies behind the lengths of its lists.
func whole(e api.Env) api.Env {
	e.Valid, e.Meta, e.Payload = e.Valid[:cap(e.Valid)], e.Meta[:cap(e.Meta)], e.Payload[:cap(e.Payload)]
	var lists [][]uint32
	for _, vals := range e.Fields[:cap(e.Fields)] {
		lists = append(lists, vals[:cap(vals)])
	}
	e.Fields = lists
	return e
}

// expectOwnLists tells if two lists of e share memory.
func expectOwnLists(t *testing.T, e api.Env) {
	t.Helper()
	lists := append([][]uint32{e.Meta}, e.Fields...)
	for i, vals := range lists {
		for j := range vals[:cap(vals)] {
			vals[:cap(vals)][j] = uint32(i)
		}
	}
	for i, vals := range lists {
		for _, v := range vals[:cap(vals)] {
			if v != uint32(i) {
				t.Fatalf("the lists %d and %d share memory", i-1, int(v)-1)
			}
		}
	}
}

// expectChange holds the answer of a call against the state that it should have.
// The answer is memory of its own, and the call leaves e as it is.
func expectChange(t *testing.T, e api.Env, call func() api.Env, want state, what ...any) {
	t.Helper()
	before := stateOf(whole(e))
	got := call()
	if s := stateOf(got); !s.same(want) {
		t.Fatalf("%v of %v: %v, want %v", what, stateOf(e), s, want)
	}
	scribble(got)
	if s := stateOf(whole(e)); !s.same(before) {
		t.Fatalf("%v changes its environment %v to %v", what, before, s)
	}
	expectOwnLists(t, call())
}

// P12.1
func TestWidth(t *testing.T) {
	for _, p := range programs() {
		for _, r := range references(p) {
			if got, want := env.Width(p, r), widthOf(p, r); got != want {
				t.Errorf("Width(%v) = %d, want %d", r, got, want)
			}
		}
	}
	for w := -2; w < 40; w++ {
		want := w
		if w < 1 || w > 32 {
			want = 0
		}
		p := api.Program{Headers: headers(nil, widths(1, w)), Metadata: widths(2, 2, w)}
		if a, b := env.Width(p, ref(1, 1)), env.Width(p, ref(api.Metadata, 2)); a != want || b != want {
			t.Errorf("Width of a field of width %d = %d, of metadata = %d", w, a, b)
		}
	}
	for _, w := range invalidWidths {
		p := api.Program{Headers: headers(widths(w)), Metadata: widths(w)}
		if a, b := env.Width(p, ref(0, 0)), env.Width(p, ref(api.Metadata, 0)); a != 0 || b != 0 {
			t.Errorf("Width of a field of width %d = %d, of metadata = %d", w, a, b)
		}
	}
}

// P12.1: what lies behind the length of a list of fields doesn't exist.
func TestWidthBehindLength(t *testing.T) {
	p := api.Program{Headers: headers(widths(8, 9)[:1], widths(7))[:1], Metadata: widths(5, 6)[:1]}
	for _, r := range []api.FieldRef{ref(0, 1), ref(1, 0), ref(api.Metadata, 1)} {
		if w := env.Width(p, r); w != 0 {
			t.Errorf("Width(%v) = %d", r, w)
		}
	}
}

// P12.2
func TestNew(t *testing.T) {
	for _, p := range programs() {
		want := state{values: map[api.FieldRef]uint32{}, sizes: map[int]int{api.Metadata: len(p.Metadata)}}
		for f := range p.Metadata {
			want.values[ref(api.Metadata, f)] = 0
		}
		for h := range p.Headers {
			want.valid += "0"
			want.sizes[h] = len(p.Headers[h].Fields)
			for f := range p.Headers[h].Fields {
				want.values[ref(h, f)] = 0
			}
		}
		if got := stateOf(env.New(p)); !got.same(want) {
			t.Errorf("New = %v, want %v", got, want)
		}
		expectOwnLists(t, env.New(p))
		scribble(env.New(p))
		if got := stateOf(env.New(p)); !got.same(want) {
			t.Errorf("New again = %v, want %v", got, want)
		}
	}
}

func expectCheck(t *testing.T, p api.Program, e api.Env, want api.Errno, what ...any) {
	t.Helper()
	before := stateOf(whole(e))
	if got := env.Check(p, e); got != want {
		t.Errorf("%v: Check of %v = %v, want %v", what, stateOf(e), got, want)
	}
	if after := stateOf(whole(e)); !after.same(before) {
		t.Errorf("%v: Check changes %v to %v", what, before, after)
	}
}

// allValid answers an environment for p with valid headers and with every value 0.
func allValid(p api.Program) api.Env {
	e := env.New(p)
	for h := range e.Valid {
		e.Valid[h] = true
	}
	return e
}

// P12.3: the numbers of elements. They come ahead of every other error.
func TestCheckShape(t *testing.T) {
	p := api.Program{Headers: headers(widths(8, 4), nil, widths(3, 3, 3)), Metadata: widths(8, 8, 1)}
	shapes := []func(e *api.Env){
		func(e *api.Env) { e.Valid = nil },
		func(e *api.Env) { e.Valid = e.Valid[:2] },
		func(e *api.Env) { e.Valid = append(e.Valid, false) },
		func(e *api.Env) { e.Fields = nil },
		func(e *api.Env) { e.Fields = e.Fields[:2] },
		func(e *api.Env) { e.Fields = append(e.Fields, nil) },
		func(e *api.Env) { e.Valid, e.Fields = e.Valid[:2], e.Fields[:2] },
		func(e *api.Env) { e.Valid, e.Fields = append(e.Valid, true), append(e.Fields, nil) },
		func(e *api.Env) { e.Fields[0] = nil },
		func(e *api.Env) { e.Fields[0] = e.Fields[0][:1] },
		func(e *api.Env) { e.Fields[0] = append(e.Fields[0], 0) },
		func(e *api.Env) { e.Fields[1] = append(e.Fields[1], 0) },
		func(e *api.Env) { e.Fields[2] = e.Fields[2][:2] },
		func(e *api.Env) { e.Fields[2] = append(e.Fields[2], 0) },
		func(e *api.Env) { e.Fields[0], e.Fields[2] = e.Fields[2], e.Fields[0] },
		func(e *api.Env) { e.Meta = nil },
		func(e *api.Env) { e.Meta = e.Meta[:2] },
		func(e *api.Env) { e.Meta = append(e.Meta, 0) },
		func(e *api.Env) { *e = api.Env{} },
	}
	for i, change := range shapes {
		zero, valid, big, stale := env.New(p), allValid(p), allValid(p), env.New(p)
		big.Meta[0], big.Fields[0][0] = 256, 256
		stale.Fields[0][0], stale.Fields[2][0] = 1, 1
		for _, e := range []api.Env{zero, valid, big, stale} {
			change(&e)
			expectCheck(t, p, e, api.ErrArg, "shape", i)
		}
	}
	expectCheck(t, api.Program{}, api.Env{}, api.OK)
	expectCheck(t, api.Program{}, api.Env{Valid: []bool{}, Fields: [][]uint32{}, Meta: []uint32{}}, api.OK)
	expectCheck(t, api.Program{Headers: headers(nil)}, api.Env{}, api.ErrArg)
	expectCheck(t, api.Program{Headers: headers(nil)}, api.Env{Valid: []bool{true}}, api.ErrArg)
	expectCheck(t, api.Program{Headers: headers(nil)}, api.Env{Fields: [][]uint32{nil}}, api.ErrArg)
	expectCheck(t, api.Program{Headers: headers(nil)}, api.Env{Valid: []bool{true}, Fields: [][]uint32{nil}}, api.OK)
	expectCheck(t, api.Program{Metadata: widths(1)}, api.Env{Meta: []uint32{1}}, api.OK)
	expectCheck(t, api.Program{Metadata: widths(1)}, api.Env{}, api.ErrArg)
}

// P12.3: a value fits if it is below 2^w, or is 0 where the width is invalid.
func TestCheckRange(t *testing.T) {
	list := append([]int{}, invalidWidths...)
	for w := 1; w <= 32; w++ {
		list = append(list, w)
	}
	for _, w := range list {
		size := uint64(1)
		if w >= 1 && w <= 32 {
			size = 1 << w
		}
		p := api.Program{Headers: headers(widths(32), widths(8, w, 1)), Metadata: widths(8, w)}
		for _, v := range append([]uint32{uint32(size - 1), uint32(size), uint32(size + 1)}, values...) {
			want := api.OK
			if uint64(v) >= size {
				want = api.ErrRange
			}
			inField, inMeta := allValid(p), allValid(p)
			inField.Fields[1][1], inMeta.Meta[1] = v, v
			expectCheck(t, p, inField, want, "field of width", w)
			expectCheck(t, p, inMeta, want, "metadata of width", w)
			inField.Valid[1] = false // an error of the range comes ahead of that of an invalid header
			if want == api.OK && v != 0 {
				want = api.ErrSyntax
			}
			expectCheck(t, p, inField, want, "field of an invalid header, of width", w)
		}
	}
}

// P12.3: every place of a value that does not fit, also behind an invalid header with values.
func TestCheckRangePlaces(t *testing.T) {
	p := api.Program{Headers: headers(widths(8, 8), nil, widths(8, 8, 8)), Metadata: widths(8, 8, 1)}
	for r := range stateOf(env.New(p)).values {
		for _, stale := range []bool{false, true} {
			e := allValid(p)
			if stale {
				e.Valid[0], e.Fields[0][1] = false, 1
			}
			if r.Header == api.Metadata {
				e.Meta[r.Field] = 256
			} else {
				e.Fields[r.Header][r.Field] = 256
			}
			expectCheck(t, p, e, api.ErrRange, r, stale)
		}
	}
}

// P12.3: a header that is invalid has only fields of 0.
func TestCheckInvalidHeader(t *testing.T) {
	p := api.Program{Headers: headers(widths(8, 8), nil, widths(8, 8, 8)), Metadata: widths(8, 8, 1)}
	for h := range p.Headers {
		for f := range p.Headers[h].Fields {
			for _, valid := range []bool{false, true} {
				e := env.New(p)
				e.Valid[h], e.Fields[h][f], e.Meta[1] = valid, 200, 77
				want := api.ErrSyntax
				if valid {
					want = api.OK
				}
				expectCheck(t, p, e, want, h, f, valid)
			}
		}
	}
}

// P12.3: the payload is not checked.
func TestCheckPayload(t *testing.T) {
	for _, p := range programs() {
		for _, n := range []int{0, 1, api.MaxPacket, api.MaxPacket + 1, 100000} {
			e := env.New(p)
			e.Payload = make([]byte, n)
			expectCheck(t, p, e, api.OK, n)
		}
	}
}

// P12.4
func TestGet(t *testing.T) {
	for _, p := range programs() {
		for _, e := range environments(p) {
			s := stateOf(e)
			before := stateOf(whole(e))
			for _, r := range references(p) {
				want := uint32(0)
				if r.Header == api.Metadata || s.isValid(r.Header) {
					want = s.values[r]
				}
				if got := env.Get(e, r); got != want {
					t.Errorf("Get(%v) of %v = %d, want %d", r, s, got, want)
				}
			}
			if after := stateOf(whole(e)); !after.same(before) {
				t.Fatalf("Get changes %v to %v", before, after)
			}
		}
	}
}

// P12.4: no program limits what is read.
func TestGetAnyValue(t *testing.T) {
	for _, v := range values {
		e := api.Env{Valid: []bool{false, true}, Fields: [][]uint32{{v}, {0, v}}, Meta: []uint32{0, v}}
		if a, b, c := env.Get(e, ref(1, 1)), env.Get(e, ref(api.Metadata, 1)), env.Get(e, ref(0, 0)); a != v || b != v || c != 0 {
			t.Errorf("Get of %d = %d, of metadata = %d, of an invalid header = %d", v, a, b, c)
		}
	}
}

// P12.5
func TestSet(t *testing.T) {
	for _, p := range programs() {
		for _, e := range environments(p) {
			for i, r := range references(p) {
				v := values[i%len(values)]
				want := stateOf(e)
				w := widthOf(p, r)
				_, has := want.values[r]
				if w > 0 && has && (r.Header == api.Metadata || want.isValid(r.Header)) {
					want.values[r] = reduced(v, w)
				}
				expectChange(t, e, func() api.Env { return env.Set(p, e, r, v) }, want, "Set", r, v)
			}
		}
	}
}

// P12.5: each width, each value.
func TestSetReduces(t *testing.T) {
	for w := 1; w <= 32; w++ {
		p := api.Program{Headers: headers(widths(8), widths(w, w)), Metadata: widths(8, w)}
		for _, v := range values {
			for _, r := range []api.FieldRef{ref(1, 0), ref(1, 1), ref(api.Metadata, 1)} {
				e := env.Set(p, allValid(p), r, v)
				if got := env.Get(e, r); got != reduced(v, w) {
					t.Errorf("Set to %#x, then Get, of width %d = %#x", v, w, got)
				}
			}
		}
	}
}

// P12.6
func TestAddHeader(t *testing.T) {
	for _, p := range programs() {
		for _, e := range environments(p) {
			for _, h := range headerNumbers(p) {
				want := stateOf(e)
				if h >= 0 && h < len(p.Headers) && h < len(e.Valid) && !want.isValid(h) {
					want = want.setValid(h, true)
					want.clear(h)
				}
				expectChange(t, e, func() api.Env { return env.AddHeader(p, e, h) }, want, "AddHeader", h)
			}
		}
	}
}

// P12.6
func TestRemoveHeader(t *testing.T) {
	for _, p := range programs() {
		for _, e := range environments(p) {
			for _, h := range headerNumbers(p) {
				want := stateOf(e)
				if h >= 0 && h < len(p.Headers) && h < len(e.Valid) {
					want = want.setValid(h, false)
					want.clear(h)
				}
				expectChange(t, e, func() api.Env { return env.RemoveHeader(p, e, h) }, want, "RemoveHeader", h)
			}
		}
	}
}

// P12.6: an environment with the validity of a header, but without its fields, and one with more headers than the program.
func TestHeaderOfOneSide(t *testing.T) {
	p := api.Program{Headers: headers(widths(8), widths(8))}
	e := api.Env{Valid: []bool{true, false}, Fields: [][]uint32{{7}}}
	if got := env.AddHeader(p, e, 1); !env.Equal(got, api.Env{Valid: []bool{true, true}, Fields: [][]uint32{{7}}}) {
		t.Errorf("AddHeader without fields: %v", got)
	}
	if got := env.RemoveHeader(p, e, 0); !env.Equal(got, api.Env{Valid: []bool{false, false}, Fields: [][]uint32{{0}}}) {
		t.Errorf("RemoveHeader: %v", got)
	}
	more := api.Env{Valid: []bool{true, true, true, false}, Fields: [][]uint32{{1}, {2}, {3}, {4}}}
	if !env.Equal(env.RemoveHeader(p, more, 2), more) || !env.Equal(env.AddHeader(p, more, 3), more) {
		t.Error("a header that the program lacks is added or removed")
	}
	behind := api.Env{Valid: []bool{false, true}[:1], Fields: [][]uint32{{1}, {2}}}
	if got := env.RemoveHeader(p, behind, 1); !env.Equal(got, behind) {
		t.Errorf("RemoveHeader of a header behind the length: %v", got)
	}
}

// P12.7
func TestClone(t *testing.T) {
	for _, p := range programs() {
		for _, e := range environments(p) {
			expectChange(t, e, func() api.Env { return env.Clone(e) }, stateOf(e), "Clone")
			if !env.Equal(env.Clone(e), e) {
				t.Errorf("Clone of %v is not equal to it", e)
			}
		}
	}
}

// P12.7: an environment whose own lists share memory has a clone whose lists don't.
func TestCloneOfShared(t *testing.T) {
	l := []uint32{1, 2, 3, 4}
	e := api.Env{Valid: []bool{true, true}, Fields: [][]uint32{l, l[1:3]}, Meta: l[2:]}
	expectChange(t, e, func() api.Env { return env.Clone(e) }, stateOf(e), "Clone")
	p := api.Program{Headers: headers(widths(8, 8, 8, 8), widths(8, 8)), Metadata: widths(8, 8)}
	got := env.Set(p, e, ref(1, 1), 9)
	if !slices.Equal(got.Fields[0], []uint32{1, 2, 3, 4}) || !slices.Equal(got.Fields[1], []uint32{2, 9}) || !slices.Equal(got.Meta, []uint32{3, 4}) {
		t.Errorf("Set: %v", got)
	}
}

// P12.7: Equal, held against all pairs of environments that differ in one part or none.
func TestEqual(t *testing.T) {
	base := func() api.Env {
		return api.Env{Valid: []bool{true, false}, Fields: [][]uint32{{1, 2}, {0}}, Meta: []uint32{3, 4}, Payload: []byte{5, 6}}
	}
	changes := []func(e *api.Env){
		func(*api.Env) {},
		func(e *api.Env) { e.Valid[0] = false },
		func(e *api.Env) { e.Valid[1] = true },
		func(e *api.Env) { e.Valid = e.Valid[:1] },
		func(e *api.Env) { e.Valid = append(e.Valid, false) },
		func(e *api.Env) { e.Valid = nil },
		func(e *api.Env) { e.Fields[0][0] = 9 },
		func(e *api.Env) { e.Fields[0][1] = 9 },
		func(e *api.Env) { e.Fields[1][0] = 9 },
		func(e *api.Env) { e.Fields[0] = e.Fields[0][:1] },
		func(e *api.Env) { e.Fields[0] = append(e.Fields[0], 0) },
		func(e *api.Env) { e.Fields[0], e.Fields[1] = e.Fields[0][:1], []uint32{2, 0} },
		func(e *api.Env) { e.Fields[0] = nil },
		func(e *api.Env) { e.Fields = e.Fields[:1] },
		func(e *api.Env) { e.Fields = append(e.Fields, nil) },
		func(e *api.Env) { e.Fields = nil },
		func(e *api.Env) { e.Meta[0] = 9 },
		func(e *api.Env) { e.Meta[1] = 9 },
		func(e *api.Env) { e.Meta = e.Meta[:1] },
		func(e *api.Env) { e.Meta = append(e.Meta, 0) },
		func(e *api.Env) { e.Meta = nil },
		func(e *api.Env) { e.Payload[0] = 9 },
		func(e *api.Env) { e.Payload[1] = 9 },
		func(e *api.Env) { e.Payload = e.Payload[:1] },
		func(e *api.Env) { e.Payload = append(e.Payload, 0) },
		func(e *api.Env) { e.Payload = nil },
		func(e *api.Env) { *e = api.Env{} },
	}
	for i, changeA := range changes {
		for j, changeB := range changes {
			a, b := base(), base()
			changeA(&a)
			changeB(&b)
			if got := env.Equal(a, b); got != (i == j) {
				t.Errorf("Equal(%v, %v) = %v", a, b, got)
			}
		}
	}
}

// P12.7: a nil list is as an empty one, and what lies behind a length doesn't count.
func TestEqualOfEmpty(t *testing.T) {
	empty := api.Env{Valid: []bool{}, Fields: [][]uint32{}, Meta: []uint32{}, Payload: []byte{}}
	behind := api.Env{Valid: []bool{true}[:0], Fields: [][]uint32{{1}}[:0], Meta: []uint32{1}[:0], Payload: []byte{1}[:0]}
	for _, a := range []api.Env{{}, empty, behind} {
		for _, b := range []api.Env{{}, empty, behind} {
			if !env.Equal(a, b) {
				t.Errorf("Equal(%v, %v) = false", a, b)
			}
		}
	}
	if !env.Equal(api.Env{Fields: [][]uint32{nil, {1}}}, api.Env{Fields: [][]uint32{{}, []uint32{1, 2}[:1]}}) {
		t.Error("a nil list of values is not equal to an empty one")
	}
	if env.Equal(api.Env{}, api.Env{Fields: [][]uint32{nil}}) || env.Equal(api.Env{Fields: [][]uint32{nil}}, api.Env{Fields: [][]uint32{nil, nil}}) {
		t.Error("lists of nil lists count as empty")
	}
	if env.Equal(api.Env{Meta: []uint32{1}}, api.Env{Fields: [][]uint32{{1}}}) {
		t.Error("metadata count as fields")
	}
}

// step answers e after a call that r chooses, and holds it against P12.8.
func step(t *testing.T, r *random, p api.Program, e api.Env) api.Env {
	t.Helper()
	switch r.below(6) {
	case 0:
		return env.AddHeader(p, e, r.below(len(p.Headers)+2)-1)
	case 1:
		return env.RemoveHeader(p, e, r.below(len(p.Headers)+2)-1)
	}
	at, v := ref(r.below(len(p.Headers)+2)-1, r.below(6)-1), r.bits()
	after := env.Set(p, e, at, v)
	if w := env.Width(p, at); w > 0 && (at.Header == api.Metadata || e.Valid[at.Header]) {
		if got := env.Get(after, at); got != reduced(v, w) {
			t.Fatalf("Get after Set of %v to %#x = %#x", at, v, got)
		}
	}
	before, now := stateOf(e), stateOf(after)
	before.values[at], now.values[at] = 0, 0
	if !before.same(now) {
		t.Fatalf("Set of %v changed %v to %v", at, before, now)
	}
	return after
}

// P12.8: from New on, Check accepts what the calls answer.
func TestCalls(t *testing.T) {
	r := random(1)
	for _, p := range programs() {
		e := env.New(p)
		for range 2000 {
			if c := env.Check(p, e); c != api.OK {
				t.Fatalf("Check(%v) = %v", e, c)
			}
			e = step(t, &r, p, e)
		}
	}
}

// P12.8: RemoveHeader undoes AddHeader of an invalid header.
func TestRemoveAfterAdd(t *testing.T) {
	r := random(2)
	for _, p := range programs() {
		e := env.New(p)
		for range 300 {
			e = step(t, &r, p, e)
			for h := range p.Headers {
				if !e.Valid[h] && !env.Equal(env.RemoveHeader(p, env.AddHeader(p, e, h), h), e) {
					t.Fatalf("RemoveHeader after AddHeader of %d of %v", h, e)
				}
			}
		}
	}
}

// P12.2 to P12.6: example 1.
func TestExample(t *testing.T) {
	p := api.Program{Headers: headers(widths(8, 4))}
	a, b := ref(0, 0), ref(0, 1)
	e := env.New(p)
	if got := env.Set(p, e, a, 7); !env.Equal(got, e) || e.Valid[0] {
		t.Errorf("Set in an invalid header: %v", got)
	}
	e = env.Set(p, env.AddHeader(p, e, 0), b, 0x15)
	if e.Fields[0][1] != 5 || env.Get(e, b) != 5 {
		t.Errorf("Set of b to 0x15: %v", e)
	}
	e = env.RemoveHeader(p, env.Set(p, e, a, 7), 0)
	if e.Valid[0] || !slices.Equal(e.Fields[0], []uint32{0, 0}) {
		t.Errorf("RemoveHeader: %v", e)
	}
}

// P12.2 to P12.7: programs and environments beyond every limit.
func TestBeyondLimits(t *testing.T) {
	const n = 20000
	p := api.Program{Metadata: widths(slices.Repeat([]int{9}, n)...)}
	for range n {
		p.Headers = append(p.Headers, api.Header{Fields: widths(8)})
	}
	e := env.New(p)
	e = env.Set(p, env.AddHeader(p, e, n-1), ref(n-1, 0), 0x1ff)
	e = env.Set(p, e, ref(api.Metadata, n-1), 0x3fe)
	if a, b := env.Get(e, ref(n-1, 0)), env.Get(e, ref(api.Metadata, n-1)); a != 0xff || b != 0x1fe {
		t.Errorf("Get = %#x, of metadata = %#x", a, b)
	}
	if c := env.Check(p, e); c != api.OK || !env.Equal(e, env.Clone(e)) {
		t.Errorf("Check = %v", c)
	}
	e.Valid[n-1] = false
	if c := env.Check(p, e); c != api.ErrSyntax {
		t.Errorf("Check of an invalid header with a value = %v", c)
	}
}
