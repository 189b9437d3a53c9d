package parser_test

import (
	"fmt"
	"math"
	"slices"
	"strconv"
	"strings"
	"testing"

	"patchbay/api"
	"patchbay/env"
	"patchbay/header"
	"patchbay/parser"
)

var wrongWidths = []int{math.MinInt, -32, -8, -1, 0, 33, 64, 1 << 32, 1<<32 + 8, math.MaxInt}

var wrongNames = []string{"", "1", "1a", "_", "_a", "a-b", "a b", " a", "a ", "a.b", "a\n", "a\x00", "\xff", "é", "aé", "seventeen_letters"}

var wrongNumbers = []int{math.MinInt, -1 << 32, -3, 99, 1 << 32, math.MaxInt}

// random is a row of numbers that look like no rule, the same ones for the same seed.
type random uint64

func (r *random) bits() uint32 {
	*r = *r*6364136223846793005 + 1442695040888963407
	return uint32(*r >> 32)
}

func (r *random) below(n int) int { return int(r.bits()>>4) % n }

func (r *random) chance(n int) bool { return r.below(n) == 0 }

func pick[T any](r *random, l []T) T { return l[r.below(len(l))] }

func greatest(w int) uint32 { return uint32(uint64(1)<<w - 1) }

func ref(header, field int) api.FieldRef { return api.FieldRef{Header: header, Field: field} }

func meta(field int) api.FieldRef { return ref(-1, field) }

func widths(l ...int) []api.Field {
	var fields []api.Field
	for i, w := range l {
		fields = append(fields, api.Field{Name: "f" + strconv.Itoa(i), Width: w})
	}
	return fields
}

func headers(lists ...[]int) []api.Header {
	var l []api.Header
	for i, w := range lists {
		l = append(l, api.Header{Name: "h" + strconv.Itoa(i), Fields: widths(w...)})
	}
	return l
}

// plain answers a state that selects nothing.
func plain(next int, extract ...int) api.ParserState {
	return api.ParserState{Name: "s", Extract: extract, Default: next}
}

// selecting answers a state that selects on a field.
func selecting(extract []int, on api.FieldRef, def int, cases ...api.SelectCase) api.ParserState {
	return api.ParserState{Name: "s", Extract: extract, Select: true, On: on, Cases: cases, Default: def}
}

func caseOf(value, mask uint32, next int) api.SelectCase {
	return api.SelectCase{Value: value, Mask: mask, Next: next}
}

// sample is a program of the given states, which are named a0, a1 and so on. Its headers have 1, 2, 3 and 4 bytes.
func sample(states ...api.ParserState) api.Program {
	for i := range states {
		states[i].Name = "a" + strconv.Itoa(i)
	}
	return api.Program{
		Headers:  headers([]int{8}, []int{4, 12}, []int{1, 7, 16}, []int{32}),
		Metadata: widths(8, 8, 1, 33, 32, 0),
		States:   states,
	}
}

// text writes a program with what lies behind the lengths of its lists.
func text(p api.Program) string {
	var s strings.Builder
	fmt.Fprintf(&s, "%+v %+v", p, p.States[:cap(p.States)])
	for _, x := range p.States[:cap(p.States)] {
		fmt.Fprint(&s, x.Extract[:cap(x.Extract)], x.Cases[:cap(x.Cases)])
	}
	return s.String()
}

// expectCheck expects an answer of Check, and of Parse and States what follows from it.
func expectCheck(t *testing.T, p api.Program, item, sub int, want api.Errno) {
	t.Helper()
	before := text(p)
	if i, s, e := parser.Check(p); i != item || s != sub || e != want {
		t.Errorf("Check(%+v) = %d, %d, %v, want %d, %d, %v", p.States, i, s, e, item, sub, want)
	}
	if want != api.OK {
		for _, size := range []int{0, 1, 512, 513} {
			expectParse(t, p, make([]byte, size), env.New(p), nil, api.ErrArg)
		}
	}
	if text(p) != before {
		t.Error("the program is changed")
	}
}

func expectParse(t *testing.T, p api.Program, data []byte, packet api.Env, states []int, want api.Errno) {
	t.Helper()
	given := string(data[:cap(data)])
	if got, e := parser.Parse(p, data); !env.Equal(got, packet) || e != want {
		t.Errorf("Parse(%+v, %x) = %v, %v, want %v, %v", p.States, data, got, e, packet, want)
	}
	if got := parser.States(p, data); !slices.Equal(got, states) {
		t.Errorf("States(%+v, %x) = %v, want %v", p.States, data, got, states)
	}
	if string(data[:cap(data)]) != given {
		t.Error("the data are changed")
	}
}

// P18.1: how many states there may be
func TestCheckStates(t *testing.T) {
	expectCheck(t, api.Program{}, -1, -1, api.ErrNotFound)
	expectCheck(t, sample(), -1, -1, api.ErrNotFound)
	expectCheck(t, api.Program{States: []api.ParserState{}}, -1, -1, api.ErrNotFound)
	for n := 1; n <= 12; n++ {
		expectCheck(t, sample(slices.Repeat([]api.ParserState{plain(api.Accept)}, n)...), 0, 0, api.OK)
	}
	for _, n := range []int{13, 14, 500} {
		expectCheck(t, sample(slices.Repeat([]api.ParserState{plain(api.Accept)}, n)...), -1, -1, api.ErrLimit)
		expectCheck(t, api.Program{States: make([]api.ParserState, n)}, -1, -1, api.ErrLimit)
	}
}

// expectState expects an error of a state wherever it stands, and whatever stands behind it. The state leads nowhere else.
func expectState(t *testing.T, s api.ParserState, sub int, want api.Errno) {
	t.Helper()
	for before := range api.MaxStates {
		p := sample(append(slices.Repeat([]api.ParserState{plain(api.Accept)}, before), plain(api.Accept))...)
		name := p.States[before].Name
		p.States[before] = s
		if s.Name == "s" {
			p.States[before].Name = name
		}
		item := before
		if want == api.OK {
			item = 0
		}
		expectCheck(t, p, item, sub, want)
		if before < 11 && want != api.OK {
			p.States = append(p.States, api.ParserState{})
			expectCheck(t, p, item, sub, want)
		}
	}
}

// spoiled is a state of which everything is wrong but the name.
func spoiled() api.ParserState {
	return api.ParserState{Name: "s", Extract: []int{9, 9, 9, 9, 9}, Cases: make([]api.SelectCase, 9), Default: -3}
}

// P18.1: names
func TestCheckNames(t *testing.T) {
	for _, name := range wrongNames {
		s := spoiled()
		s.Name = name
		expectState(t, s, -1, api.ErrName)
		s = plain(api.Accept)
		s.Name = name
		expectState(t, s, -1, api.ErrName)
	}
	for _, name := range []string{"a", "Z", "f0", "h0", "A0", "sixteen_letters_"} {
		s := plain(api.Accept)
		s.Name = name
		expectState(t, s, 0, api.OK)
	}
}

// P18.1: two states of one name, wherever they stand
func TestCheckDuplicates(t *testing.T) {
	for i := range api.MaxStates {
		for j := range i {
			p := sample(slices.Repeat([]api.ParserState{plain(api.Accept)}, api.MaxStates)...)
			p.States[i].Name = p.States[j].Name
			expectCheck(t, p, i, -1, api.ErrDuplicate)
			p.States[i] = spoiled()
			p.States[i].Name = p.States[j].Name
			expectCheck(t, p, i, -1, api.ErrDuplicate)
			p.States[j] = p.States[i]
			expectCheck(t, p, j, -1, api.ErrLimit)
		}
	}
	p := sample(plain(api.Accept), plain(api.Accept))
	p.States[0].Name, p.States[1].Name = "", ""
	expectCheck(t, p, 0, -1, api.ErrName)
}

// P18.1: how many headers and cases a state may have
func TestCheckLimits(t *testing.T) {
	for _, extract := range []int{0, 1, 3, 4, 5, 6, 500} {
		for _, cases := range []int{0, 1, 7, 8, 9, 10, 500} {
			s := selecting(make([]int, extract), meta(0), api.Reject, slices.Repeat([]api.SelectCase{caseOf(0, 0, api.Accept)}, cases)...)
			if extract > 4 || cases > 8 {
				expectState(t, s, -1, api.ErrLimit)
				continue
			}
			expectState(t, s, 0, api.OK)
		}
	}
	s := spoiled()
	expectState(t, s, -1, api.ErrLimit)
	s.Extract = nil
	expectState(t, s, -1, api.ErrLimit)
	s = spoiled()
	s.Cases = nil
	expectState(t, s, -1, api.ErrLimit)
}

// P18.1: the headers
func TestCheckExtract(t *testing.T) {
	for _, h := range append([]int{-1, -2, 4}, wrongNumbers...) {
		for i := range 4 {
			s := plain(-3, 0, 1, 2, 3)
			s.Extract[i] = h
			expectState(t, s, -1, api.ErrNotFound)
			s.Cases = make([]api.SelectCase, 8)
			expectState(t, s, -1, api.ErrNotFound)
			s.Select, s.On = true, meta(0)
			expectState(t, s, -1, api.ErrNotFound)
		}
	}
	expectState(t, plain(api.Accept, 3, 3, 0, 3), 0, api.OK)
}

// P18.1: the field that is selected on
func TestCheckOn(t *testing.T) {
	missing := []api.FieldRef{ref(0, 1), ref(1, 2), ref(4, 0), ref(-2, 0), meta(-1), meta(3), meta(5), meta(6)}
	for _, n := range wrongNumbers {
		missing = append(missing, ref(n, 0), ref(0, n), meta(n))
	}
	for _, on := range missing {
		s := selecting(nil, on, api.Accept)
		expectState(t, s, -1, api.ErrNotFound)
		s.Cases, s.Default = []api.SelectCase{caseOf(1, 0, -3)}, -3
		expectState(t, s, -1, api.ErrNotFound)
		s.Select, s.Cases, s.Default = false, nil, api.Accept
		expectState(t, s, 0, api.OK)
	}
	for w := 1; w <= 32; w++ {
		p := sample(selecting(nil, meta(0), api.Accept), selecting(nil, ref(0, 0), api.Accept))
		p.Metadata[0].Width, p.Headers[0].Fields[0].Width = w, w
		expectParserOnly(t, p, 0, 0, api.OK)
	}
	for _, w := range wrongWidths {
		p := sample(selecting(nil, meta(0), api.Accept), selecting(nil, ref(0, 0), api.Accept))
		p.Headers[0].Fields[0].Width = w
		expectParserOnly(t, p, 1, -1, api.ErrNotFound)
		p.Metadata[0].Width = w
		expectParserOnly(t, p, 0, -1, api.ErrNotFound)
	}
}

// expectParserOnly expects an answer of Check for headers that may be wrong.
func expectParserOnly(t *testing.T, p api.Program, item, sub int, want api.Errno) {
	t.Helper()
	if i, s, e := parser.Check(p); i != item || s != sub || e != want {
		t.Errorf("Check(%+v) = %d, %d, %v, want %d, %d, %v", p, i, s, e, item, sub, want)
	}
}

// P18.1: cases of a state that doesn't select
func TestCheckKind(t *testing.T) {
	for n := 1; n <= 8; n++ {
		s := plain(api.Accept, 0)
		s.Cases = slices.Repeat([]api.SelectCase{caseOf(0, 0, api.Accept)}, n)
		expectState(t, s, -1, api.ErrKind)
		s.On = ref(0, 0)
		expectState(t, s, -1, api.ErrKind)
		s.On, s.Default, s.Cases[0] = ref(9, 9), -3, caseOf(1, 0, -3)
		expectState(t, s, -1, api.ErrKind)
	}
}

// expectCase expects an error of a case wherever among the cases it stands, and whatever stands behind it.
func expectCase(t *testing.T, on api.FieldRef, c api.SelectCase, want api.Errno) {
	t.Helper()
	for before := range api.MaxCases {
		cases := append(slices.Repeat([]api.SelectCase{caseOf(0, 1, api.Accept)}, before), c)
		p := sample(plain(api.Accept), selecting(nil, on, api.Reject, cases...), plain(api.Accept))
		if want == api.OK {
			expectCheck(t, p, 0, 0, api.OK)
			continue
		}
		expectCheck(t, p, 1, before, want)
		p.States[1].Default, p.States[2].Name = -3, ""
		if before < 7 {
			p.States[1].Cases = append(cases, caseOf(math.MaxUint32, 0, -3))
		}
		expectCheck(t, p, 1, before, want)
	}
}

// P18.1: values and masks beyond the width of the field, at its edge
func TestCheckRange(t *testing.T) {
	for w := 1; w <= 32; w++ {
		p := sample(selecting(nil, meta(0), api.Accept, caseOf(0, 0, api.Accept)))
		p.Metadata[0].Width = w
		c := &p.States[0].Cases[0]
		for _, v := range []uint32{0, 1, greatest(w), greatest(w) + 1, greatest(w)<<1 + 1, 1 << 31, math.MaxUint32} {
			*c = caseOf(0, v, api.Accept)
			if uint64(v) < 1<<w {
				expectCheck(t, p, 0, 0, api.OK)
				*c = caseOf(v, v, api.Accept)
				expectCheck(t, p, 0, 0, api.OK)
				continue
			}
			expectCheck(t, p, 0, 0, api.ErrRange)
			*c = caseOf(v, v, api.Accept)
			expectCheck(t, p, 0, 0, api.ErrRange)
			*c = caseOf(v, 0, -3)
			expectCheck(t, p, 0, 0, api.ErrRange)
		}
	}
	expectCase(t, ref(0, 0), caseOf(0, 256, -3), api.ErrRange)
	expectCase(t, ref(0, 0), caseOf(256, 0, -3), api.ErrRange)
	expectCase(t, ref(0, 0), caseOf(256, 256, 2), api.ErrRange)
	expectCase(t, ref(0, 0), caseOf(255, 255, 2), api.OK)
	expectCase(t, ref(1, 0), caseOf(16, 0, 2), api.ErrRange)
	expectCase(t, ref(1, 0), caseOf(0, 16, 2), api.ErrRange)
	expectCase(t, ref(2, 0), caseOf(1, 1, 2), api.OK)
	expectCase(t, ref(3, 0), caseOf(math.MaxUint32, math.MaxUint32, 2), api.OK)
	expectCase(t, meta(4), caseOf(1<<31, 1<<31, 2), api.OK)
}

// P18.1: values with a bit outside their mask
func TestCheckMask(t *testing.T) {
	for value := range uint32(16) {
		for mask := range uint32(16) {
			p := sample(selecting(nil, ref(1, 0), api.Accept, caseOf(value, mask, api.Reject)))
			outside := false
			for bit := range 4 {
				outside = outside || value>>bit&1 == 1 && mask>>bit&1 == 0
			}
			if outside {
				expectCheck(t, p, 0, 0, api.ErrSyntax)
				continue
			}
			expectCheck(t, p, 0, 0, api.OK)
		}
	}
	for bit := range 32 {
		expectCase(t, ref(3, 0), caseOf(1<<bit, ^uint32(1<<bit), -3), api.ErrSyntax)
		expectCase(t, ref(3, 0), caseOf(1<<bit, 0, 1), api.ErrSyntax)
		expectCase(t, ref(3, 0), caseOf(1<<bit, 1<<bit, 2), api.OK)
	}
}

// P18.1: where a case, and where a state, may lead
func TestCheckOrder(t *testing.T) {
	targets := []int{}
	for next := -4; next < 16; next++ {
		targets = append(targets, next)
	}
	for from := range 12 {
		for _, next := range append(targets, wrongNumbers...) {
			p := sample(slices.Repeat([]api.ParserState{plain(api.Accept)}, 12)...)
			allowed := next == -1 || next == -2 || next > from && next < 12
			p.States[from].Default = next
			expectTarget(t, p, from, -1, allowed)
			p.States[from] = selecting(nil, meta(0), api.Accept, caseOf(0, 0, api.Accept), caseOf(0, 0, next))
			p.States[from].Name = "other"
			expectTarget(t, p, from, 1, allowed)
			p.States[from].Cases[1].Next, p.States[from].Default = api.Reject, next
			expectTarget(t, p, from, -1, allowed)
		}
	}
	for _, next := range append([]int{-3, 0, 1, 3}, wrongNumbers...) {
		expectCase(t, ref(0, 0), caseOf(1, 3, next), api.ErrOrder)
		p := sample(plain(api.Accept), plain(next), plain(next))
		expectCheck(t, p, 1, -1, api.ErrOrder)
	}
	p := sample(plain(1), plain(api.Accept))
	p.States = p.States[:1]
	expectCheck(t, p, 0, -1, api.ErrOrder)
}

func expectTarget(t *testing.T, p api.Program, item, sub int, allowed bool) {
	t.Helper()
	if allowed {
		expectParserOnly(t, p, 0, 0, api.OK)
		return
	}
	expectParserOnly(t, p, item, sub, api.ErrOrder)
}

// P18.1: what lies behind the length of a list doesn't count
func TestBehindLengths(t *testing.T) {
	p := sample(selecting([]int{0, 9}[:1], ref(0, 0), api.Reject, caseOf(1, 1, api.Accept), caseOf(0, 0, api.Accept)), spoiled())
	p.States, p.States[0].Cases = p.States[:1], p.States[0].Cases[:1]
	expectCheck(t, p, 0, 0, api.OK)
	packet := env.New(p)
	packet.Valid[0], packet.Fields[0] = true, []uint32{3}
	expectParse(t, p, []byte{3, 7, 7}[:1], packet, []int{0}, api.OK)
	expectParse(t, p, []byte{2, 7, 7}[:1], env.New(p), []int{0}, api.ErrReject)
	expectParse(t, p, []byte{3, 7, 7}[:0], env.New(p), []int{0}, api.ErrShort)
	expectParse(t, p, make([]byte, 600)[:512], env.New(p), []int{0}, api.ErrReject)
}

// bitsOf answers the bits of data as text.
func bitsOf(data []byte) string {
	s := ""
	for _, b := range data {
		s += fmt.Sprintf("%08b", b)
	}
	return s
}

// bytesOf is the inverse of bitsOf.
func bytesOf(s string) []byte {
	var l []byte
	for ; s != ""; s = s[8:] {
		v, _ := strconv.ParseUint(s[:8], 2, 8)
		l = append(l, byte(v))
	}
	return l
}

// parsed is how a parse ends by P18.2, worked out on the text of the bits.
func parsed(p api.Program, data []byte) (api.Env, []int, api.Errno) {
	packet, states, left := env.New(p), []int{}, bitsOf(data)
	for at := 0; ; {
		s := p.States[at]
		states = append(states, at)
		for _, h := range s.Extract {
			var vals []uint32
			for _, f := range p.Headers[h].Fields {
				if len(left) < f.Width {
					return env.New(p), states, api.ErrShort
				}
				v, _ := strconv.ParseUint(left[:f.Width], 2, 32)
				vals, left = append(vals, uint32(v)), left[f.Width:]
			}
			packet.Valid[h], packet.Fields[h] = true, vals
		}
		at = s.Default
		for i := len(s.Cases) - 1; i >= 0; i-- {
			if c := s.Cases[i]; env.Get(packet, s.On)&c.Mask == c.Value {
				at = c.Next
			}
		}
		if at == api.Reject {
			return env.New(p), states, api.ErrReject
		}
		if at == api.Accept {
			packet.Payload = bytesOf(left)
			return packet, states, api.OK
		}
	}
}

func expectParsed(t *testing.T, p api.Program, data []byte) {
	t.Helper()
	packet, states, e := parsed(p, data)
	expectParse(t, p, data, packet, states, e)
}

// randomNext answers where state i of n may lead.
func randomNext(r *random, i, n int) int {
	if i == n-1 || r.chance(4) {
		return pick(r, []int{api.Accept, api.Accept, api.Reject})
	}
	return i + 1 + r.below(min(3, n-1-i))
}

func randomCase(r *random, w, next int) api.SelectCase {
	mask := r.bits() & greatest(w)
	if r.chance(2) {
		mask = greatest(w) & uint32(1<<r.below(3)|1<<r.below(w))
	}
	return caseOf(r.bits()&mask, mask, next)
}

func randomState(r *random, p api.Program, i, n int) api.ParserState {
	s := api.ParserState{Name: "x" + strconv.Itoa(i), Default: randomNext(r, i, n), On: ref(9, 9)}
	for range r.below(5) {
		if r.chance(2) {
			s.Extract = append(s.Extract, r.below(len(p.Headers)))
		}
	}
	if r.chance(4) {
		return s
	}
	s.Select, s.On = true, meta(r.below(3))
	if !r.chance(8) {
		h := r.below(len(p.Headers))
		s.On = ref(h, r.below(len(p.Headers[h].Fields)))
	}
	for range r.below(9) {
		s.Cases = append(s.Cases, randomCase(r, env.Width(p, s.On), randomNext(r, i, n)))
	}
	return s
}

// randomProgram answers a program with a valid parser.
func randomProgram(r *random) api.Program {
	lists := [][]int{{8}, {4, 4}, {2, 3, 3}, {1, 7}, {16}, {3, 13}, {24}, {5, 11}, {32}, {1, 31}, {4, 12, 8}}
	p := api.Program{Metadata: widths(8, 8, 1, 99)}
	for range 1 + r.below(5) {
		p.Headers = append(p.Headers, headers(pick(r, lists))...)
	}
	n := 1 + r.below(12)
	for i := range n {
		p.States = append(p.States, randomState(r, p, i, n))
	}
	return p
}

func randomData(r *random, n int) []byte {
	data := make([]byte, n)
	for i := range data {
		data[i] = byte(r.bits())
		if r.chance(2) {
			data[i] = byte(r.below(4))
		}
	}
	return data
}

// expectConsequences expects what P18.4 tells of a parse.
func expectConsequences(t *testing.T, p api.Program, data []byte) {
	t.Helper()
	packet, e := parser.Parse(p, data)
	states := parser.States(p, data)
	if len(states) == 0 || len(states) > 12 || states[0] != 0 || !slices.IsSorted(states) || len(slices.Compact(slices.Clone(states))) != len(states) {
		t.Fatalf("States(%+v, %x) = %v", p.States, data, states)
	}
	if e != api.OK {
		return
	}
	extracted := make([]bool, len(p.Headers))
	for _, s := range states {
		for _, h := range p.States[s].Extract {
			extracted[h] = true
		}
	}
	if c := env.Check(p, packet); c != api.OK || !slices.Equal(packet.Valid, extracted) || !slices.Equal(packet.Meta, make([]uint32, len(p.Metadata))) {
		t.Fatalf("Parse(%+v, %x) = %v, which env.Check calls %v", p.States, data, packet, c)
	}
	for _, more := range [][]byte{{0}, {1, 2, 3}, make([]byte, 512-len(data))} {
		packet.Payload = append(packet.Payload, more...)
		data = append(data, more...)
		if len(data) <= 512 {
			expectParse(t, p, data, packet, states, api.OK)
		}
	}
}

// P18.2 to P18.4: random parsers and packets, held against parsed
func TestRandomParsers(t *testing.T) {
	r := random(18)
	ends := map[api.Errno]int{}
	for range 3000 {
		p := randomProgram(&r)
		expectCheck(t, p, 0, 0, api.OK)
		for range 8 {
			data := randomData(&r, r.below(30))
			_, _, e := parsed(p, data)
			ends[e]++
			expectParsed(t, p, data)
			expectConsequences(t, p, data)
		}
		if t.Failed() {
			return
		}
	}
	if ends[api.OK] < 2000 || ends[api.ErrReject] < 2000 || ends[api.ErrShort] < 2000 {
		t.Errorf("the parses end so: %v", ends)
	}
}

// fault is an error that a parser may have, and where.
type fault struct {
	has       bool
	item, sub int
	code      api.Errno
}

func isNext(p api.Program, i, next int) bool {
	return next == -1 || next == -2 || next > i && next < len(p.States)
}

// faultsOf lists all that may be wrong with state i, in the document's order.
func faultsOf(p api.Program, i int) []fault {
	s := p.States[i]
	sameName := func(x api.ParserState) bool { return x.Name == s.Name }
	l := []fault{
		{slices.Contains(wrongNames, s.Name), i, -1, api.ErrName},
		{slices.ContainsFunc(p.States[:i], sameName), i, -1, api.ErrDuplicate},
		{len(s.Extract) > 4, i, -1, api.ErrLimit},
		{len(s.Cases) > 8, i, -1, api.ErrLimit},
	}
	for _, h := range s.Extract {
		l = append(l, fault{h < 0 || h >= len(p.Headers), i, -1, api.ErrNotFound})
	}
	w := env.Width(p, s.On)
	l = append(l, fault{s.Select && w == 0, i, -1, api.ErrNotFound}, fault{!s.Select && len(s.Cases) > 0, i, -1, api.ErrKind})
	for sub, c := range s.Cases {
		l = append(l, fault{uint64(c.Value) >= 1<<w || uint64(c.Mask) >= 1<<w, i, sub, api.ErrRange})
		l = append(l, fault{c.Value|c.Mask != c.Mask, i, sub, api.ErrSyntax}, fault{!isNext(p, i, c.Next), i, sub, api.ErrOrder})
	}
	return append(l, fault{!isNext(p, i, s.Default), i, -1, api.ErrOrder})
}

func firstFault(p api.Program) fault {
	for i := range p.States {
		for _, f := range faultsOf(p, i) {
			if f.has {
				return f
			}
		}
	}
	return fault{}
}

// spoil makes something of a program wrong, or not.
func spoil(r *random, p *api.Program) {
	s := &p.States[r.below(len(p.States))]
	if len(s.Cases) > 0 && r.chance(2) {
		c := &s.Cases[r.below(len(s.Cases))]
		switch r.below(4) {
		case 0:
			c.Value = r.bits() >> r.below(32)
		case 1:
			c.Mask = r.bits() >> r.below(32)
		default:
			c.Next = pick(r, append([]int{0, 1, 2, 3, 4, 5, 11, 12}, wrongNumbers...))
		}
		return
	}
	switch r.below(7) {
	case 0:
		s.Name = pick(r, wrongNames)
	case 1:
		s.Name = p.States[r.below(len(p.States))].Name
	case 2:
		s.Extract = append(s.Extract, r.below(6)-1, 0)
	case 3:
		s.Cases = append(s.Cases, caseOf(0, 0, api.Accept), caseOf(1, 1, api.Reject))
	case 4:
		s.On = ref(r.below(6)-1, r.below(4))
	case 5:
		s.Select = !s.Select
	case 6:
		s.Default = pick(r, append([]int{0, 1, 2, 3, 4, 5, 11, 12}, wrongNumbers...))
	}
}

// P18.1: random parsers with some faults, held against the lists of their faults
func TestRandomFaults(t *testing.T) {
	r := random(181)
	codes := map[api.Errno]int{}
	for range 8000 {
		p := randomProgram(&r)
		for range 1 + r.below(3) {
			spoil(&r, &p)
		}
		f := firstFault(p)
		codes[f.code]++
		expectCheck(t, p, f.item, f.sub, f.code)
		if t.Failed() {
			return
		}
	}
	for _, e := range []api.Errno{api.OK, api.ErrName, api.ErrDuplicate, api.ErrLimit, api.ErrNotFound, api.ErrKind, api.ErrRange, api.ErrSyntax, api.ErrOrder} {
		if codes[e] < 20 {
			t.Errorf("%v comes %d times", e, codes[e])
		}
	}
}

// P18.2: the headers of the program, whether a state extracts them or not
func TestParseHeaders(t *testing.T) {
	for h := range 4 {
		for _, change := range []func(x *api.Header){
			func(x *api.Header) { x.Name = "" },
			func(x *api.Header) { x.Fields = nil },
			func(x *api.Header) { x.Fields = widths(slices.Repeat([]int{8}, 13)...) },
			func(x *api.Header) { x.Fields[0].Name = "1" },
			func(x *api.Header) { x.Fields[0].Width++ },
			func(x *api.Header) { x.Fields = append(x.Fields, x.Fields[0]) },
			func(x *api.Header) { x.Fields = append(x.Fields, api.Field{Name: "more", Width: 33}) },
		} {
			for _, s := range []api.ParserState{plain(api.Accept), plain(api.Reject), plain(api.Accept, h)} {
				p := sample(s)
				change(&p.Headers[h])
				if header.Check(p.Headers[h]) == api.OK {
					t.Fatalf("header %d is valid", h)
				}
				expectParserOnly(t, p, 0, 0, api.OK)
				for _, size := range []int{0, 10, 512, 513} {
					expectParse(t, p, make([]byte, size), env.New(p), nil, api.ErrArg)
				}
			}
		}
	}
}

// P18.2: two headers of one name, and what header.Check doesn't ask, don't matter
func TestParseOtherParts(t *testing.T) {
	p := sample(plain(api.Accept, 0))
	for range 20 {
		p.Headers = append(p.Headers, p.Headers[0])
	}
	p.Metadata, p.Name, p.Deparser = widths(0, -1, 99), "1", []int{99}
	p.Tables, p.Actions, p.Control = make([]api.Table, 20), make([]api.Action, 20), make([]api.ControlNode, 30)
	expectParsed(t, p, []byte{1, 2})
	if packet, e := parser.Parse(p, []byte{1, 2}); e != api.OK || len(packet.Valid) != 24 || !slices.Equal(packet.Meta, []uint32{0, 0, 0}) {
		t.Errorf("Parse = %v, %v", packet, e)
	}
	p = api.Program{States: sample(plain(api.Accept)).States}
	expectParse(t, p, []byte{1, 2}, api.Env{Payload: []byte{1, 2}}, []int{0}, api.OK)
	expectParse(t, api.Program{}, []byte{1, 2}, api.Env{}, nil, api.ErrArg)
}

// P18.2, P18.3: the length of the data
func TestParseLength(t *testing.T) {
	for _, s := range []api.ParserState{plain(api.Accept), plain(api.Reject), plain(api.Accept, 0, 1, 2, 3)} {
		p := sample(s)
		for _, size := range []int{0, 1, 9, 10, 11, 511, 512} {
			expectParsed(t, p, randomData(new(random), size))
		}
		for _, size := range []int{513, 514, 1024, 1 << 20} {
			expectParse(t, p, make([]byte, size), env.New(p), nil, api.ErrLong)
		}
	}
}

// P18.2: data that are too short, by each number of bytes
func TestParseShort(t *testing.T) {
	p := sample(plain(1, 3, 0, 3), plain(2), plain(api.Reject, 1, 1))
	for size := range 20 {
		want, states := api.ErrShort, []int{0, 1, 2}
		if size < 9 {
			states = []int{0}
		}
		if size >= 13 {
			want = api.ErrReject
		}
		expectParse(t, p, randomData(new(random), size), env.New(p), states, want)
	}
}

// P18.2: a header that is extracted twice has its new fields
func TestParseAgain(t *testing.T) {
	p := sample(plain(1, 0, 1, 0), plain(api.Accept, 1))
	data := []byte{1, 0x23, 0x45, 6, 0x78, 0x9a, 11, 12}
	packet := env.New(p)
	packet.Valid[0], packet.Valid[1] = true, true
	packet.Fields[0], packet.Fields[1] = []uint32{6}, []uint32{7, 0x89a}
	packet.Payload = []byte{11, 12}
	expectParse(t, p, data, packet, []int{0, 1}, api.OK)
}

// P18.2: the first case that agrees, in the bits of its mask
func TestParseSelect(t *testing.T) {
	p := sample(
		selecting([]int{0}, ref(0, 0), 1, caseOf(0x10, 0xf0, 2), caseOf(0x11, 0xff, 3), caseOf(0x01, 0x0f, 4), caseOf(0x80, 0x80, api.Accept), caseOf(0x40, 0xc0, api.Reject)),
		plain(api.Accept), plain(api.Accept), plain(api.Accept), plain(api.Accept),
	)
	for v := range 256 {
		states, e := []int{0}, api.OK
		switch {
		case v >= 0x10 && v <= 0x1f:
			states = []int{0, 2}
		case v%16 == 1:
			states = []int{0, 4}
		case v >= 0x80:
		case v >= 0x40:
			e = api.ErrReject
		default:
			states = []int{0, 1}
		}
		if _, got := parser.Parse(p, []byte{byte(v)}); got != e || !slices.Equal(parser.States(p, []byte{byte(v)}), states) {
			t.Errorf("of %#x Parse = %v, States = %v", v, got, parser.States(p, []byte{byte(v)}))
		}
		expectParsed(t, p, []byte{byte(v), 9})
	}
}

// P18.2: a field of a header that isn't extracted, or not yet, is 0, as are all metadata
func TestParseSelectOfZero(t *testing.T) {
	for _, on := range []api.FieldRef{ref(1, 0), ref(1, 1), ref(3, 0), meta(0), meta(2), meta(4)} {
		p := sample(selecting([]int{0}, on, api.Reject, caseOf(1, 1, api.Reject), caseOf(0, 1, 1)), plain(api.Accept, 1, 3))
		expectParsed(t, p, []byte{255, 255, 255, 255, 255, 255, 255, 255})
		if got := parser.States(p, slices.Repeat([]byte{255}, 8)); !slices.Equal(got, []int{0, 1}) {
			t.Errorf("States with %v = %v", on, got)
		}
	}
}

// P18.2: a state without Select ignores the field, and one with Select may have no cases
func TestParseDefault(t *testing.T) {
	p := sample(plain(1, 0), selecting([]int{0}, ref(0, 0), 3), plain(api.Reject), plain(api.Accept))
	p.States[0].On = ref(9, 9)
	packet := env.New(p)
	packet.Valid[0], packet.Fields[0], packet.Payload = true, []uint32{7}, []byte{8}
	expectParse(t, p, []byte{0, 7, 8}, packet, []int{0, 1, 3}, api.OK)
}

// P18.2 to P18.4: the greatest parser on the greatest packet
func TestGreatestParser(t *testing.T) {
	p := api.Program{Headers: headers(slices.Repeat([]int{32}, 12), []int{32, 32, 16})}
	for i := range 12 {
		next := i + 1
		if i == 11 {
			next = api.Accept
		}
		p.States = append(p.States, selecting([]int{1, 1, 1, 1}, ref(1, 1), api.Reject, slices.Repeat([]api.SelectCase{caseOf(0, 0, next)}, 8)...))
		p.States[i].Name = "s" + strconv.Itoa(i)
	}
	r := random(3)
	for _, size := range []int{480, 481, 511, 512} {
		data := randomData(&r, size)
		expectParsed(t, p, data)
		expectConsequences(t, p, data)
		if got := parser.States(p, data); len(got) != 12 {
			t.Errorf("States = %v", got)
		}
	}
	p.States[11].Extract = []int{0}
	for _, size := range []int{439, 440, 487, 488, 512} {
		expectParsed(t, p, randomData(&r, size))
	}
	p.States[11].Extract = []int{1, 1, 1, 0}
	expectParse(t, p, randomData(&r, 512), env.New(p), []int{0, 1, 2, 3, 4, 5, 6, 7, 8, 9, 10, 11}, api.ErrShort)
}

// P18.2, P18.3: answers are memory of their own
func TestAnswersAreNew(t *testing.T) {
	p := sample(plain(1, 0, 1, 0), plain(api.Accept, 2))
	data := randomData(new(random), 12)
	before, given := text(p), slices.Clone(data)
	want, wantStates, _ := parsed(p, data)
	for range 2 {
		expectParse(t, p, data, want, wantStates, api.OK)
		packet, _ := parser.Parse(p, data)
		states := parser.States(p, data)
		clear(states[:cap(states)])
		clear(packet.Payload[:cap(packet.Payload)])
		clear(packet.Valid[:cap(packet.Valid)])
		clear(packet.Meta[:cap(packet.Meta)])
		for h, vals := range packet.Fields {
			before := fmt.Sprint(packet.Fields[h+1:])
			for i := range vals[:cap(vals)] {
				vals[:cap(vals)][i] = 77
			}
			if fmt.Sprint(packet.Fields[h+1:]) != before {
				t.Error("headers share memory")
			}
		}
	}
	if text(p) != before || !slices.Equal(data, given) {
		t.Error("what is answered is shared with what was given")
	}
}

// P18.1 to P18.3: programs beyond the limits
func TestBeyondLimits(t *testing.T) {
	const n = 20000
	p := sample(plain(api.Accept, n-1, 0))
	p.Headers, p.Metadata = nil, make([]api.Field, n)
	for range n {
		p.Headers = append(p.Headers, api.Header{Name: "h", Fields: widths(8)})
	}
	packet, e := parser.Parse(p, []byte{1, 2, 3})
	if e != api.OK || len(packet.Valid) != n || !slices.Equal(packet.Fields[n-1], []uint32{1}) || !slices.Equal(packet.Fields[0], []uint32{2}) {
		t.Errorf("Parse = %v", e)
	}
	p.Headers[n-1].Name = ""
	if packet, e := parser.Parse(p, []byte{1, 2, 3}); e != api.ErrArg || !env.Equal(packet, env.New(p)) {
		t.Errorf("Parse with an invalid header = %v", e)
	}
}

// P18.1 to P18.3: example 1
func TestExample(t *testing.T) {
	p := api.Program{
		Headers: headers([]int{8}),
		States: []api.ParserState{
			{Name: "start", Extract: []int{0}, Select: true, Cases: []api.SelectCase{{Value: 1, Mask: 255, Next: 1}}, Default: api.Reject},
			{Name: "rest", Default: api.Accept},
		},
	}
	expectCheck(t, p, 0, 0, api.OK)
	expectParse(t, p, []byte{1, 9}, api.Env{Valid: []bool{true}, Fields: [][]uint32{{1}}, Payload: []byte{9}}, []int{0, 1}, api.OK)
	none := api.Env{Valid: []bool{false}, Fields: [][]uint32{{0}}}
	expectParse(t, p, []byte{2}, none, []int{0}, api.ErrReject)
	expectParse(t, p, nil, none, []int{0}, api.ErrShort)
}
