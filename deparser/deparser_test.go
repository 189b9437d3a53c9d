package deparser_test

import (
	"fmt"
	"math"
	"slices"
	"strconv"
	"strings"
	"testing"

	"patchbay/api"
	"patchbay/deparser"
	"patchbay/env"
	"patchbay/header"
	"patchbay/parser"
)

var wrongNumbers = []int{math.MinInt, -1 << 32, -2, -1, 99, 1 << 32, 1<<32 + 1, math.MaxInt}

// random is a row of numbers that look like no rule, the same ones for the same seed.
type random uint64

func (r *random) bits() uint32 {
	*r = *r*6364136223846793005 + 1442695040888963407
	return uint32(*r >> 32)
}

func (r *random) below(n int) int { return int(r.bits()>>4) % n }

func (r *random) chance(n int) bool { return r.below(n) == 0 }

func pick[T any](r *random, l []T) T { return l[r.below(len(l))] }

func greatest(w int) uint32 { return uint32(uint64(1)<<w - 1) }

func widths(l ...int) []api.Field {
	var fields []api.Field
	for i, w := range l {
		fields = append(fields, api.Field{Name: "f" + strconv.Itoa(i), Width: w})
	}
	return fields
}

func headers(lists ...[]int) []api.Header {
	var l []api.Header
	for i, w := range lists {
		l = append(l, api.Header{Name: "h" + strconv.Itoa(i), Fields: widths(w...)})
	}
	return l
}

// bytesOnly answers n headers of a byte each.
func bytesOnly(n int) []api.Header { return headers(slices.Repeat([][]int{{8}}, n)...) }

// sample is a program whose headers have 1, 2, 3 and 4 bytes.
func sample(emitted ...int) api.Program {
	return api.Program{
		Headers:  headers([]int{8}, []int{4, 12}, []int{1, 7, 16}, []int{32}),
		Metadata: widths(8, 8, 1, 33, 0),
		Deparser: emitted,
	}
}

// filled answers an environment of sample whose valid headers are those of the list.
func filled(payload string, valid ...int) api.Env {
	e := env.New(sample())
	all := [][]uint32{{0xa1}, {0xb, 0x2c3}, {1, 0x54, 0xd5e6}, {0xf7f8f9fa}}
	for _, h := range valid {
		e.Valid[h], e.Fields[h] = true, all[h]
	}
	e.Meta[0], e.Payload = 255, []byte(payload)
	return e
}

// text writes a program and an environment with what lies behind the lengths of their lists.
func text(p api.Program, e api.Env) string {
	var s strings.Builder
	fmt.Fprintf(&s, "%+v %v %v", p, p.Headers[:cap(p.Headers)], p.Deparser[:cap(p.Deparser)])
	fmt.Fprint(&s, e.Valid[:cap(e.Valid)], e.Fields[:cap(e.Fields)], e.Meta[:cap(e.Meta)], e.Payload[:cap(e.Payload)])
	return s.String()
}

func expectCheck(t *testing.T, p api.Program, at int, want api.Errno) {
	t.Helper()
	before := text(p, api.Env{})
	if i, e := deparser.Check(p); i != at || e != want {
		t.Errorf("Check of %v with %d headers = %d, %v, want %d, %v", p.Deparser, len(p.Headers), i, e, at, want)
	}
	if text(p, api.Env{}) != before {
		t.Error("the program is changed")
	}
	if want == api.OK {
		return
	}
	e := env.New(p)
	for h := range e.Valid {
		e.Valid[h] = true
	}
	e.Payload = []byte{1, 2}
	expectEmit(t, p, e, "")
}

func expectEmit(t *testing.T, p api.Program, e api.Env, want string) {
	t.Helper()
	before := text(p, e)
	if got := deparser.Emit(p, e); string(got) != want {
		t.Errorf("Emit(%v %v, %v) = %x, want %x", p.Headers, p.Deparser, e, got, want)
	}
	if got := deparser.Size(p, e); got != len(want) {
		t.Errorf("Size(%v %v, %v) = %d, want %d", p.Headers, p.Deparser, e, got, len(want))
	}
	if text(p, e) != before {
		t.Error("the arguments are changed")
	}
}

// ascending answers the numbers from 0 to n-1.
func ascending(n int) []int {
	l := make([]int, n)
	for i := range l {
		l[i] = i
	}
	return l
}

// P19.1: how many elements there may be
func TestCheckLimit(t *testing.T) {
	for _, have := range []int{8, 9, 10, 40} {
		for n := range have + 1 {
			p := api.Program{Headers: bytesOnly(have), Deparser: ascending(n)}
			if n <= 8 {
				expectCheck(t, p, 0, api.OK)
				continue
			}
			expectCheck(t, p, -1, api.ErrLimit)
			for _, wrong := range wrongNumbers {
				p.Deparser[0] = wrong
				expectCheck(t, p, -1, api.ErrLimit)
			}
			p.Deparser = make([]int, n)
			expectCheck(t, p, -1, api.ErrLimit)
		}
	}
	expectCheck(t, api.Program{}, 0, api.OK)
	expectCheck(t, api.Program{Deparser: []int{}}, 0, api.OK)
	expectCheck(t, api.Program{Deparser: make([]int, 9)}, -1, api.ErrLimit)
	expectCheck(t, api.Program{Deparser: make([]int, 100000)}, -1, api.ErrLimit)
	expectCheck(t, api.Program{Deparser: make([]int, 8)}, 0, api.ErrNotFound)
}

// P19.1: elements that are no header, wherever they stand
func TestCheckNotFound(t *testing.T) {
	for n := 1; n <= 8; n++ {
		for i := range n {
			for _, wrong := range append([]int{n, n + 1}, wrongNumbers...) {
				p := api.Program{Headers: bytesOnly(n), Deparser: ascending(n)}
				p.Deparser[i] = wrong
				expectCheck(t, p, i, api.ErrNotFound)
				for j := i + 1; j < n; j++ {
					p.Deparser[j] = wrong
				}
				expectCheck(t, p, i, api.ErrNotFound)
			}
		}
	}
	p := api.Program{Headers: bytesOnly(12), Deparser: []int{11, 8, 10, 9}}
	expectCheck(t, p, 0, api.OK)
	p.Headers = p.Headers[:9]
	expectCheck(t, p, 0, api.ErrNotFound)
	p.Deparser = p.Deparser[1:]
	expectCheck(t, p, 1, api.ErrNotFound)
}

// P19.1: equal elements, wherever they stand
func TestCheckDuplicate(t *testing.T) {
	for j := range 8 {
		for i := range j {
			p := api.Program{Headers: bytesOnly(8), Deparser: []int{7, 2, 5, 0, 6, 1, 4, 3}}
			p.Deparser[j] = p.Deparser[i]
			expectCheck(t, p, j, api.ErrDuplicate)
			for k := j + 1; k < 8; k++ {
				p.Deparser[k] = pick(new(random), wrongNumbers)
			}
			expectCheck(t, p, j, api.ErrDuplicate)
			p.Deparser[i] = -1
			expectCheck(t, p, i, api.ErrNotFound)
		}
	}
	expectCheck(t, sample(1, 1, 9), 1, api.ErrDuplicate)
	expectCheck(t, sample(1, 9, 1), 1, api.ErrNotFound)
	expectCheck(t, sample(9, 9), 0, api.ErrNotFound)
	expectCheck(t, sample(0, 1, 0, 1), 2, api.ErrDuplicate)
}

// faultOf answers the first error of a list by P19.1, from a table of all elements' errors.
func faultOf(l []int, headers int) (int, api.Errno) {
	if len(l) > 8 {
		return -1, api.ErrLimit
	}
	places := map[int]int{}
	for i := len(l) - 1; i >= 0; i-- {
		places[l[i]] = i
	}
	for i, h := range l {
		if h < 0 || h > headers-1 {
			return i, api.ErrNotFound
		}
		if places[h] != i {
			return i, api.ErrDuplicate
		}
	}
	return 0, api.OK
}

// P19.1: random lists, held against faultOf
func TestRandomLists(t *testing.T) {
	r := random(19)
	codes := map[api.Errno]int{}
	for range 4000 {
		have := r.below(10)
		l := make([]int, r.below(11))
		for i := range l {
			l[i] = r.below(max(have, 2))
			if r.chance(14) {
				l[i] = pick(&r, wrongNumbers)
			}
		}
		at, e := faultOf(l, have)
		codes[e]++
		expectCheck(t, api.Program{Headers: bytesOnly(have), Deparser: l}, at, e)
	}
	for _, e := range []api.Errno{api.OK, api.ErrLimit, api.ErrNotFound, api.ErrDuplicate} {
		if codes[e] < 100 {
			t.Errorf("%v comes %d times", e, codes[e])
		}
	}
}

// P19.1: Check looks at nothing but the deparser and the number of headers
func TestCheckDeparserOnly(t *testing.T) {
	expectCheckOnly := func(p api.Program) {
		t.Helper()
		if at, e := deparser.Check(p); at != 0 || e != api.OK {
			t.Errorf("Check = %d, %v", at, e)
		}
	}
	expectCheckOnly(api.Program{Headers: make([]api.Header, 3), Deparser: []int{2, 0, 1}})
	expectCheckOnly(api.Program{Headers: make([]api.Header, 30), Deparser: []int{29}, Metadata: widths(0, -1, 99)})
}

// P19.1, P19.2: what lies behind the length of a list doesn't count
func TestBehindLengths(t *testing.T) {
	p := sample(2, 0, 0, -7)
	p.Deparser = p.Deparser[:2]
	expectCheck(t, p, 0, api.OK)
	expectEmit(t, p, filled("pay", 0, 2), "\xd4\xd5\xe6\xa1pay")
	e := filled("payload", 0, 2)
	e.Payload = e.Payload[:3]
	expectEmit(t, p, e, "\xd4\xd5\xe6\xa1pay")
	p.Headers = append(p.Headers, api.Header{})[:4]
	expectEmit(t, p, e, "\xd4\xd5\xe6\xa1pay")
	e.Valid, e.Fields = append(e.Valid, true)[:4], append(e.Fields, []uint32{1})[:4]
	expectEmit(t, p, e, "\xd4\xd5\xe6\xa1pay")
	p.Headers = p.Headers[:2]
	expectCheck(t, p, 0, api.ErrNotFound)
}

// P19.2, P19.4: which headers are emitted, and in which order
func TestEmitOrder(t *testing.T) {
	const a, b, c, d = "\xa1", "\xb2\xc3", "\xd4\xd5\xe6", "\xf7\xf8\xf9\xfa"
	all := filled("!", 0, 1, 2, 3)
	expectEmit(t, sample(0, 1, 2, 3), all, a+b+c+d+"!")
	expectEmit(t, sample(3, 2, 1, 0), all, d+c+b+a+"!")
	expectEmit(t, sample(1, 3, 0, 2), all, b+d+a+c+"!")
	expectEmit(t, sample(1, 3), all, b+d+"!")
	expectEmit(t, sample(2), all, c+"!")
	expectEmit(t, sample(), all, "!")
	expectEmit(t, sample(0, 1, 2, 3), filled("!"), "!")
	expectEmit(t, sample(0, 1, 2, 3), filled("", 3, 1), b+d)
	expectEmit(t, sample(3, 2, 1, 0), filled("", 0, 3), d+a)
	expectEmit(t, sample(2, 1), filled("?", 0, 3), "?")
	expectEmit(t, sample(0, 1, 2, 3), filled(""), "")
	expectEmit(t, sample(), filled(""), "")
	expectEmit(t, api.Program{}, api.Env{}, "")
	expectEmit(t, api.Program{}, api.Env{Payload: []byte("abc")}, "abc")
}

// P19.2: header.Check must accept every header, whether it is emitted and valid or not
func TestEmitInvalidHeaders(t *testing.T) {
	spoil := []func(h *api.Header){
		func(h *api.Header) { h.Name = "" },
		func(h *api.Header) { h.Name = "7" },
		func(h *api.Header) { h.Name = "seventeen_letters" },
		func(h *api.Header) { h.Fields[0].Name = "" },
		func(h *api.Header) { h.Fields[0].Width = 0 },
		func(h *api.Header) { h.Fields[0].Width = 33 },
		func(h *api.Header) { h.Fields[0].Width-- },
		func(h *api.Header) { h.Fields[0].Width++ },
	}
	for _, emitted := range [][]int{nil, {0}, {1, 2}, {3, 2, 1, 0}} {
		for _, valid := range [][]int{nil, {1}, {0, 1, 2, 3}} {
			for _, change := range spoil {
				for h := range 4 {
					p, e := sample(emitted...), env.New(sample())
					for _, v := range valid {
						e.Valid[v] = true
					}
					e.Payload = []byte{5}
					change(&p.Headers[h])
					if header.Check(p.Headers[h]) == api.OK {
						t.Fatalf("%v is valid", p.Headers[h])
					}
					expectEmit(t, p, e, "")
				}
			}
		}
	}
	p := api.Program{Headers: append(bytesOnly(3), api.Header{Name: "none"})}
	expectEmit(t, p, api.Env{Valid: make([]bool, 4), Fields: [][]uint32{{0}, {0}, {0}, nil}, Payload: []byte{1}}, "")
	p.Headers[3] = headers(slices.Repeat([]int{8}, 13))[0]
	expectEmit(t, p, api.Env{Valid: make([]bool, 4), Fields: [][]uint32{{0}, {0}, {0}, make([]uint32, 13)}, Payload: []byte{1}}, "")
	p.Headers[3].Fields = p.Headers[3].Fields[:12]
	expectEmit(t, p, api.Env{Valid: make([]bool, 4), Fields: [][]uint32{{0}, {0}, {0}, make([]uint32, 12)}, Payload: []byte{1}}, "\x01")
}

// P19.2: headers of one name, and metadata that no check lets pass, are no matter here
func TestEmitRepeatedNames(t *testing.T) {
	p := sample(1, 0)
	p.Headers[0].Name, p.Headers[1].Name = "same", "same"
	p.Metadata[0].Name, p.Metadata[1].Name = "", "f2"
	expectEmit(t, p, filled("+", 0, 1), "\xb2\xc3\xa1+")
}

// P19.2: env.Check must accept the packet, also in what isn't emitted
func TestEmitWrongEnvironments(t *testing.T) {
	spoil := []func(e *api.Env){
		func(e *api.Env) { e.Valid = e.Valid[:3] },
		func(e *api.Env) { e.Valid = append(e.Valid, false) },
		func(e *api.Env) { e.Fields = e.Fields[:3] },
		func(e *api.Env) { e.Fields = append(e.Fields, nil) },
		func(e *api.Env) { e.Fields[1] = e.Fields[1][:1] },
		func(e *api.Env) { e.Fields[3] = nil },
		func(e *api.Env) { e.Fields[0] = append(e.Fields[0], 0) },
		func(e *api.Env) { e.Meta = e.Meta[:4] },
		func(e *api.Env) { e.Meta = append(e.Meta, 0) },
		func(e *api.Env) { e.Meta = nil },
		func(e *api.Env) { e.Meta[0] = 256 },
		func(e *api.Env) { e.Meta[2] = 2 },
		func(e *api.Env) { e.Meta[3] = 1 },
		func(e *api.Env) { e.Meta[4] = 1 },
		func(e *api.Env) { e.Fields[0][0] = 256 },
		func(e *api.Env) { e.Fields[1][0] = 16 },
		func(e *api.Env) { e.Fields[1][1] = 1 << 12 },
		func(e *api.Env) { e.Fields[2][0] = math.MaxUint32 },
		func(e *api.Env) { e.Valid[0] = false },
		func(e *api.Env) { e.Valid[1], e.Fields[1] = false, []uint32{0, 1} },
		func(e *api.Env) { e.Valid[2], e.Fields[2] = false, []uint32{1, 0, 0} },
		func(e *api.Env) { e.Valid[3] = false },
		func(e *api.Env) { *e = api.Env{Payload: e.Payload} },
	}
	for _, emitted := range [][]int{nil, {0}, {2, 1}, {0, 1, 2, 3}} {
		for _, change := range spoil {
			e := filled("payload", 0, 1, 2, 3)
			change(&e)
			if env.Check(sample(), e) == api.OK {
				t.Fatalf("%v is valid", e)
			}
			expectEmit(t, sample(emitted...), e, "")
		}
	}
}

// bitsOf answers v as text of w bits.
func bitsOf(v uint32, w int) string { return fmt.Sprintf("%0*b", w, v) }

// emitted is what Emit answers by P19.2 of a valid program and environment, worked out on the text of the bits.
func emitted(p api.Program, e api.Env) string {
	bits := ""
	for _, h := range p.Deparser {
		if !e.Valid[h] {
			continue
		}
		for f, field := range p.Headers[h].Fields {
			bits += bitsOf(e.Fields[h][f], field.Width)
		}
	}
	var s strings.Builder
	for ; bits != ""; bits = bits[8:] {
		v, _ := strconv.ParseUint(bits[:8], 2, 8)
		s.WriteByte(byte(v))
	}
	return s.String() + string(e.Payload)
}

// randomWidths answers the widths of a valid header.
func randomWidths(r *random) []int {
	var l []int
	total := 0
	for range 1 + r.below(11) {
		w := 1 + r.below(32)
		if r.chance(2) {
			w = 1 + r.below(8)
		}
		l, total = append(l, w), total+w
	}
	if total%8 != 0 {
		l = append(l, 8-total%8)
	}
	return l
}

func shuffled(r *random, l []int) []int {
	for i := range l {
		j := i + r.below(len(l)-i)
		l[i], l[j] = l[j], l[i]
	}
	return l
}

func randomProgram(r *random) api.Program {
	p := api.Program{Metadata: widths(8, 8, 1, 99)}
	var lists [][]int
	for range r.below(9) {
		lists = append(lists, randomWidths(r))
	}
	p.Headers = headers(lists...)
	p.Deparser = shuffled(r, ascending(len(lists)))[:r.below(len(lists)+1)]
	return p
}

func randomEnv(r *random, p api.Program) api.Env {
	e := env.New(p)
	for h := range e.Valid {
		if r.chance(3) {
			continue
		}
		e.Valid[h] = true
		for f, field := range p.Headers[h].Fields {
			e.Fields[h][f] = pick(r, []uint32{r.bits() & greatest(field.Width), greatest(field.Width), 0})
		}
	}
	for range r.below(20) {
		e.Payload = append(e.Payload, byte(r.bits()))
	}
	return e
}

// P19.2 to P19.4: random programs and environments, held against emitted
func TestRandomPackets(t *testing.T) {
	r := random(1902)
	for range 1500 {
		p := randomProgram(&r)
		for range 4 {
			e := randomEnv(&r, p)
			expectEmit(t, p, e, emitted(p, e))
			size := len(e.Payload)
			for _, h := range p.Deparser {
				if e.Valid[h] {
					size += header.Bits(p.Headers[h]) / 8
				}
			}
			if got := deparser.Size(p, e); got != size {
				t.Fatalf("Size = %d, want %d", got, size)
			}
		}
	}
}

// P19.4: a header that isn't emitted has no part in the output
func TestContributions(t *testing.T) {
	r := random(1904)
	for range 1000 {
		p := randomProgram(&r)
		e := randomEnv(&r, p)
		want := string(deparser.Emit(p, e))
		for h := range p.Headers {
			other := env.Clone(e)
			if !slices.Contains(p.Deparser, h) {
				other = env.AddHeader(p, env.RemoveHeader(p, e, h), h)
				expectEmit(t, p, other, want)
				other = env.RemoveHeader(p, e, h)
				expectEmit(t, p, other, want)
				continue
			}
			if !e.Valid[h] {
				q := p
				q.Deparser = slices.DeleteFunc(slices.Clone(p.Deparser), func(x int) bool { return x == h })
				expectEmit(t, q, other, want)
			}
		}
	}
}

// P19.5: the deparser in two parts
func TestConcatenation(t *testing.T) {
	r := random(1905)
	for range 1000 {
		p := randomProgram(&r)
		e := randomEnv(&r, p)
		whole := string(deparser.Emit(p, e))
		for i := range len(p.Deparser) + 1 {
			first, second, bare := p, p, e
			first.Deparser, second.Deparser, bare.Payload = p.Deparser[:i], p.Deparser[i:], nil
			got := string(deparser.Emit(first, bare)) + string(deparser.Emit(second, e))
			if got != whole {
				t.Fatalf("in two parts, %v and %v: %x, want %x", first.Deparser, second.Deparser, got, whole)
			}
		}
	}
}

// P19.2: the payload isn't limited
func TestGreatestPackets(t *testing.T) {
	p := api.Program{Headers: headers(slices.Repeat([][]int{slices.Repeat([]int{32}, 12)}, 8)...), Deparser: []int{7, 6, 5, 4, 3, 2, 1, 0}}
	e, r := env.New(p), random(7)
	for h := range e.Fields {
		e.Valid[h] = true
		for f := range e.Fields[h] {
			e.Fields[h][f] = r.bits()
		}
	}
	for _, size := range []int{0, 1, 511, 512, 513, 1 << 20} {
		e.Payload = make([]byte, size)
		for i := range e.Payload {
			e.Payload[i] = byte(r.bits())
		}
		want := emitted(p, e)
		if len(want) != 384+size {
			t.Fatal(len(want))
		}
		if got := deparser.Emit(p, e); string(got) != want || deparser.Size(p, e) != len(want) {
			t.Errorf("Emit with a payload of %d bytes: %d bytes", size, len(got))
		}
	}
}

// P19.1, P19.2: more headers than a valid program has
func TestBeyondLimits(t *testing.T) {
	const n = 20000
	p := api.Program{Headers: bytesOnly(n), Deparser: []int{n - 1, 0, 12345}}
	e := env.New(p)
	for _, h := range p.Deparser {
		e.Valid[h], e.Fields[h][0] = true, uint32(h%256)
	}
	if got := deparser.Emit(p, e); string(got) != "\x1f\x00\x39" || deparser.Size(p, e) != 3 {
		t.Errorf("Emit = %x", got)
	}
	p.Headers[n-2].Name = ""
	if got := deparser.Emit(p, e); len(got) != 0 || deparser.Size(p, e) != 0 {
		t.Errorf("Emit with an invalid header = %x", got)
	}
}

// P19.2: what is parsed is emitted as it was, if the deparser has the order of the parser
func TestParsedPackets(t *testing.T) {
	p := sample(2, 0, 3)
	p.States = []api.ParserState{{Name: "a", Extract: []int{2, 0}, Default: 1}, {Name: "b", Extract: []int{3}, Default: api.Accept}}
	r := random(18)
	for size := 8; size < 40; size++ {
		data := make([]byte, size)
		for i := range data {
			data[i] = byte(r.bits())
		}
		e, code := parser.Parse(p, data)
		if code != api.OK {
			t.Fatal(code)
		}
		expectEmit(t, p, e, string(data))
	}
}

// P19.2: an answer is memory of its own
func TestAnswersAreNew(t *testing.T) {
	for _, l := range [][]int{nil, {0}, {3, 2, 1, 0}} {
		p, e := sample(l...), filled("payload", 0, 1, 2, 3)
		before := text(p, e)
		want := emitted(p, e)
		for range 3 {
			got := deparser.Emit(p, e)
			if string(got) != want {
				t.Errorf("Emit = %x, want %x", got, want)
			}
			clear(got[:cap(got)])
			if text(p, e) != before {
				t.Error("the answer shares memory with what was given")
			}
		}
		got := deparser.Emit(p, e)
		clear(e.Payload)
		clear(e.Fields[0])
		if string(got) != want {
			t.Error("what was given shares memory with the answer")
		}
	}
}

// P19.1 to P19.3: example 1
func TestExample(t *testing.T) {
	p := api.Program{
		Headers:  []api.Header{{Name: "a", Fields: widths(8)}, {Name: "b", Fields: widths(4, 4)}},
		Deparser: []int{1, 0},
	}
	expectCheck(t, p, 0, api.OK)
	expectEmit(t, p, api.Env{Valid: []bool{true, true}, Fields: [][]uint32{{1}, {2, 3}}, Payload: []byte{9}}, "\x23\x01\x09")
	expectEmit(t, p, api.Env{Valid: []bool{true, false}, Fields: [][]uint32{{1}, {0, 0}}, Payload: []byte{9}}, "\x01\x09")
}
