package header_test

import (
	"math"
	"slices"
	"strconv"
	"strings"
	"testing"

	"patchbay/api"
	"patchbay/bitio"
	"patchbay/header"
)

var invalidWidths = []int{math.MinInt, -32, -8, -1, 0, 33, 40, 64, 1 << 32, 1<<32 + 8, math.MaxInt}

var invalidNames = []string{"", "1", "1a", "_", "_a", "a-b", "a b", " a", "a ", "a.b", "a\n", "a\x00", "\xff", "é", "aé", "seventeen_letters"}

// random is a row of numbers that look like no rule, the same ones for the same seed.
type random uint64

func (r *random) bits() uint32 {
	*r = *r*6364136223846793005 + 1442695040888963407
	return uint32(*r >> 32)
}

// headerOf answers a header whose fields have these widths and the names f0, f1 and so on.
func headerOf(widths ...int) api.Header {
	h := api.Header{Name: "h"}
	for i, w := range widths {
		h.Fields = append(h.Fields, api.Field{Name: "f" + strconv.Itoa(i), Width: w})
	}
	return h
}

func fieldsOf(fields ...api.Field) api.Header { return api.Header{Name: "h", Fields: fields} }

// sample is valid headers: ordinary ones, and the edges of the limits.
func sample() []api.Header {
	l := []api.Header{
		headerOf(8), headerOf(16), headerOf(24), headerOf(32),
		headerOf(4, 12), headerOf(1, 7), headerOf(31, 1), headerOf(1, 31), headerOf(3, 32, 5), headerOf(32, 32),
		headerOf(1, 1, 1, 1, 1, 1, 1, 1), headerOf(1, 2, 3, 4, 5, 6, 7, 8, 9, 10, 11, 6), headerOf(9, 17, 25, 29),
		headerOf(32, 32, 32, 32, 32, 32, 32, 32, 32, 32, 32, 32),
		{Name: "A234567890_bcdeZ", Fields: []api.Field{{Name: "Z_9", Width: 8}, {Name: "a234567890_bcdez", Width: 8}}},
		{Name: "same", Fields: []api.Field{{Name: "same", Width: 5}, {Name: "Same", Width: 11}}},
	}
	return l
}

// bitText writes bits as text, so that the tests count bits in a way of their own.
func bitText(v uint32, n int) string {
	s := strconv.FormatUint(uint64(v), 2)
	return strings.Repeat("0", max(n-len(s), 0)) + s
}

func wireText(h api.Header, vals []uint32) string {
	s := ""
	for i, f := range h.Fields {
		s += bitText(vals[i], f.Width)
	}
	return s
}

func textBytes(t *testing.T, s string) []byte {
	t.Helper()
	var b []byte
	for ; len(s) >= 8; s = s[8:] {
		x, err := strconv.ParseUint(s[:8], 2, 8)
		if err != nil {
			t.Fatal(err)
		}
		b = append(b, byte(x))
	}
	if s != "" {
		t.Fatalf("bits left: %q", s)
	}
	return b
}

func bytesText(b []byte) string {
	s := ""
	for _, x := range b {
		s += bitText(uint32(x), 8)
	}
	return s
}

func greatest(w int) uint32 { return uint32(uint64(1)<<w - 1) }

// valueLists answers lists of values that fit the fields of h: the edges, and some between.
func valueLists(h api.Header) [][]uint32 {
	r := random(len(h.Fields))
	zero, ones, mixed, other := []uint32{}, []uint32{}, []uint32{}, []uint32{}
	for i, f := range h.Fields {
		zero = append(zero, 0)
		ones = append(ones, greatest(f.Width))
		mixed = append(mixed, greatest(f.Width)*uint32(i%2))
		other = append(other, r.bits()&greatest(f.Width))
	}
	return [][]uint32{zero, ones, mixed, other}
}

func total(h api.Header) int {
	n := 0
	for _, f := range h.Fields {
		n += f.Width
	}
	return n
}

// readerAt answers a reader that has read skip bits, with the given bits ahead of it and some ones around them.
func readerAt(t *testing.T, skip int, bits string) *bitio.Reader {
	t.Helper()
	s := strings.Repeat("1", skip) + bits
	s += strings.Repeat("1", (8-len(s)%8)%8)
	r := bitio.NewReader(textBytes(t, s))
	if skip > 0 {
		if _, e := r.ReadBits(skip); e != api.OK {
			t.Fatal(e)
		}
	}
	return r
}

// writerAt answers a writer that holds skip bits: 1, 0, 1, 0 and so on.
func writerAt(t *testing.T, skip int) (*bitio.Writer, string) {
	t.Helper()
	w, s := bitio.NewWriter(), ""
	for i := range skip {
		s += strconv.Itoa(1 - i%2)
		if e := w.WriteBits(uint32(1-i%2), 1); e != api.OK {
			t.Fatal(e)
		}
	}
	return w, s
}

// writtenText answers the bits that w holds. It fills w up to a whole byte.
func writtenText(t *testing.T, w *bitio.Writer) string {
	t.Helper()
	n := w.Len()
	for w.Len()%8 != 0 {
		w.WriteBits(0, 1)
	}
	b, e := w.Bytes()
	if e != api.OK {
		t.Fatal(e)
	}
	return bytesText(b)[:n]
}

// invalid is headers with the error of each. Where several errors apply, it is the one that the chapter lists first.
func invalid() []struct {
	h    api.Header
	want api.Errno
} {
	field := func(name string, w int) api.Field { return api.Field{Name: name, Width: w} }
	thirteen := headerOf(8, 8, 8, 8, 8, 8, 8, 8, 8, 8, 8, 8, 8)
	return []struct {
		h    api.Header
		want api.Errno
	}{
		{api.Header{}, api.ErrName},
		{api.Header{Name: "1"}, api.ErrName},
		{api.Header{Name: "1", Fields: thirteen.Fields}, api.ErrName},
		{api.Header{Name: "1", Fields: headerOf(8).Fields}, api.ErrName},
		{api.Header{Name: "h"}, api.ErrNotFound},
		{api.Header{Name: "h", Fields: []api.Field{}}, api.ErrNotFound},
		{thirteen, api.ErrLimit},
		{headerOf(make([]int, 13)...), api.ErrLimit},
		{fieldsOf(make([]api.Field, 13)...), api.ErrLimit},
		{fieldsOf(make([]api.Field, 1000)...), api.ErrLimit},
		{fieldsOf(make([]api.Field, 12)...), api.ErrName},
		{headerOf(make([]int, 12)...), api.ErrWidth},
		{fieldsOf(field("", 0)), api.ErrName},
		{fieldsOf(field("", 7)), api.ErrName},
		{fieldsOf(field("a", 8), field("", 8), field("a", 8)), api.ErrName},
		{fieldsOf(field("", 8), field("", 8)), api.ErrName},
		{fieldsOf(field("a", 0), field("", 8)), api.ErrWidth},
		{fieldsOf(field("", 8), field("a", 0)), api.ErrName},
		{fieldsOf(field("a", 8), field("a", 0)), api.ErrWidth},
		{fieldsOf(field("a", 8), field("a", 33)), api.ErrWidth},
		{fieldsOf(field("a", 8), field("a", 8), field("b", 0)), api.ErrDuplicate},
		{fieldsOf(field("a", 8), field("a", 8), field("", 8)), api.ErrDuplicate},
		{fieldsOf(field("a", 8), field("b", 0), field("a", 8)), api.ErrWidth},
		{fieldsOf(field("a", 8), field("a", 8)), api.ErrDuplicate},
		{fieldsOf(field("a", 8), field("a", 16)), api.ErrDuplicate},
		{fieldsOf(field("a", 8), field("b", 8), field("a", 8)), api.ErrDuplicate},
		{fieldsOf(field("a", 8), field("b", 8), field("b", 8)), api.ErrDuplicate},
		{fieldsOf(field("a", 8), field("a", 7)), api.ErrDuplicate},
		{headerOf(1), api.ErrWidth},
		{headerOf(4, 5), api.ErrWidth},
		{headerOf(32, 32, 32, 32, 32, 32, 32, 32, 32, 32, 32, 31), api.ErrWidth},
	}
}

// P11.1
func TestCheckOfValid(t *testing.T) {
	for _, h := range sample() {
		if e := header.Check(h); e != api.OK {
			t.Errorf("Check(%v) = %v", h, e)
		}
	}
}

// P11.1: the errors, and their order.
func TestCheckOfInvalid(t *testing.T) {
	for _, c := range invalid() {
		if e := header.Check(c.h); e != c.want {
			t.Errorf("Check(%v) = %v, want %v", c.h, e, c.want)
		}
	}
}

// P11.1: names of the header and of each field.
func TestCheckNames(t *testing.T) {
	for _, name := range invalidNames {
		h := headerOf(8, 8)
		h.Name = name
		if e := header.Check(h); e != api.ErrName {
			t.Errorf("Check with the name %q = %v", name, e)
		}
		for i := range api.MaxFields {
			h := headerOf(8, 8, 8, 8, 8, 8, 8, 8, 8, 8, 8, 8)
			h.Fields[i].Name = name
			if e := header.Check(h); e != api.ErrName {
				t.Errorf("Check with the name %q of field %d = %v", name, i, e)
			}
		}
	}
}

// P11.1: the width of each field.
func TestCheckWidths(t *testing.T) {
	for i := range api.MaxFields {
		widths := slices.Repeat([]int{8}, api.MaxFields)
		for _, w := range invalidWidths {
			widths[i] = w
			if e := header.Check(headerOf(widths...)); e != api.ErrWidth {
				t.Errorf("Check with the width %d of field %d = %v", w, i, e)
			}
		}
	}
}

// P11.1: the total width.
func TestCheckTotal(t *testing.T) {
	for a := 1; a <= 32; a++ {
		for b := 1; b <= 32; b++ {
			want := api.OK
			if (a+b)%8 != 0 {
				want = api.ErrWidth
			}
			if e := header.Check(headerOf(a, b)); e != want {
				t.Errorf("Check of the widths %d and %d = %v, want %v", a, b, e, want)
			}
		}
	}
}

// P11.1: two fields of one name, wherever they stand.
func TestCheckDuplicates(t *testing.T) {
	for i := range api.MaxFields {
		for j := range i {
			h := headerOf(8, 16, 24, 32, 8, 16, 24, 32, 8, 16, 24, 32)
			h.Fields[i].Name = h.Fields[j].Name
			if e := header.Check(h); e != api.ErrDuplicate {
				t.Errorf("Check with the fields %d and %d of one name = %v", j, i, e)
			}
		}
	}
}

// P11.1, P11.2: what lies behind the length of the list of fields doesn't count.
func TestFieldsBehindLength(t *testing.T) {
	h := headerOf(8, 16, 0, 8)
	h.Fields[2].Name = ""
	h.Fields[3].Name = "behind"
	h.Fields = h.Fields[:2]
	if e := header.Check(h); e != api.OK || header.Bits(h) != 24 {
		t.Errorf("Check = %v, Bits = %d", e, header.Bits(h))
	}
	if i, ok := header.FieldIndex(h, "behind"); i != 0 || ok {
		t.Errorf("FieldIndex = %d, %v", i, ok)
	}
	if all := h.Fields[:4]; all[2] != (api.Field{}) || all[3] != (api.Field{Name: "behind", Width: 8}) {
		t.Errorf("the fields behind the length are %v", all[2:])
	}
}

// P11.2
func TestBits(t *testing.T) {
	for _, h := range sample() {
		if n := header.Bits(h); n != total(h) {
			t.Errorf("Bits(%v) = %d, want %d", h, n, total(h))
		}
	}
	if n := header.Bits(sample()[13]); n != 384 {
		t.Errorf("Bits of the widest header = %d", n)
	}
	for _, c := range invalid() {
		if n := header.Bits(c.h); n != 0 {
			t.Errorf("Bits(%v) = %d", c.h, n)
		}
	}
}

// P11.2
func TestFieldIndex(t *testing.T) {
	for _, h := range sample() {
		for i, f := range h.Fields {
			if got, ok := header.FieldIndex(h, f.Name); got != i || !ok {
				t.Errorf("FieldIndex(%v, %q) = %d, %v, want %d", h, f.Name, got, ok, i)
			}
		}
		for _, name := range append([]string{"absent", "f", "f00", "F0", "h", "f12"}, invalidNames...) {
			if got, ok := header.FieldIndex(h, name); got != 0 || ok {
				t.Errorf("FieldIndex(%v, %q) = %d, %v", h, name, got, ok)
			}
		}
	}
}

// P11.2: FieldIndex doesn't validate, and answers the first field of the name.
func TestFieldIndexOfInvalid(t *testing.T) {
	h := api.Header{Name: "1", Fields: []api.Field{{Name: "a", Width: 0}, {Name: "b", Width: 99}, {Name: "", Width: -1}, {Name: "b", Width: 99}, {Name: "a", Width: 8}, {Name: "\xff", Width: math.MinInt}}}
	for name, want := range map[string]int{"a": 0, "b": 1, "": 2, "\xff": 5} {
		if got, ok := header.FieldIndex(h, name); got != want || !ok {
			t.Errorf("FieldIndex(%q) = %d, %v, want %d", name, got, ok, want)
		}
	}
	many := api.Header{Fields: make([]api.Field, 1000)}
	many.Fields[999].Name = "last"
	if got, ok := header.FieldIndex(many, "last"); got != 999 || !ok {
		t.Errorf("FieldIndex of the last of 1000 = %d, %v", got, ok)
	}
	if got, ok := header.FieldIndex(api.Header{Name: "h"}, "h"); got != 0 || ok {
		t.Errorf("FieldIndex without fields = %d, %v", got, ok)
	}
}

// P11.3: the fields are read in order, wherever in a byte the header begins.
func TestRead(t *testing.T) {
	for _, h := range sample() {
		for _, vals := range valueLists(h) {
			for skip := range 8 {
				for _, behind := range []string{"", "01100101"} {
					r := readerAt(t, skip, wireText(h, vals)+behind)
					left := r.Remaining()
					got, e := header.Read(h, r)
					if !slices.Equal(got, vals) || e != api.OK {
						t.Fatalf("Read(%v) at bit %d = %v, %v, want %v", h, skip, got, e, vals)
					}
					if r.Remaining() != left-total(h) {
						t.Fatalf("Read(%v) at bit %d leaves %d of %d bits", h, skip, r.Remaining(), left)
					}
				}
			}
		}
	}
}

// P11.3: example 1, and a second header behind the first.
func TestReadExample(t *testing.T) {
	r := bitio.NewReader([]byte{0x51, 0x02, 0xfe, 0xdc})
	for _, want := range [][]uint32{{5, 0x102}, {0xf, 0xedc}} {
		if got, e := header.Read(headerOf(4, 12), r); !slices.Equal(got, want) || e != api.OK {
			t.Errorf("Read = %v, %v, want %v", got, e, want)
		}
	}
	if r.Remaining() != 0 {
		t.Errorf("Remaining = %d", r.Remaining())
	}
}

// P11.3: a reader with one bit too few, and with fewer, stays as it is.
func TestReadShort(t *testing.T) {
	for _, h := range sample() {
		need := total(h)
		for left := range need {
			r := bitio.NewReader(slices.Repeat([]byte{0xa5}, need/8))
			for range need - left {
				r.ReadBits(1)
			}
			if got, e := header.Read(h, r); len(got) != 0 || e != api.ErrShort {
				t.Errorf("Read(%v) of %d bits = %v, %v", h, left, got, e)
			}
			if r.Remaining() != left {
				t.Errorf("Read(%v) of %d bits leaves %d", h, left, r.Remaining())
			}
		}
	}
}

// P11.3: a reader that bitio did not make, and the order of the errors.
func TestReadErrors(t *testing.T) {
	for _, r := range []*bitio.Reader{nil, {}} {
		for _, h := range sample() {
			if got, e := header.Read(h, r); len(got) != 0 || e != api.ErrNil {
				t.Errorf("Read(%v) of no reader = %v, %v", h, got, e)
			}
		}
	}
	empty, full := bitio.NewReader(nil), bitio.NewReader(make([]byte, 100))
	for _, c := range invalid() {
		for _, r := range []*bitio.Reader{nil, {}, empty, full} {
			if got, e := header.Read(c.h, r); len(got) != 0 || e != c.want {
				t.Errorf("Read(%v) = %v, %v, want %v", c.h, got, e, c.want)
			}
		}
	}
	if empty.Remaining() != 0 || full.Remaining() != 800 {
		t.Errorf("the readers are left with %d and %d bits", empty.Remaining(), full.Remaining())
	}
}

// P11.3: each answer is memory of its own.
func TestReadAnswers(t *testing.T) {
	r := bitio.NewReader([]byte{1, 2, 3, 4})
	a, _ := header.Read(headerOf(8, 8), r)
	b, _ := header.Read(headerOf(8, 8), r)
	clear(b[:cap(b)])
	if !slices.Equal(a, []uint32{1, 2}) {
		t.Errorf("the first answer became %v", a)
	}
}

// P11.4: the fields are written in order, wherever in a byte the header begins.
func TestWrite(t *testing.T) {
	for _, h := range sample() {
		for _, vals := range valueLists(h) {
			for skip := range 8 {
				w, before := writerAt(t, skip)
				given := slices.Clone(vals)
				if e := header.Write(h, given, w); e != api.OK || w.Len() != skip+total(h) {
					t.Fatalf("Write(%v, %v) at bit %d = %v, of %d bits", h, vals, skip, e, w.Len()-skip)
				}
				if !slices.Equal(given, vals) {
					t.Fatalf("Write(%v) changed the values %v to %v", h, vals, given)
				}
				if got, want := writtenText(t, w), before+wireText(h, vals); got != want {
					t.Fatalf("Write(%v, %v) at bit %d wrote %s, want %s", h, vals, skip, got, want)
				}
			}
		}
	}
}

// expectRefused holds a failing Write against its error. The writer stays as it is.
func expectRefused(t *testing.T, h api.Header, vals []uint32, want api.Errno) {
	t.Helper()
	for _, skip := range []int{0, 3, 8} {
		w, before := writerAt(t, skip)
		if e := header.Write(h, vals, w); e != want {
			t.Errorf("Write(%v, %v) = %v, want %v", h, vals, e, want)
		}
		if got := writtenText(t, w); got != before {
			t.Errorf("Write(%v, %v) = %v left %s, want %s", h, vals, want, got, before)
		}
	}
}

// P11.4: the number of values.
func TestWriteNumber(t *testing.T) {
	for _, h := range sample() {
		for _, vals := range valueLists(h) {
			expectRefused(t, h, nil, api.ErrArg)
			expectRefused(t, h, []uint32{}, api.ErrArg)
			expectRefused(t, h, vals[:len(vals)-1], api.ErrArg)
			expectRefused(t, h, append(slices.Clone(vals), 0), api.ErrArg)
			expectRefused(t, h, append(slices.Clone(vals), vals...), api.ErrArg)
		}
	}
}

// P11.4: a value that does not fit, in each of the fields, at its edge.
func TestWriteRange(t *testing.T) {
	for _, h := range sample() {
		for i, f := range h.Fields {
			if f.Width == 32 {
				continue
			}
			for _, v := range []uint32{greatest(f.Width) + 1, greatest(f.Width) + 2, 1 << 31, math.MaxUint32} {
				for _, vals := range valueLists(h) {
					vals[i] = v
					expectRefused(t, h, vals, api.ErrRange)
				}
			}
		}
	}
}

// P11.4: the order of the errors, and a writer that bitio did not make.
func TestWriteErrors(t *testing.T) {
	h := headerOf(4, 12)
	big := []uint32{16, 4096}
	for _, vals := range [][]uint32{nil, {1}, {1, 2}, big, {16, 4096, 1}} {
		for _, w := range []*bitio.Writer{nil, {}} {
			if e := header.Write(h, vals, w); e != api.ErrNil {
				t.Errorf("Write of %v to no writer = %v", vals, e)
			}
			for _, c := range invalid() {
				if e := header.Write(c.h, vals, w); e != c.want {
					t.Errorf("Write(%v, %v) to no writer = %v, want %v", c.h, vals, e, c.want)
				}
			}
		}
	}
	expectRefused(t, h, []uint32{16}, api.ErrArg)
	expectRefused(t, h, []uint32{16, 4096, 1}, api.ErrArg)
	for _, c := range invalid() {
		expectRefused(t, c.h, nil, c.want)
		expectRefused(t, c.h, []uint32{1}, c.want)
		expectRefused(t, c.h, make([]uint32, len(c.h.Fields)), c.want)
		expectRefused(t, c.h, slices.Repeat([]uint32{math.MaxUint32}, len(c.h.Fields)), c.want)
	}
}

// P11.4: a writer goes on behind a refused header as if it had not been.
func TestWriteAfterRefusal(t *testing.T) {
	h, w := headerOf(4, 12), bitio.NewWriter()
	for _, vals := range [][]uint32{{1, 2}, {3, 4096}, {5, 6}, {16, 7}, {8}, {9, 10}} {
		header.Write(h, vals, w)
	}
	if got, e := w.Bytes(); string(got) != "\x10\x02\x50\x06\x90\x0a" || e != api.OK {
		t.Errorf("Bytes = %x, %v", got, e)
	}
}

// P11.5: several headers behind one another.
func TestRoundTrip(t *testing.T) {
	for skip := range 8 {
		w, before := writerAt(t, skip)
		for _, h := range sample() {
			for _, vals := range valueLists(h) {
				if e := header.Write(h, vals, w); e != api.OK {
					t.Fatalf("Write(%v, %v) = %v", h, vals, e)
				}
			}
		}
		r := readerAt(t, skip, strings.TrimPrefix(writtenText(t, w), before))
		for _, h := range sample() {
			for _, vals := range valueLists(h) {
				if got, e := header.Read(h, r); !slices.Equal(got, vals) || e != api.OK {
					t.Fatalf("Read(%v) = %v, %v, want %v", h, got, e, vals)
				}
			}
		}
	}
}
