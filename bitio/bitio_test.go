package bitio_test

import (
	"bytes"
	"math"
	"slices"
	"strconv"
	"strings"
	"testing"

	"patchbay/api"
	"patchbay/bitio"
)

var invalidWidths = []int{math.MinInt, -32, -1, 0, 33, 64, 1 << 32, 1<<32 + 8, math.MaxInt}

// bitText and textBytes write bits as text, so that the tests count bits in a way of their own.
func bitText(v uint32, n int) string {
	s := strconv.FormatUint(uint64(v), 2)
	return strings.Repeat("0", max(n-len(s), 0)) + s
}

func textBytes(t *testing.T, s string) []byte {
	t.Helper()
	var b []byte
	for ; len(s) >= 8; s = s[8:] {
		x, err := strconv.ParseUint(s[:8], 2, 8)
		if err != nil {
			t.Fatal(err)
		}
		b = append(b, byte(x))
	}
	if s != "" {
		t.Fatalf("bits left: %q", s)
	}
	return b
}

func bytesText(b []byte) string {
	s := ""
	for _, x := range b {
		s += bitText(uint32(x), 8)
	}
	return s
}

func sample(n int) []byte {
	b := make([]byte, n)
	for i := range b {
		b[i] = byte(i*73 + 0x9d)
	}
	return b
}

func mustRead(t *testing.T, r *bitio.Reader, w int, want uint32) {
	t.Helper()
	left := r.Remaining()
	if v, e := r.ReadBits(w); v != want || e != api.OK {
		t.Fatalf("ReadBits(%d) = %#x, %v, want %#x", w, v, e, want)
	}
	if got := r.Remaining(); got != left-w {
		t.Fatalf("Remaining after ReadBits(%d) = %d, want %d", w, got, left-w)
	}
}

// failRead: the call answers the error and 0 and does not advance.
func failRead(t *testing.T, r *bitio.Reader, w int, want api.Errno) {
	t.Helper()
	left := r.Remaining()
	if v, e := r.ReadBits(w); v != 0 || e != want {
		t.Errorf("ReadBits(%d) = %#x, %v, want %v", w, v, e, want)
	}
	if got := r.Remaining(); got != left {
		t.Errorf("Remaining after a failed ReadBits(%d) = %d, want %d", w, got, left)
	}
}

func mustWrite(t *testing.T, w *bitio.Writer, v uint32, n int) {
	t.Helper()
	before := w.Len()
	if e := w.WriteBits(v, n); e != api.OK {
		t.Fatalf("WriteBits(%#x, %d) = %v", v, n, e)
	}
	if got := w.Len(); got != before+n {
		t.Fatalf("Len after WriteBits(%#x, %d) = %d, want %d", v, n, got, before+n)
	}
}

func failWrite(t *testing.T, w *bitio.Writer, v uint32, n int, want api.Errno) {
	t.Helper()
	before := w.Len()
	if e := w.WriteBits(v, n); e != want {
		t.Errorf("WriteBits(%#x, %d) = %v, want %v", v, n, e, want)
	}
	if got := w.Len(); got != before {
		t.Errorf("Len after a failed WriteBits(%#x, %d) = %d, want %d", v, n, got, before)
	}
}

func wantBytes(t *testing.T, w *bitio.Writer, want []byte) {
	t.Helper()
	if b, e := w.Bytes(); !bytes.Equal(b, want) || e != api.OK {
		t.Fatalf("Bytes = %x, %v, want %x", b, e, want)
	}
}

func wantRest(t *testing.T, r *bitio.Reader, want []byte) {
	t.Helper()
	left := r.Remaining()
	if b, e := r.Rest(); !bytes.Equal(b, want) || e != api.OK {
		t.Fatalf("Rest = %x, %v, want %x", b, e, want)
	}
	if got := r.Remaining(); got != left {
		t.Fatalf("Remaining after Rest = %d, want %d", got, left)
	}
}

// P2.1
func TestNewReader(t *testing.T) {
	for n := range 20 {
		if got := bitio.NewReader(sample(n)).Remaining(); got != 8*n {
			t.Errorf("Remaining of %d bytes = %d", n, got)
		}
	}
	if got := bitio.NewReader(nil).Remaining(); got != 0 {
		t.Errorf("Remaining of no bytes = %d", got)
	}
	mustRead(t, bitio.NewReader([]byte{0x80}), 1, 1)
	mustRead(t, bitio.NewReader([]byte{0x7f}), 1, 0)
}

// P2.1: the reader keeps a copy of its own.
func TestNewReaderCopies(t *testing.T) {
	b := []byte{0x12, 0x34, 0x56}
	r := bitio.NewReader(b)
	mustRead(t, r, 4, 1)
	clear(b)
	mustRead(t, r, 12, 0x234)
	wantRest(t, r, []byte{0x56})
}

// P2.1: what lies behind the end of the slice is not read.
func TestNewReaderEndsAtLength(t *testing.T) {
	b := []byte{1, 2, 3, 4}
	r := bitio.NewReader(b[1:2])
	mustRead(t, r, 8, 2)
	failRead(t, r, 1, api.ErrShort)
	wantRest(t, r, nil)
}

// P2.2: every width at every place of a byte.
func TestReadBits(t *testing.T) {
	b := sample(9)
	bits := bytesText(b)
	for skip := range 32 {
		for w := 1; w <= 32; w++ {
			r := bitio.NewReader(b)
			if skip > 0 {
				if _, e := r.ReadBits(skip); e != api.OK {
					t.Fatalf("ReadBits(%d) = %v", skip, e)
				}
			}
			want, _ := strconv.ParseUint(bits[skip:skip+w], 2, 32)
			mustRead(t, r, w, uint32(want))
		}
	}
}

// P2.2
func TestReadBitsToTheEnd(t *testing.T) {
	for w := 1; w <= 32; w++ {
		b := sample(w)
		r, bits := bitio.NewReader(b), bytesText(b)
		for i := 0; i+w <= len(bits); i += w {
			want, _ := strconv.ParseUint(bits[i:i+w], 2, 32)
			mustRead(t, r, w, uint32(want))
		}
		if got := r.Remaining(); got != 0 {
			t.Fatalf("width %d: %d bits remain", w, got)
		}
		failRead(t, r, 1, api.ErrShort)
		failRead(t, r, 32, api.ErrShort)
	}
}

// P2.2: ErrWidth precedes ErrShort; a failed call leaves the reader where it was.
func TestReadBitsErrors(t *testing.T) {
	for _, w := range invalidWidths {
		failRead(t, bitio.NewReader(nil), w, api.ErrWidth)
		r := bitio.NewReader([]byte{0xa5, 0x5a})
		mustRead(t, r, 3, 5)
		failRead(t, r, w, api.ErrWidth)
		mustRead(t, r, 13, 0x55a)
		failRead(t, r, w, api.ErrWidth)
	}
	for n := range 4 {
		for w := 8*n + 1; w <= 32; w++ {
			r := bitio.NewReader(sample(n))
			failRead(t, r, w, api.ErrShort)
			wantRest(t, r, sample(n))
		}
	}
	r := bitio.NewReader([]byte{0xa5, 0x5a})
	mustRead(t, r, 3, 5)
	failRead(t, r, 14, api.ErrShort)
	mustRead(t, r, 13, 0x55a)
}

// P2.3
func TestRest(t *testing.T) {
	b := sample(5)
	r := bitio.NewReader(b)
	for n := range 5 {
		wantRest(t, r, b[n:])
		wantRest(t, r, b[n:])
		mustRead(t, r, 8, uint32(b[n]))
	}
	wantRest(t, r, nil)
	wantRest(t, bitio.NewReader(nil), nil)
}

// P2.3
func TestRestInsideByte(t *testing.T) {
	b := sample(3)
	for skip := 1; skip <= 24; skip++ {
		r := bitio.NewReader(b)
		if _, e := r.ReadBits(skip); e != api.OK {
			t.Fatalf("ReadBits(%d) = %v", skip, e)
		}
		if skip%8 == 0 {
			wantRest(t, r, b[skip/8:])
			continue
		}
		if rest, e := r.Rest(); len(rest) != 0 || e != api.ErrWidth {
			t.Errorf("Rest after %d bits = %x, %v", skip, rest, e)
		}
		if got := r.Remaining(); got != 24-skip {
			t.Errorf("Remaining after a failed Rest = %d, want %d", got, 24-skip)
		}
	}
}

// P2.3: changing the copy changes neither the reader nor another copy.
func TestRestCopies(t *testing.T) {
	r := bitio.NewReader([]byte{1, 2, 3})
	mustRead(t, r, 8, 1)
	first, _ := r.Rest()
	second, _ := r.Rest()
	clear(first)
	if !bytes.Equal(second, []byte{2, 3}) {
		t.Errorf("second copy = %x", second)
	}
	wantRest(t, r, []byte{2, 3})
	mustRead(t, r, 16, 0x203)
}

// P2.4
func TestWriteBits(t *testing.T) {
	for skip := range 32 {
		for n := 1; n <= 32; n++ {
			for _, v := range []uint32{0, 1, 0x9d3a57c6, math.MaxUint32} {
				v >>= 32 - n
				w, bits := bitio.NewWriter(), ""
				if skip > 0 {
					mustWrite(t, w, 1, skip)
					bits = bitText(1, skip)
				}
				mustWrite(t, w, v, n)
				bits += bitText(v, n)
				if pad := (8 - len(bits)%8) % 8; pad > 0 {
					mustWrite(t, w, 0, pad)
					bits += bitText(0, pad)
				}
				wantBytes(t, w, textBytes(t, bits))
			}
		}
	}
}

// P2.4
func TestNewWriter(t *testing.T) {
	w := bitio.NewWriter()
	if got := w.Len(); got != 0 {
		t.Errorf("Len = %d", got)
	}
	wantBytes(t, w, nil)
	mustWrite(t, w, 1, 8)
	if got := bitio.NewWriter().Len(); got != 0 {
		t.Errorf("Len of another writer = %d", got)
	}
}

// P2.4: ErrWidth precedes ErrRange; a failed call leaves the writer as it was.
func TestWriteBitsErrors(t *testing.T) {
	for _, n := range invalidWidths {
		for _, v := range []uint32{0, 1, math.MaxUint32} {
			w := bitio.NewWriter()
			failWrite(t, w, v, n, api.ErrWidth)
			wantBytes(t, w, nil)
			mustWrite(t, w, 5, 3)
			failWrite(t, w, v, n, api.ErrWidth)
			mustWrite(t, w, 5, 5)
			wantBytes(t, w, []byte{0xa5})
		}
	}
	for n := 1; n <= 31; n++ {
		for _, v := range []uint32{1 << n, 1<<n + 1, math.MaxUint32} {
			w := bitio.NewWriter()
			mustWrite(t, w, 0xa5, 8)
			failWrite(t, w, v, n, api.ErrRange)
			wantBytes(t, w, []byte{0xa5})
		}
	}
	w := bitio.NewWriter()
	mustWrite(t, w, 5, 3)
	failWrite(t, w, 32, 5, api.ErrRange)
	mustWrite(t, w, 5, 5)
	wantBytes(t, w, []byte{0xa5})
}

// P2.5
func TestBytes(t *testing.T) {
	w := bitio.NewWriter()
	for n := 1; n <= 24; n++ {
		mustWrite(t, w, 1, 1)
		if n%8 == 0 {
			wantBytes(t, w, bytes.Repeat([]byte{0xff}, n/8))
			continue
		}
		if b, e := w.Bytes(); len(b) != 0 || e != api.ErrWidth {
			t.Errorf("Bytes after %d bits = %x, %v", n, b, e)
		}
		if got := w.Len(); got != n {
			t.Errorf("Len after a failed Bytes = %d, want %d", got, n)
		}
	}
}

// P2.5: the writer goes on where it was, and shares nothing with what it gave out.
func TestBytesCopies(t *testing.T) {
	w := bitio.NewWriter()
	mustWrite(t, w, 0x1234, 16)
	first, _ := w.Bytes()
	second, _ := w.Bytes()
	clear(first)
	if !bytes.Equal(second, []byte{0x12, 0x34}) {
		t.Errorf("second copy = %x", second)
	}
	mustWrite(t, w, 0x56, 8)
	wantBytes(t, w, []byte{0x12, 0x34, 0x56})
	if !bytes.Equal(second, []byte{0x12, 0x34}) {
		t.Errorf("second copy after a further byte = %x", second)
	}
	_ = append(second, 0xee)
	wantBytes(t, w, []byte{0x12, 0x34, 0x56})
}

type packCase struct {
	vals   []uint32
	widths []int
	want   []byte
	e      api.Errno
}

// P2.6
func TestPack(t *testing.T) {
	top := uint32(math.MaxUint32)
	for _, c := range []packCase{
		{nil, nil, nil, api.OK},
		{[]uint32{}, []int{}, nil, api.OK},
		{[]uint32{1, 5}, []int{4, 4}, []byte{0x15}, api.OK},
		{[]uint32{1, 5, 258}, []int{4, 4, 16}, []byte{0x15, 1, 2}, api.OK},
		{[]uint32{1, 0, top, 0x7f}, []int{1, 32, 32, 7}, []byte{0x80, 0, 0, 0, 0x7f, 0xff, 0xff, 0xff, 0xff}, api.OK},
		{[]uint32{1}, nil, nil, api.ErrArg},
		{nil, []int{8}, nil, api.ErrArg},
		{[]uint32{1, 2}, []int{8}, nil, api.ErrArg},
		{[]uint32{1}, []int{0, 8}, nil, api.ErrArg},
		{[]uint32{256}, []int{8, 33}, nil, api.ErrArg},
		{[]uint32{1, 1}, []int{33, 0}, nil, api.ErrWidth},
		{[]uint32{1, 1}, []int{8, 0}, nil, api.ErrWidth},
		{[]uint32{1, 1}, []int{8, -8}, nil, api.ErrWidth},
		{[]uint32{top}, []int{33}, nil, api.ErrWidth},
		{[]uint32{16}, []int{4}, nil, api.ErrRange},
		{[]uint32{256, 1}, []int{8, 33}, nil, api.ErrRange},
		{[]uint32{1, 256}, []int{33, 8}, nil, api.ErrWidth},
		{[]uint32{1, 256}, []int{8, 8}, nil, api.ErrRange},
		{[]uint32{1, 2}, []int{4, 1}, nil, api.ErrRange},
		{[]uint32{1}, []int{4}, nil, api.ErrWidth},
		{[]uint32{1, 1}, []int{32, 1}, nil, api.ErrWidth},
	} {
		if b, e := bitio.Pack(c.vals, c.widths); !bytes.Equal(b, c.want) || e != c.e || e != api.OK && len(b) != 0 {
			t.Errorf("Pack(%v, %v) = %x, %v, want %x, %v", c.vals, c.widths, b, e, c.want, c.e)
		}
	}
}

type unpackCase struct {
	b      []byte
	widths []int
	want   []uint32
	e      api.Errno
}

// P2.6
func TestUnpack(t *testing.T) {
	for _, c := range []unpackCase{
		{nil, nil, nil, api.OK},
		{[]byte{}, []int{}, nil, api.OK},
		{[]byte{0x12, 0x34}, []int{12, 4}, []uint32{0x123, 4}, api.OK},
		{[]byte{0x80, 0, 0, 0, 0x7f}, []int{1, 32, 7}, []uint32{1, 0, 0x7f}, api.OK},
		{nil, []int{1}, nil, api.ErrShort},
		{[]byte{1}, []int{9}, nil, api.ErrShort},
		{[]byte{0x12, 0x34}, []int{12, 8}, nil, api.ErrShort},
		{[]byte{1}, []int{8, 1}, nil, api.ErrShort},
		{[]byte{1}, []int{9, 33}, nil, api.ErrShort},
		{[]byte{1}, []int{33, 9}, nil, api.ErrWidth},
		{[]byte{1}, []int{8, 0}, nil, api.ErrWidth},
		{[]byte{1}, []int{4, -4}, nil, api.ErrWidth},
		{[]byte{1, 2, 3, 4, 5, 6}, []int{33}, nil, api.ErrWidth},
		{[]byte{1}, nil, nil, api.ErrLong},
		{[]byte{1}, []int{7}, nil, api.ErrLong},
		{[]byte{0x12, 0x34}, []int{4, 4}, nil, api.ErrLong},
	} {
		if l, e := bitio.Unpack(c.b, c.widths); !slices.Equal(l, c.want) || e != c.e || e != api.OK && len(l) != 0 {
			t.Errorf("Unpack(%x, %v) = %v, %v, want %v, %v", c.b, c.widths, l, e, c.want, c.e)
		}
	}
}

// P2.6: arguments are not modified, nor what lies behind their ends.
func TestPackUnpackLeaveArguments(t *testing.T) {
	vals, widths, b := []uint32{1, 5, 77}, []int{4, 4, 99}, []byte{0x15, 0xee}
	if got, e := bitio.Pack(vals[:2], widths[:2]); !bytes.Equal(got, b[:1]) || e != api.OK {
		t.Errorf("Pack = %x, %v", got, e)
	}
	if got, e := bitio.Unpack(b[:1], widths[:2]); !slices.Equal(got, vals[:2]) || e != api.OK {
		t.Errorf("Unpack = %v, %v", got, e)
	}
	if !slices.Equal(vals, []uint32{1, 5, 77}) || !slices.Equal(widths, []int{4, 4, 99}) || !bytes.Equal(b, []byte{0x15, 0xee}) {
		t.Errorf("arguments are now %v, %v, %x", vals, widths, b)
	}
}

// mixed returns n widths from 1 to 32 whose sum is a multiple of 8, each with a value that fits.
func mixed(n int) ([]uint32, []int) {
	var vals []uint32
	var widths []int
	x, sum := uint32(2463534242), 0
	add := func(w int) {
		x ^= x << 13
		x ^= x >> 17
		x ^= x << 5
		vals, widths, sum = append(vals, x>>(32-w)), append(widths, w), sum+w
	}
	for i := range n - 1 {
		add(1 + i*7%32)
	}
	add(8 - sum%8)
	return vals, widths
}

// P2.7
func TestWrittenIsReadBack(t *testing.T) {
	for n := 1; n <= 80; n++ {
		vals, widths := mixed(n)
		w := bitio.NewWriter()
		for i, v := range vals {
			mustWrite(t, w, v, widths[i])
		}
		b, e := w.Bytes()
		if e != api.OK {
			t.Fatalf("Bytes of widths %v: %v", widths, e)
		}
		r := bitio.NewReader(b)
		for i, v := range vals {
			mustRead(t, r, widths[i], v)
		}
		if got := r.Remaining(); got != 0 {
			t.Fatalf("%d bits remain", got)
		}
	}
}

// P2.7
func TestPackInvertsUnpack(t *testing.T) {
	for n := 1; n <= 80; n++ {
		vals, widths := mixed(n)
		b, e := bitio.Pack(vals, widths)
		if e != api.OK {
			t.Fatalf("Pack(%v, %v): %v", vals, widths, e)
		}
		if got, e := bitio.Unpack(b, widths); !slices.Equal(got, vals) || e != api.OK {
			t.Fatalf("Unpack(%x, %v) = %v, %v, want %v", b, widths, got, e, vals)
		}
		other := sample(len(b))
		got, e := bitio.Unpack(other, widths)
		if e != api.OK {
			t.Fatalf("Unpack(%x, %v): %v", other, widths, e)
		}
		if back, e := bitio.Pack(got, widths); !bytes.Equal(back, other) || e != api.OK {
			t.Fatalf("Pack of Unpack of %x with %v = %x, %v", other, widths, back, e)
		}
	}
}

// P2.1, P2.2, P2.3: ErrNil precedes the other errors.
func TestNilReader(t *testing.T) {
	for _, r := range []*bitio.Reader{nil, {}} {
		for _, w := range []int{1, 32, 0, -1, 33} {
			if v, e := r.ReadBits(w); v != 0 || e != api.ErrNil {
				t.Errorf("ReadBits(%d) = %d, %v", w, v, e)
			}
		}
		if got := r.Remaining(); got != 0 {
			t.Errorf("Remaining = %d", got)
		}
		if b, e := r.Rest(); len(b) != 0 || e != api.ErrNil {
			t.Errorf("Rest = %x, %v", b, e)
		}
	}
}

// P2.4, P2.5: ErrNil precedes the other errors.
func TestNilWriter(t *testing.T) {
	for _, w := range []*bitio.Writer{nil, {}} {
		for _, n := range []int{1, 32, 0, -1, 33} {
			for _, v := range []uint32{0, 1, math.MaxUint32} {
				if e := w.WriteBits(v, n); e != api.ErrNil {
					t.Errorf("WriteBits(%d, %d) = %v", v, n, e)
				}
			}
		}
		if got := w.Len(); got != 0 {
			t.Errorf("Len = %d", got)
		}
		if b, e := w.Bytes(); len(b) != 0 || e != api.ErrNil {
			t.Errorf("Bytes = %x, %v", b, e)
		}
	}
}

// The chapter's examples.
func TestExamples(t *testing.T) {
	if b, e := bitio.Pack([]uint32{1, 5}, []int{4, 4}); !bytes.Equal(b, []byte{0x15}) || e != api.OK {
		t.Errorf("Pack([1 5], [4 4]) = %x, %v", b, e)
	}
	mustRead(t, bitio.NewReader([]byte{0x12, 0x34}), 12, 0x123)
}
