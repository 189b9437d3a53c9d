package checksum_test

import (
	"bytes"
	"encoding/binary"
	"hash/fnv"
	"slices"
	"testing"

	"patchbay/api"
	"patchbay/checksum"
)

// mixed answers n bytes that look like no rule, the same ones for the same seed.
func mixed(n int, seed uint32) []byte {
	b := make([]byte, n)
	for i := range b {
		seed = seed*1664525 + 1013904223
		b[i] = byte(seed >> 24)
	}
	return b
}

// bodies holds each length up to 70, each single byte, and slices whose sums outgrow 16 and 32 bits.
func bodies() [][]byte {
	l := [][]byte{nil, {}, {1, 2, 3}, {97}, []byte("foobar"), {255, 255}, {255, 255, 0, 1}, {255, 255, 255}, {255, 254, 0, 1}, {0, 0, 0}, {128, 0, 128, 0}}
	for n := range 70 {
		l = append(l, mixed(n, uint32(n)), bytes.Repeat([]byte{255}, n))
	}
	for c := range 256 {
		l = append(l, []byte{byte(c)}, []byte{0, byte(c)})
	}
	return append(l, mixed(1000, 5), mixed(65537, 6), bytes.Repeat([]byte{255}, 262149), append(bytes.Repeat([]byte{255}, 262148), 0, 1))
}

// shortBodies holds some bodies that are short enough to try each change of their records.
func shortBodies() [][]byte {
	return [][]byte{nil, {0}, {7, 8}, {255, 255, 255}, mixed(13, 1), mixed(40, 2)}
}

// P4.1
func TestFNV1a(t *testing.T) {
	for _, b := range bodies() {
		h := fnv.New32a()
		h.Write(b)
		if got := checksum.FNV1a(b); got != h.Sum32() {
			t.Errorf("FNV1a of %d bytes = %d, want %d", len(b), got, h.Sum32())
		}
	}
	if got := checksum.FNV1a(nil); got != 2166136261 {
		t.Errorf("FNV1a of nothing = %d", got)
	}
	if got := checksum.FNV1a([]byte{97}); got != 3826002220 {
		t.Errorf("FNV1a of 97 = %d", got)
	}
}

// wantInternet goes by the words of the promise: it adds all, and then folds.
func wantInternet(b []byte) uint16 {
	b = slices.Clone(b)
	if len(b)%2 == 1 {
		b = append(b, 0)
	}
	sum := uint64(0)
	for ; len(b) > 0; b = b[2:] {
		sum += uint64(b[0])*256 + uint64(b[1])
	}
	for sum > 65535 {
		sum = sum%65536 + sum/65536
	}
	return uint16(65535 - sum)
}

// P4.2
func TestInternet(t *testing.T) {
	for _, b := range bodies() {
		if got := checksum.Internet(b); got != wantInternet(b) {
			t.Errorf("Internet of %d bytes = %d, want %d", len(b), got, wantInternet(b))
		}
	}
}

// P4.2: a word's fold can carry once more, and an odd last byte is a word's greater half.
func TestInternetEdges(t *testing.T) {
	for _, c := range []struct {
		b    []byte
		want uint16
	}{
		{nil, 65535},
		{[]byte{0}, 65535},
		{[]byte{0, 0, 0}, 65535},
		{[]byte{1}, 65279},
		{[]byte{0, 1}, 65534},
		{[]byte{1, 2, 3}, 64509},
		{[]byte{255}, 255},
		{[]byte{255, 255}, 0},
		{[]byte{255, 255, 0, 1}, 65534},
		{[]byte{255, 255, 255, 255}, 0},
		{[]byte{255, 254, 0, 1}, 0},
	} {
		if got := checksum.Internet(c.b); got != c.want {
			t.Errorf("Internet(%v) = %d, want %d", c.b, got, c.want)
		}
	}
}

// P4.1, P4.2, P4.3: the bytes behind a slice's length are not its own.
func TestBytesBehindTheLength(t *testing.T) {
	whole := []byte{1, 2, 3, 4, 5, 6, 7, 8, 9, 10, 11, 12, 13, 14, 15, 16}
	kept := slices.Clone(whole)
	b, apart := whole[:3], []byte{1, 2, 3}
	if checksum.FNV1a(b) != checksum.FNV1a(apart) || checksum.Internet(b) != checksum.Internet(apart) {
		t.Error("a byte behind the length counts")
	}
	if !bytes.Equal(checksum.Frame(b), checksum.Frame(apart)) {
		t.Error("Frame tells a byte behind the length")
	}
	if !bytes.Equal(whole, kept) {
		t.Errorf("the bytes are now %v", whole)
	}
}

func wantFrame(b []byte) []byte {
	record := binary.BigEndian.AppendUint32(nil, uint32(len(b)))
	record = append(record, b...)
	h := fnv.New32a()
	h.Write(record)
	return binary.BigEndian.AppendUint32(record, h.Sum32())
}

// P4.3
func TestFrame(t *testing.T) {
	for _, b := range bodies() {
		if got := checksum.Frame(b); !bytes.Equal(got, wantFrame(b)) {
			t.Errorf("Frame of %d bytes: %.20v", len(b), got)
		}
	}
}

// P4.3: each call's record is its own.
func TestFrameFresh(t *testing.T) {
	b := []byte{7, 8}
	first := checksum.Frame(b)
	for i := range first {
		first[i] = 99
	}
	if !bytes.Equal(b, []byte{7, 8}) || !bytes.Equal(checksum.Frame(b), wantFrame(b)) {
		t.Error("a record shares memory")
	}
}

func expectUnframed(t *testing.T, b, wantBody []byte, wantN int) {
	t.Helper()
	body, n, e := checksum.Unframe(b)
	if !bytes.Equal(body, wantBody) || n != wantN || e != api.OK {
		t.Errorf("Unframe(%.20v) = %.20v, %d, %v, want a body of %d bytes, %d", b, body, n, e, len(wantBody), wantN)
	}
}

func expectUnframeError(t *testing.T, b []byte, want api.Errno) {
	t.Helper()
	body, n, e := checksum.Unframe(b)
	if len(body) != 0 || n != 0 || e != want {
		t.Errorf("Unframe(%.20v) = %.20v, %d, %v, want %v", b, body, n, e, want)
	}
}

// P4.4, P4.5: whatever follows the record.
func TestUnframe(t *testing.T) {
	for _, b := range bodies() {
		record := wantFrame(b)
		expectUnframed(t, record, b, len(b)+8)
		expectUnframed(t, append(slices.Clone(record), 0), b, len(b)+8)
		expectUnframed(t, append(slices.Clone(record), record...), b, len(b)+8)
		expectUnframed(t, append(slices.Clone(record), 255, 255, 255, 255, 1, 2, 3, 4, 5), b, len(b)+8)
	}
}

// P4.4: a record that lacks its last bytes, though they may lie behind the length of the slice.
func TestUnframeShort(t *testing.T) {
	for _, b := range shortBodies() {
		record := wantFrame(b)
		for n := range record {
			expectUnframeError(t, record[:n], api.ErrShort)
			expectUnframeError(t, slices.Clone(record[:n]), api.ErrShort)
		}
	}
	expectUnframeError(t, nil, api.ErrShort)
	expectUnframeError(t, []byte{0, 0, 0, 9, 0, 0, 0, 0}, api.ErrShort)
}

// P4.4: lengths greater than what follows them, up to those that a sum of 32 or 31 bits wraps round.
func TestUnframeGreatLength(t *testing.T) {
	for _, length := range []uint32{3, 4, 11, 12, 256, 65536, 1 << 24, 1<<31 - 9, 1<<31 - 1, 1 << 31, 1<<31 + 2, 1<<32 - 9, 1<<32 - 8, 1<<32 - 6, 1<<32 - 4, 1<<32 - 1} {
		record := binary.BigEndian.AppendUint32(nil, length)
		record = append(record, 7, 8)
		record = binary.BigEndian.AppendUint32(record, checksum.FNV1a(record))
		expectUnframeError(t, record, api.ErrShort)
	}
}

// P4.4: that the record is short is told first.
func TestUnframeOrder(t *testing.T) {
	record := wantFrame([]byte{1, 2, 3})
	record[5]++
	expectUnframeError(t, record, api.ErrChecksum)
	expectUnframeError(t, record[:len(record)-1], api.ErrShort)
}

// P4.4: the checksum is that of the length too.
func TestUnframeSmallerLength(t *testing.T) {
	record := wantFrame(mixed(20, 9))
	for length := range byte(20) {
		record[3] = length
		expectUnframeError(t, record, api.ErrChecksum)
	}
	expectUnframeError(t, make([]byte, 8), api.ErrChecksum)
}

// P4.4: the body is new memory.
func TestUnframeFresh(t *testing.T) {
	record := wantFrame([]byte{1, 2, 3})
	first, _, _ := checksum.Unframe(record)
	first[0] = 99
	_ = append(first, 77, 77, 77, 77)
	expectUnframed(t, record, []byte{1, 2, 3}, 11)
	if !bytes.Equal(record, wantFrame([]byte{1, 2, 3})) {
		t.Errorf("the record is now %v", record)
	}
}

// P4.5
func TestRoundTrip(t *testing.T) {
	for _, b := range bodies() {
		record := checksum.Frame(b)
		body, n, e := checksum.Unframe(append(slices.Clone(record), 1, 2, 3))
		if !bytes.Equal(body, b) || n != len(record) || e != api.OK || !bytes.Equal(checksum.Frame(body), record) {
			t.Errorf("a body of %d bytes comes back as %.20v, %d, %v", len(b), body, n, e)
		}
	}
}

// P4.6: each byte behind the first four, changed to each other byte.
func TestCorruption(t *testing.T) {
	for _, b := range shortBodies() {
		record := checksum.Frame(b)
		for i := 4; i < len(record); i++ {
			for change := 1; change < 256; change++ {
				spoilt := slices.Clone(record)
				spoilt[i] ^= byte(change)
				expectUnframeError(t, spoilt, api.ErrChecksum)
			}
		}
	}
}

// P4.7
func TestOwnChecksum(t *testing.T) {
	for _, b := range bodies() {
		if len(b)%2 == 1 {
			continue
		}
		whole := binary.BigEndian.AppendUint16(slices.Clone(b), checksum.Internet(b))
		if got := checksum.Internet(whole); got != 0 {
			t.Errorf("Internet of %d bytes and their checksum = %d", len(b), got)
		}
	}
}

// P4.8: the words turned round, and their two halves dealt out in turn.
func TestOrder(t *testing.T) {
	for _, b := range bodies() {
		b = b[:len(b)/2*2]
		words := slices.Collect(slices.Chunk(b, 2))
		slices.Reverse(words)
		back := bytes.Join(words, nil)
		var dealt []byte
		for i := range words {
			at := i / 2
			if i%2 == 1 {
				at = len(words) - 1 - at
			}
			dealt = append(dealt, words[at]...)
		}
		if got := checksum.Internet(b); checksum.Internet(back) != got || checksum.Internet(dealt) != got {
			t.Errorf("Internet of %d bytes hangs on the order of the words", len(b))
		}
	}
}
