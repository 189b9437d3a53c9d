package journal_test

import (
	"bytes"
	"encoding/binary"
	"math"
	"reflect"
	"slices"
	"testing"

	"patchbay/api"
	"patchbay/journal"
)

func wantCall(b []byte, c api.ActionCall) []byte {
	b = binary.BigEndian.AppendUint16(b, uint16(c.Action))
	b = append(b, byte(len(c.Args)))
	for _, v := range c.Args {
		b = binary.BigEndian.AppendUint32(b, v)
	}
	return b
}

// wantEncode is the encoding of encodable operations.
func wantEncode(l []api.TableOp) []byte {
	b := []byte{byte(len(l))}
	for _, x := range l {
		b = append(b, byte(x.Kind), byte(x.Table>>8), byte(x.Table))
		if x.Kind == api.OpInsert {
			b = binary.BigEndian.AppendUint16(b, uint16(x.Entry.Priority))
			b = append(b, byte(len(x.Entry.Keys)))
			for _, k := range x.Entry.Keys {
				b = binary.BigEndian.AppendUint32(b, k.Value)
				b = binary.BigEndian.AppendUint32(b, k.Mask)
			}
			b = wantCall(b, x.Entry.Call)
			continue
		}
		if x.Kind != api.OpSetDefault {
			b = binary.BigEndian.AppendUint32(b, uint32(x.ID))
		}
		if x.Kind != api.OpDelete {
			b = wantCall(b, x.Call)
		}
	}
	return b
}

// used answers operations without the fields that their kinds don't use.
func used(l []api.TableOp) []api.TableOp {
	var u []api.TableOp
	for _, x := range l {
		switch x.Kind {
		case api.OpInsert:
			x = insert(x.Table, x.Entry)
		case api.OpModify:
			x = modify(x.Table, x.ID, x.Call)
		case api.OpDelete:
			x = remove(x.Table, x.ID)
		default:
			x = setDefault(x.Table, x.Call)
		}
		u = append(u, x)
	}
	return u
}

// expectEncode expects the bytes of operations, or none, and the operations of the bytes.
func expectEncode(t *testing.T, what string, l []api.TableOp, encodable bool) {
	t.Helper()
	before := text(l)
	b := journal.Encode(l)
	var want []byte
	if encodable {
		want = wantEncode(l)
	}
	if !bytes.Equal(b, want) {
		t.Errorf("%s: Encode of %+v: %v, want %v", what, l, b, want)
	}
	if text(l) != before {
		t.Errorf("%s: Encode changes its argument", what)
	}
	if encodable {
		expectDecode(t, what, b, used(l), api.OK)
	}
}

// expectDecode expects what Decode answers, which must hold nothing of the bytes.
func expectDecode(t *testing.T, what string, b []byte, want []api.TableOp, code api.Errno) {
	t.Helper()
	before := text(b)
	l, e := journal.Decode(b)
	if text(b) != before {
		t.Errorf("%s: Decode changes its argument", what)
	}
	if !same(l, want) || e != code {
		t.Errorf("%s: Decode of %v: %+v, %v, want %+v, %v", what, b, l, e, want, code)
	}
	if e == api.OK && !bytes.Equal(journal.Encode(l), b) {
		t.Errorf("%s: Encode of what Decode answers: %v, want %v", what, journal.Encode(l), b)
	}
}

// some are operations of each kind, with the least, the greatest and other values.
func some() []api.TableOp {
	const max = math.MaxUint32
	return ops(
		remove(0, 0), remove(65535, math.MaxInt32), remove(2, 5), remove(0x102, 0x1020304),
		insert(0, api.Entry{}), insert(0x102, entryOf(0x304, call(0x506, 0x708090a, 11), match(0xc0d0e0f, 0x10111213), match(20, 21))),
		insert(65535, entryOf(65535, call(65535, slices.Repeat([]uint32{max}, 255)...), slices.Repeat([]api.KeyMatch{match(max, max)}, 255)...)),
		modify(0, 0, call(0)), modify(0x102, 0x3040506, call(0x708, 0x90a0b0c)), modify(65535, math.MaxInt32, call(65535, slices.Repeat([]uint32{7}, 255)...)),
		setDefault(0, call(0)), setDefault(0x102, call(0x304, 0x5060708, 9)), setDefault(65535, call(65535, slices.Repeat([]uint32{max}, 255)...)),
	)
}

// P28.1, P28.2: the chapter's example
func TestExample(t *testing.T) {
	for _, x := range []struct {
		l    []api.TableOp
		want []byte
	}{{ops(remove(2, 5)), []byte{1, 3, 0, 2, 0, 0, 0, 5}}, {nil, []byte{0}}} {
		if b := journal.Encode(x.l); !bytes.Equal(b, x.want) {
			t.Errorf("Encode of %+v: %v, want %v", x.l, b, x.want)
		}
		expectDecode(t, "example", x.want, x.l, api.OK)
	}
	expectDecode(t, "example", []byte{65}, nil, api.ErrSyntax)
	expectDecode(t, "example", []byte{1, 9}, nil, api.ErrSyntax)
	expectDecode(t, "example", []byte{1}, nil, api.ErrShort)
	expectDecode(t, "example", []byte{0, 0}, nil, api.ErrLong)
	expectDecode(t, "no bytes", nil, nil, api.ErrShort)
	expectDecode(t, "no bytes", []byte{}, nil, api.ErrShort)
}

// P28.1, P28.8: encodable operations, alone and together
func TestEncode(t *testing.T) {
	all := some()
	expectEncode(t, "all", all, true)
	for i, x := range all {
		expectEncode(t, "one", ops(x), true)
		expectEncode(t, "some", all[:i], true)
		for _, y := range all {
			expectEncode(t, "two", ops(x, y), true)
		}
		expectEncode(t, "many", slices.Repeat(ops(x), api.MaxOps), true)
		for _, n := range []int{api.MaxOps + 1, 2 * api.MaxOps, 256, 257, 320} {
			expectEncode(t, "too many", slices.Repeat(ops(x), n), false)
		}
	}
}

// P28.1: what is too small or too great for a field makes the operations that use it not encodable, and no others.
func TestEncodeLimits(t *testing.T) {
	const insertion, modification, deletion, setting = api.OpInsert, api.OpModify, api.OpDelete, api.OpSetDefault
	short := []int{math.MinInt, -1 << 32, -65536, -1, 65536, 65537, 1 << 31, 1 << 32, 1<<32 + 1, math.MaxInt}
	ids := []int{math.MinInt, -1 << 32, -1 << 31, -1, 1 << 31, 1<<31 + 1, 1 << 32, 1<<32 + 1, math.MaxInt}
	lengths := []int{256, 257, 511, 512, 65536}
	for _, x := range []struct {
		what   string
		kinds  []int
		values []int
		set    func(x *api.TableOp, n int)
	}{
		{"Table", []int{insertion, modification, deletion, setting}, short, func(x *api.TableOp, n int) { x.Table = n }},
		{"ID", []int{modification, deletion}, ids, func(x *api.TableOp, n int) { x.ID = n }},
		{"Entry.Priority", []int{insertion}, short, func(x *api.TableOp, n int) { x.Entry.Priority = n }},
		{"Entry.Keys", []int{insertion}, lengths, func(x *api.TableOp, n int) { x.Entry.Keys = make([]api.KeyMatch, n) }},
		{"Entry.Call.Action", []int{insertion}, short, func(x *api.TableOp, n int) { x.Entry.Call.Action = n }},
		{"Entry.Call.Args", []int{insertion}, lengths, func(x *api.TableOp, n int) { x.Entry.Call.Args = make([]uint32, n) }},
		{"Call.Action", []int{modification, setting}, short, func(x *api.TableOp, n int) { x.Call.Action = n }},
		{"Call.Args", []int{modification, setting}, lengths, func(x *api.TableOp, n int) { x.Call.Args = make([]uint32, n) }},
	} {
		for kind := insertion; kind <= setting; kind++ {
			for _, n := range x.values {
				op := api.TableOp{Kind: kind, Table: 1, ID: 2, Entry: entryOf(3, call(4, 5), match(6, 7)), Call: call(8, 9)}
				x.set(&op, n)
				encodable := !slices.Contains(x.kinds, kind)
				expectEncode(t, x.what, ops(op), encodable)
				expectEncode(t, x.what, append(some(), op), encodable)
				expectEncode(t, x.what, append(ops(op), some()...), encodable)
			}
		}
	}
	for _, kind := range []int{0, 5, 6, 255, 256, 257, 258, 259, 260, -1, -255, math.MinInt, math.MaxInt, 1<<32 + 1} {
		expectEncode(t, "a wrong kind", ops(api.TableOp{Kind: kind}), false)
		expectEncode(t, "a wrong kind", ops(remove(0, 0), api.TableOp{Kind: kind}, remove(0, 0)), false)
	}
}

// cursor reads bytes as P28.2 says, word by word; it panics with the first error.
type cursor struct{ rest []byte }

func (c *cursor) number(size int) int {
	if len(c.rest) < size {
		panic(api.ErrShort)
	}
	n := 0
	for _, b := range c.rest[:size] {
		n = n*256 + int(b)
	}
	c.rest = c.rest[size:]
	return n
}

func (c *cursor) require(holds bool) {
	if !holds {
		panic(api.ErrSyntax)
	}
}

func (c *cursor) call() api.ActionCall {
	x := api.ActionCall{Action: c.number(2), Args: make([]uint32, c.number(1))}
	for i := range x.Args {
		x.Args[i] = uint32(c.number(4))
	}
	return x
}

func (c *cursor) id() int {
	id := c.number(4)
	c.require(id <= 1<<31-1)
	return id
}

func (c *cursor) op() api.TableOp {
	kind := c.number(1)
	c.require(kind >= 1 && kind <= 4)
	x := api.TableOp{Kind: kind, Table: c.number(2)}
	switch kind {
	case 1:
		x.Entry.Priority = c.number(2)
		x.Entry.Keys = make([]api.KeyMatch, c.number(1))
		for i := range x.Entry.Keys {
			x.Entry.Keys[i].Value = uint32(c.number(4))
			x.Entry.Keys[i].Mask = uint32(c.number(4))
		}
		x.Entry.Call = c.call()
	case 2:
		x.ID = c.id()
		x.Call = c.call()
	case 3:
		x.ID = c.id()
	case 4:
		x.Call = c.call()
	}
	return x
}

func wantDecode(b []byte) (l []api.TableOp, e api.Errno) {
	defer func() {
		if x := recover(); x != nil {
			l, e = nil, x.(api.Errno)
		}
	}()
	c := &cursor{b}
	n := c.number(1)
	c.require(n <= 64)
	for range n {
		l = append(l, c.op())
	}
	if len(c.rest) > 0 {
		panic(api.ErrLong)
	}
	return l, api.OK
}

// expectDecoded expects that Decode answers what the promise's words say.
func expectDecoded(t *testing.T, what string, b []byte) api.Errno {
	t.Helper()
	l, e := wantDecode(b)
	expectDecode(t, what, b, l, e)
	return e
}

// P28.2: all short strings of bytes of few values
func TestDecodeShort(t *testing.T) {
	met := map[api.Errno]int{}
	values := []byte{0, 1, 2, 3, 4, 5, 64, 65, 127, 128, 255}
	l := [][]byte{nil}
	for range 4 {
		var longer [][]byte
		for _, b := range l {
			met[expectDecoded(t, "short bytes", b)]++
			for _, v := range values {
				longer = append(longer, append(slices.Clone(b), v))
			}
		}
		l = longer
	}
	if met[api.ErrShort] < 50 || met[api.ErrSyntax] < 50 || met[api.ErrLong] < 50 || met[api.OK] != 1 {
		t.Errorf("the errors are %v", met)
	}
}

// P28.2: encodings that end too early, go on behind their end, or are changed in one byte
func TestDecodeDamaged(t *testing.T) {
	l := some()
	l = append(slices.Delete(slices.Clone(l), 6, 7), l[1], insert(1, entryOf(0, call(0, 1, 2), match(1, 2))))
	l = slices.DeleteFunc(l, func(x api.TableOp) bool { return len(x.Call.Args) > 9 })
	lists := [][]api.TableOp{l, nil}
	for _, x := range l {
		lists = append(lists, ops(x), ops(x, l[0]))
	}
	for _, l := range lists {
		b := journal.Encode(l)
		for n := range b {
			expectDecode(t, "bytes cut off", b[:n], nil, api.ErrShort)
			for _, v := range []byte{0, 1, 2, 3, 4, 5, 127, 128, 255, b[n] + 1, b[n] - 1} {
				d := slices.Clone(b)
				d[n] = v
				expectDecoded(t, "a changed byte", d)
				expectDecoded(t, "a changed byte", d[:len(d)-1])
				expectDecoded(t, "a changed byte", append(d, 0))
			}
		}
		for _, more := range [][]byte{{0}, {1}, {255}, {3, 0, 2, 0, 0, 0, 5}, b} {
			expectDecode(t, "bytes behind", slices.Concat(b, more), nil, api.ErrLong)
		}
	}
}

// P28.2: an error comes as soon as what it is about has been read.
func TestDecodeOrder(t *testing.T) {
	for _, x := range []struct {
		b    []byte
		code api.Errno
	}{
		{[]byte{65, 9}, api.ErrSyntax}, {[]byte{255}, api.ErrSyntax}, {[]byte{64}, api.ErrShort}, {[]byte{64, 0}, api.ErrSyntax},
		{[]byte{1, 0}, api.ErrSyntax}, {[]byte{1, 5}, api.ErrSyntax}, {[]byte{1, 255, 0}, api.ErrSyntax}, {[]byte{1, 1}, api.ErrShort}, {[]byte{1, 4, 0}, api.ErrShort},
		{[]byte{1, 3, 0, 0, 128, 0, 0}, api.ErrShort}, {[]byte{1, 3, 0, 0, 128, 0, 0, 0}, api.ErrSyntax}, {[]byte{1, 3, 0, 0, 255, 255, 255, 255, 9}, api.ErrSyntax},
		{[]byte{1, 2, 0, 0, 128, 0, 0}, api.ErrShort}, {[]byte{1, 2, 0, 0, 128, 0, 0, 0}, api.ErrSyntax}, {[]byte{1, 2, 0, 0, 127, 255, 255, 255}, api.ErrShort},
		{[]byte{2, 3, 0, 0, 128, 0, 0, 0, 9}, api.ErrSyntax}, {[]byte{2, 3, 0, 0, 0, 0, 0, 1}, api.ErrShort}, {[]byte{2, 3, 0, 0, 0, 0, 0, 1, 0}, api.ErrSyntax},
		{[]byte{2, 4, 0, 0, 0, 0, 1, 0, 0, 0, 3}, api.ErrShort}, {[]byte{2, 4, 0, 0, 0, 0, 1, 0, 0, 0, 3, 6}, api.ErrSyntax}, {[]byte{2, 4, 0, 0, 0, 0, 1, 0, 0, 3}, api.ErrShort},
		{[]byte{1, 1, 0, 0, 0, 0, 1, 0, 0, 0, 0, 0, 0, 0, 0, 0, 0}, api.ErrShort}, {[]byte{1, 1, 0, 0, 0, 0, 0, 0, 0, 0, 1}, api.ErrLong},
	} {
		expectDecode(t, "the first error", x.b, nil, x.code)
	}
}

// P28.2, P28.8: random bytes, most of which are nearly those of operations
func TestDecodeRandom(t *testing.T) {
	r, met := random(28), map[api.Errno]int{}
	for range 30000 {
		n := r.below(4)
		b := []byte{byte(n)}
		for range n {
			b = append(b, byte(1+r.below(4)))
			for range 6 + r.below(8) {
				b = append(b, byte(r.below(pick(&r, []int{1, 1, 1, 2, 3, 256}))))
			}
		}
		met[expectDecoded(t, "random bytes", b)]++
	}
	for _, e := range []api.Errno{api.OK, api.ErrShort, api.ErrSyntax, api.ErrLong} {
		if met[e] < 1000 {
			t.Errorf("%v is met %d times", e, met[e])
		}
	}
}

// P28.1, P28.2, rule 4: the answers hold nothing of the arguments.
func TestEncodingMemory(t *testing.T) {
	l := ops(insert(1, entryOf(2, call(3, 4), match(5, 6))), setDefault(7, call(8, 9)))
	b := journal.Encode(l)
	spoil(reflect.ValueOf(l))
	want := append([]byte(nil), b...)
	d, e := journal.Decode(b)
	clear(b[:cap(b)])
	if e != api.OK || !bytes.Equal(journal.Encode(d), want) {
		t.Errorf("Decode: %+v, %v", d, e)
	}
	d[0].Entry.Call.Args[0], d[0].Entry.Keys[0].Value = 99, 99
	if d[1].Call.Args[0] != 9 {
		t.Errorf("lists of the answer share memory: %+v", d)
	}
}
