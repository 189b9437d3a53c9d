package journal

import "patchbay/api"

// The sizes of an encoding's numbers, in bytes.
const (
	kindSize   = 1
	countSize  = 1 // how many operations, keys or arguments follow
	numberSize = 2 // a table, a priority or an action
	wordSize   = 4 // an ID, an argument, or a value or mask of a key
)

const (
	byteBits   = 8
	greatestID = 1<<31 - 1
)

// fits tells whether a number can be written unsigned in one or two bytes.
func fits(n, size int) bool { return n >= 0 && n < 1<<(byteBits*size) }

func encodableCall(c api.ActionCall) bool {
	return fits(c.Action, numberSize) && fits(len(c.Args), countSize)
}

func encodableEntry(x api.Entry) bool {
	return fits(x.Priority, numberSize) && fits(len(x.Keys), countSize) && encodableCall(x.Call)
}

func encodable(x api.TableOp) bool {
	hasID := x.ID >= 0 && x.ID <= greatestID
	switch x.Kind {
	case api.OpInsert:
		return fits(x.Table, numberSize) && encodableEntry(x.Entry)
	case api.OpModify:
		return fits(x.Table, numberSize) && hasID && encodableCall(x.Call)
	case api.OpDelete:
		return fits(x.Table, numberSize) && hasID
	case api.OpSetDefault:
		return fits(x.Table, numberSize) && encodableCall(x.Call)
	}
	return false
}

// appendNumber appends a number in big-endian byte order.
func appendNumber(b []byte, n uint64, size int) []byte {
	for i := size - 1; i >= 0; i-- {
		b = append(b, byte(n>>(byteBits*i)))
	}
	return b
}

func appendCall(b []byte, c api.ActionCall) []byte {
	b = appendNumber(b, uint64(c.Action), numberSize)
	b = appendNumber(b, uint64(len(c.Args)), countSize)
	for _, v := range c.Args {
		b = appendNumber(b, uint64(v), wordSize)
	}
	return b
}

func appendEntry(b []byte, x api.Entry) []byte {
	b = appendNumber(b, uint64(x.Priority), numberSize)
	b = appendNumber(b, uint64(len(x.Keys)), countSize)
	for _, k := range x.Keys {
		b = appendNumber(b, uint64(k.Value), wordSize)
		b = appendNumber(b, uint64(k.Mask), wordSize)
	}
	return appendCall(b, x.Call)
}

func appendID(b []byte, id int) []byte { return appendNumber(b, uint64(id), wordSize) }

func appendOp(b []byte, x api.TableOp) []byte {
	b = appendNumber(b, uint64(x.Kind), kindSize)
	b = appendNumber(b, uint64(x.Table), numberSize)
	switch x.Kind {
	case api.OpInsert:
		return appendEntry(b, x.Entry)
	case api.OpModify:
		return appendCall(appendID(b, x.ID), x.Call)
	case api.OpDelete:
		return appendID(b, x.ID)
	}
	return appendCall(b, x.Call)
}

// Encode is specified by P28.1.
func Encode(l []api.TableOp) []byte {
	if len(l) > api.MaxOps {
		return nil
	}
	b := appendNumber(nil, uint64(len(l)), countSize)
	for _, x := range l {
		if !encodable(x) {
			return nil
		}
		b = appendOp(b, x)
	}
	return b
}
