package journal

import "patchbay/api"

// reader reads the bytes of an encoding from the left. Behind its first error it reads zeros only.
type reader struct {
	rest []byte
	code api.Errno
}

func (r *reader) fail(e api.Errno) {
	if r.code == api.OK {
		r.code = e
	}
}

func (r *reader) number(size int) uint32 {
	if len(r.rest) < size {
		r.fail(api.ErrShort)
	}
	if r.code != api.OK {
		return 0
	}
	n := uint32(0)
	for _, c := range r.rest[:size] {
		n = n<<byteBits | uint32(c)
	}
	r.rest = r.rest[size:]
	return n
}

// between reads a number that must be from least to greatest.
func (r *reader) between(least, greatest uint32, size int) int {
	n := r.number(size)
	if n < least || n > greatest {
		r.fail(api.ErrSyntax)
		return 0
	}
	return int(n)
}

func (r *reader) id() int { return r.between(0, greatestID, wordSize) }

func (r *reader) call() api.ActionCall {
	c := api.ActionCall{Action: int(r.number(numberSize))}
	for range r.number(countSize) {
		c.Args = append(c.Args, r.number(wordSize))
	}
	return c
}

func (r *reader) entry() api.Entry {
	x := api.Entry{Priority: int(r.number(numberSize))}
	for range r.number(countSize) {
		x.Keys = append(x.Keys, api.KeyMatch{Value: r.number(wordSize), Mask: r.number(wordSize)})
	}
	x.Call = r.call()
	return x
}

func (r *reader) op() api.TableOp {
	x := api.TableOp{Kind: r.between(api.OpInsert, api.OpSetDefault, kindSize), Table: int(r.number(numberSize))}
	switch x.Kind {
	case api.OpInsert:
		x.Entry = r.entry()
	case api.OpModify:
		x.ID = r.id()
		x.Call = r.call()
	case api.OpDelete:
		x.ID = r.id()
	case api.OpSetDefault:
		x.Call = r.call()
	}
	return x
}

// end makes bytes that are left an error.
func (r *reader) end() {
	if len(r.rest) > 0 {
		r.fail(api.ErrLong)
	}
}

// Decode is specified by P28.2.
func Decode(b []byte) ([]api.TableOp, api.Errno) {
	r := &reader{rest: b}
	var l []api.TableOp
	for range r.between(0, api.MaxOps, countSize) {
		l = append(l, r.op())
	}
	r.end()
	if r.code != api.OK {
		return nil, r.code
	}
	return l, api.OK
}
