package journal_test

import (
	"fmt"
	"math"
	"reflect"
	"strings"

	"patchbay/api"
	"patchbay/program"
	"patchbay/progtext"
)

const (
	exactly   = 0 // the tables of the sample program
	byPattern = 1
)

// random is a row of numbers that look like no rule, the same ones for the same seed.
type random uint64

func (r *random) bits() uint32 {
	*r = *r*6364136223846793005 + 1442695040888963407
	return uint32(*r >> 32)
}

func (r *random) below(n int) int { return int(r.bits()>>4) % n }

func (r *random) chance(n int) bool { return r.below(n) == 0 }

func pick[T any](r *random, l []T) T { return l[r.below(len(l))] }

func match(value, mask uint32) api.KeyMatch { return api.KeyMatch{Value: value, Mask: mask} }

func call(action int, args ...uint32) api.ActionCall {
	return api.ActionCall{Action: action, Args: args}
}

func entryOf(priority int, c api.ActionCall, l ...api.KeyMatch) api.Entry {
	return api.Entry{Keys: l, Priority: priority, Call: c}
}

func insert(t int, x api.Entry) api.TableOp {
	return api.TableOp{Kind: api.OpInsert, Table: t, Entry: x}
}

func modify(t, id int, c api.ActionCall) api.TableOp {
	return api.TableOp{Kind: api.OpModify, Table: t, ID: id, Call: c}
}

func remove(t, id int) api.TableOp { return api.TableOp{Kind: api.OpDelete, Table: t, ID: id} }

func setDefault(t int, c api.ActionCall) api.TableOp {
	return api.TableOp{Kind: api.OpSetDefault, Table: t, Call: c}
}

func ops(l ...api.TableOp) []api.TableOp { return l }

// sample has a table with as many keys and arguments as may be, and a small one.
func sample() api.Program {
	p, line, e := progtext.Parse(`program p
		header h { a: 8 b: 8 c: 8 }
		metadata { in: 8 out: 8 drop: 1 n: 7 }
		register r: 8[4]
		action none() { }
		action one(v: 8) { meta.out = @v }
		action four(w: 8, x: 32, y: 16, z: 1) { meta.drop = @z }
		table exactly { key h.a: exact actions one, none default one(7) size 3 }
		table pattern { key h.a: ternary key h.b: ternary key h.c: ternary key meta.in: ternary key meta.out: ternary key meta.n: ternary actions four, none default none() size 40 }
		state s { extract h default accept }
		control { apply exactly apply pattern }
		deparser h`)
	if e != api.OK {
		panic(fmt.Sprint("line ", line, ": ", e))
	}
	return p
}

// six answers the keys of an entry of the table byPattern.
func six(v uint32) []api.KeyMatch {
	return []api.KeyMatch{match(v, 255), match(0, 0), match(v&0xf0, 0xf0), match(0, 1), match(0, 0), match(v&127, 127)}
}

// history is a list of transactions of which each one succeeds behind those ahead of it.
func history() [][]api.TableOp {
	return [][]api.TableOp{
		ops(insert(exactly, entryOf(0, call(0), match(5, 255))), insert(exactly, entryOf(0, call(1, 9), match(6, 255)))),
		nil,
		ops(insert(byPattern, entryOf(255, call(2, 255, math.MaxUint32, 65535, 1), six(0xab)...)), setDefault(byPattern, call(2, 1, 2, 3, 0)), remove(exactly, 1)),
		ops(modify(exactly, 2, call(1, 255))),
		{},
		ops(remove(byPattern, 1), insert(byPattern, entryOf(0, call(0), six(0)...)), insert(exactly, entryOf(0, call(0), match(5, 255))), setDefault(exactly, call(0)), remove(exactly, 2)),
	}
}

// failing answers transactions that fail behind the history, with the index and the code of the error.
func failing() []struct {
	l    []api.TableOp
	at   int
	code api.Errno
} {
	good := setDefault(exactly, call(1, 77))
	return []struct {
		l    []api.TableOp
		at   int
		code api.Errno
	}{
		{ops(good, remove(exactly, 9)), 1, api.ErrNotFound},
		{ops(good, good, insert(exactly, entryOf(0, call(0), match(5, 255)))), 2, api.ErrDuplicate},
		{ops(insert(exactly, entryOf(0, call(0), match(5, 15))), good), 0, api.ErrKind},
		{ops(good, insert(exactly, entryOf(0, call(1), match(7, 255)))), 1, api.ErrArg},
		{ops(good, setDefault(exactly, call(1, 256))), 1, api.ErrRange},
		{ops(good, insert(byPattern, entryOf(0, call(0), match(1, 2)))), 1, api.ErrArg},
		{ops(insert(exactly, entryOf(0, call(0), match(1, 255))), insert(exactly, entryOf(0, call(0), match(2, 255))), insert(exactly, entryOf(0, call(0), match(3, 255)))), 2, api.ErrFull},
		{ops(good, setDefault(2, call(0))), 1, api.ErrNotFound},
	}
}

// text writes values with all that lies behind the lengths of their lists.
func text(l ...any) string {
	var s strings.Builder
	for _, x := range l {
		write(&s, reflect.ValueOf(x))
	}
	return s.String()
}

func write(s *strings.Builder, v reflect.Value) {
	switch v.Kind() {
	case reflect.Struct:
		for i := range v.NumField() {
			write(s, v.Field(i))
		}
	case reflect.Slice:
		fmt.Fprintf(s, "[%d:", v.Len())
		for i := range v.Cap() {
			write(s, v.Slice(0, v.Cap()).Index(i))
		}
		s.WriteString("]")
	default:
		fmt.Fprintf(s, "%#v ", v)
	}
}

// copied answers a copy that shares no memory, with some spare memory behind each list.
func copied[T any](x T) T { return copyOf(reflect.ValueOf(x)).Interface().(T) }

func copyOf(v reflect.Value) reflect.Value {
	c := reflect.New(v.Type()).Elem()
	switch v.Kind() {
	case reflect.Struct:
		for i := range v.NumField() {
			c.Field(i).Set(copyOf(v.Field(i)))
		}
	case reflect.Slice:
		c.Set(reflect.MakeSlice(v.Type(), v.Len(), v.Len()+2))
		for i := range v.Len() {
			c.Index(i).Set(copyOf(v.Index(i)))
		}
	default:
		c.Set(v)
	}
	return c
}

// same tells whether two values are equal, where nil is an empty list.
func same[T any](a, b T) bool { return reflect.DeepEqual(copied(a), copied(b)) }

// spoil overwrites all lists that v has, with what lies behind their lengths.
func spoil(v reflect.Value) {
	switch v.Kind() {
	case reflect.Struct:
		for i := range v.NumField() {
			spoil(v.Field(i))
		}
	case reflect.Slice:
		all := v.Slice(0, v.Cap())
		for i := range v.Cap() {
			spoil(all.Index(i))
			all.Index(i).SetZero()
		}
	}
}

// damages answers programs that program.Check rejects, with more than one code.
func damages() []api.Program {
	change := func(do func(p *api.Program)) api.Program {
		p := sample()
		do(&p)
		return p
	}
	l := []api.Program{
		{},
		change(func(p *api.Program) { p.Name = "" }),
		change(func(p *api.Program) { p.Headers[0].Fields[0].Width = 5 }),
		change(func(p *api.Program) { p.Registers[0].Size = 65 }),
		change(func(p *api.Program) { p.Actions[1].Body[0].Kind = 9 }),
		change(func(p *api.Program) { p.Tables[0].Size = 257 }),
		change(func(p *api.Program) { p.States = nil }),
		change(func(p *api.Program) { p.Deparser = []int{0, 0} }),
	}
	for _, p := range l {
		if program.Check(p).Code == api.OK {
			panic("a damaged program is valid")
		}
	}
	return l
}
