package optext_test

import (
	"fmt"
	"math"
	"reflect"
	"slices"
	"strings"
	"testing"

	"patchbay/api"
	"patchbay/program"
	"patchbay/progtext"
)

const (
	exactly   = 0 // the tables of the sample program
	byPattern = 1
	byPrefix  = 2
	keyless   = 3
	wordy     = 4
)

const (
	none   = 0 // the actions of the sample program
	one    = 1
	four   = 2
	other  = 3
	worded = 4
)

var wrongNumbers = []int{math.MinInt, -1 << 32, -2, -1, 99, 1 << 32, 1<<32 + 1, math.MaxInt}

// random is a row of numbers that look like no rule, the same ones for the same seed.
type random uint64

func (r *random) bits() uint32 {
	*r = *r*6364136223846793005 + 1442695040888963407
	return uint32(*r >> 32)
}

func (r *random) below(n int) int { return int(r.bits()>>4) % n }

func (r *random) chance(n int) bool { return r.below(n) == 0 }

func pick[T any](r *random, l []T) T { return l[r.below(len(l))] }

func match(value, mask uint32) api.KeyMatch { return api.KeyMatch{Value: value, Mask: mask} }

func call(action int, args ...uint32) api.ActionCall {
	return api.ActionCall{Action: action, Args: args}
}

func entryOf(priority int, c api.ActionCall, l ...api.KeyMatch) api.Entry {
	return api.Entry{Keys: l, Priority: priority, Call: c}
}

func insert(t int, x api.Entry) api.TableOp {
	return api.TableOp{Kind: api.OpInsert, Table: t, Entry: x}
}

func modify(t, id int, c api.ActionCall) api.TableOp {
	return api.TableOp{Kind: api.OpModify, Table: t, ID: id, Call: c}
}

func remove(t, id int) api.TableOp { return api.TableOp{Kind: api.OpDelete, Table: t, ID: id} }

func setDefault(t int, c api.ActionCall) api.TableOp {
	return api.TableOp{Kind: api.OpSetDefault, Table: t, Call: c}
}

// sample has a table of each kind, one without keys, and a table and an action with the names of keywords. No table allows
// the action other.
func sample() api.Program {
	p, line, e := progtext.Parse(`program p
		header h { a: 8 b: 32 c: 4 d: 4 }
		metadata { in: 8 out: 8 drop: 1 n: 7 }
		action none() { }
		action one(v: 8) { meta.out = @v }
		action four(w: 8, x: 32, y: 16, z: 1) { meta.drop = @z }
		action other() { }
		action priority(delete: 3) { }
		table exactly { key h.a: exact key meta.n: exact actions one, none default one(7) size 4 }
		table pattern { key h.c: ternary key meta.drop: exact key h.a: lpm key h.b: ternary actions four, none, one default four(1, 4294967295, 65535, 1) size 100 }
		table prefix { key h.b: lpm actions one, none default none() size 4 }
		table keyless { actions none, one default none() size 1 }
		table insert { key h.a: ternary actions priority default priority(7) size 256 }
		state s { extract h default accept }
		control { apply exactly }
		deparser h`)
	if e != api.OK {
		panic(fmt.Sprint("line ", line, ": ", e))
	}
	return p
}

// damages answers programs that program.Check rejects, with more than one code.
func damages() []api.Program {
	change := func(do func(p *api.Program)) api.Program {
		p := sample()
		do(&p)
		return p
	}
	l := []api.Program{
		{},
		change(func(p *api.Program) { p.Name = "" }),
		change(func(p *api.Program) { p.Headers[0].Fields[0].Width = 5 }),
		change(func(p *api.Program) { p.Actions[1].Body[0].Kind = 9 }),
		change(func(p *api.Program) { p.Actions[0].Name = "5/7" }),
		change(func(p *api.Program) { p.Tables[exactly].Size = 257 }),
		change(func(p *api.Program) { p.Tables[exactly].Name = "pattern" }),
		change(func(p *api.Program) { p.States = nil }),
		change(func(p *api.Program) { p.Deparser = []int{0, 0} }),
	}
	for _, p := range l {
		if program.Check(p).Code == api.OK {
			panic("a damaged program is valid")
		}
	}
	return l
}

// sampleOps are operations on the sample program by their texts.
func sampleOps() map[string]api.TableOp {
	return map[string]api.TableOp{
		"insert exactly 255/255 0/127 priority 0 -> none()":   insert(exactly, entryOf(0, call(none), match(255, 255), match(0, 127))),
		"insert exactly 0/255 127/127 priority 0 -> one(0)":   insert(exactly, entryOf(0, call(one, 0), match(0, 255), match(127, 127))),
		"insert prefix 0/0 priority 0 -> one(255)":            insert(byPrefix, entryOf(0, call(one, 255), match(0, 0))),
		"insert prefix 10/4294967295 priority 0 -> none()":    insert(byPrefix, entryOf(0, call(none), match(10, math.MaxUint32))),
		"insert keyless priority 0 -> one(100)":               insert(keyless, entryOf(0, call(one, 100))),
		"insert insert 3/3 priority 9 -> priority(7)":         insert(wordy, entryOf(9, call(worded, 7), match(3, 3))),
		"modify exactly 1 -> none()":                          modify(exactly, 1, call(none)),
		"modify insert 1073741824 -> priority(0)":             modify(wordy, 1<<30, call(worded, 0)),
		"modify keyless 1000000 -> one(10)":                   modify(keyless, 1000000, call(one, 10)),
		"delete pattern 1":                                    remove(byPattern, 1),
		"delete insert 1073741824":                            remove(wordy, 1<<30),
		"default keyless -> none()":                           setDefault(keyless, call(none)),
		"default insert -> priority(5)":                       setDefault(wordy, call(worded, 5)),
		"default pattern -> four(0, 4294967295, 65535, 0)":    setDefault(byPattern, call(four, 0, math.MaxUint32, 65535, 0)),
		"modify pattern 2 -> four(255, 0, 10, 1)":             modify(byPattern, 2, call(four, 255, 0, 10, 1)),
		"insert pattern 0/0 1/1 0/0 0/0 priority 0 -> one(1)": insert(byPattern, entryOf(0, call(one, 1), match(0, 0), match(1, 1), match(0, 0), match(0, 0))),
		"insert pattern 8/9 0/1 128/192 305419896/4294967295 priority 255 -> four(1, 2, 3, 1)": insert(byPattern,
			entryOf(255, call(four, 1, 2, 3, 1), match(8, 9), match(0, 1), match(128, 192), match(0x12345678, math.MaxUint32))),
	}
}

// text writes values with all that lies behind the lengths of their lists.
func text(l ...any) string {
	var s strings.Builder
	for _, x := range l {
		write(&s, reflect.ValueOf(x))
	}
	return s.String()
}

func write(s *strings.Builder, v reflect.Value) {
	switch v.Kind() {
	case reflect.Struct:
		for i := range v.NumField() {
			write(s, v.Field(i))
		}
	case reflect.Slice:
		fmt.Fprintf(s, "[%d:", v.Len())
		for i := range v.Cap() {
			write(s, v.Slice(0, v.Cap()).Index(i))
		}
		s.WriteString("]")
	default:
		fmt.Fprintf(s, "%#v ", v)
	}
}

// copied answers a copy that shares no memory, with some spare memory behind each list.
func copied[T any](x T) T { return copyOf(reflect.ValueOf(x)).Interface().(T) }

func copyOf(v reflect.Value) reflect.Value {
	c := reflect.New(v.Type()).Elem()
	switch v.Kind() {
	case reflect.Struct:
		for i := range v.NumField() {
			c.Field(i).Set(copyOf(v.Field(i)))
		}
	case reflect.Slice:
		c.Set(reflect.MakeSlice(v.Type(), v.Len(), v.Len()+2))
		for i := range v.Len() {
			c.Index(i).Set(copyOf(v.Index(i)))
		}
	default:
		c.Set(v)
	}
	return c
}

// same tells whether two values are equal, where nil is an empty list.
func same[T any](a, b T) bool { return reflect.DeepEqual(copied(a), copied(b)) }

// block is the memory of a list, with what lies behind its length.
type block struct{ start, end uintptr }

func blocks(v reflect.Value) []block {
	var l []block
	switch v.Kind() {
	case reflect.Struct:
		for i := range v.NumField() {
			l = append(l, blocks(v.Field(i))...)
		}
	case reflect.Slice:
		if v.Cap() > 0 {
			l = append(l, block{v.Pointer(), v.Pointer() + uintptr(v.Cap())*v.Type().Elem().Size()})
		}
		for i := range v.Len() {
			l = append(l, blocks(v.Index(i))...)
		}
	}
	return l
}

// expectApart expects that no list of an answer shares memory with another one, or with one of the other values.
func expectApart(t *testing.T, what string, answer any, others ...any) {
	t.Helper()
	own := blocks(reflect.ValueOf(answer))
	all := slices.Clone(own)
	for _, x := range others {
		all = append(all, blocks(reflect.ValueOf(x))...)
	}
	for i, a := range own {
		for _, b := range all[i+1:] {
			if a.start < b.end && b.start < a.end {
				t.Errorf("%s: lists share memory", what)
				return
			}
		}
	}
}
