package interp_test

import (
	"fmt"
	"math"
	"reflect"
	"slices"
	"strings"
	"testing"

	"patchbay/api"
	"patchbay/interp"
	"patchbay/progtext"
	"patchbay/store"
)

var wrongNumbers = []int{math.MinInt, -1 << 32, -2, -1, 99, 1 << 32, 1<<32 + 1, math.MaxInt}

// random is a row of numbers that look like no rule, the same ones for the same seed.
type random uint64

func (r *random) bits() uint32 {
	*r = *r*6364136223846793005 + 1442695040888963407
	return uint32(*r >> 32)
}

func (r *random) below(n int) int { return int(r.bits()>>4) % n }

func (r *random) chance(n int) bool { return r.below(n) == 0 }

func pick[T any](r *random, l []T) T { return l[r.below(len(l))] }

func match(value, mask uint32) api.KeyMatch { return api.KeyMatch{Value: value, Mask: mask} }

func call(action int, args ...uint32) api.ActionCall {
	return api.ActionCall{Action: action, Args: args}
}

func entryOf(priority int, c api.ActionCall, l ...api.KeyMatch) api.Entry {
	return api.Entry{Keys: l, Priority: priority, Call: c}
}

func packet(port int, data ...byte) api.Packet { return api.Packet{Port: port, Data: data} }

func hit(table, row, action int) api.Hit { return api.Hit{Table: table, Row: row, Action: action} }

func sent(port int, data []byte, hits ...api.Hit) api.Result {
	return api.Result{Port: port, Data: data, Hits: hits}
}

func dropped(hits ...api.Hit) api.Result { return api.Result{Drop: true, Hits: hits} }

func parsed(text string) api.Program {
	p, line, e := progtext.Parse(text)
	if e != api.OK {
		panic(fmt.Sprint("line ", line, ": ", e))
	}
	return p
}

// installed answers a configuration with rows, each at the index of its table.
func installed(p api.Program, rows map[int][]api.Entry) api.Config {
	s, e := store.New(p)
	if e != api.OK {
		panic(e)
	}
	for t, l := range rows {
		for _, x := range l {
			if _, e := s.Insert(t, x); e != api.OK {
				panic(fmt.Sprintf("%+v: %v", x, e))
			}
		}
	}
	return s.Config()
}

// text writes values with all that lies behind the lengths of their lists.
func text(l ...any) string {
	var s strings.Builder
	for _, x := range l {
		write(&s, reflect.ValueOf(x))
	}
	return s.String()
}

func write(s *strings.Builder, v reflect.Value) {
	switch v.Kind() {
	case reflect.Struct:
		for i := range v.NumField() {
			write(s, v.Field(i))
		}
	case reflect.Slice:
		fmt.Fprintf(s, "[%d:", v.Len())
		for i := range v.Cap() {
			write(s, v.Slice(0, v.Cap()).Index(i))
		}
		s.WriteString("]")
	default:
		fmt.Fprintf(s, "%#v ", v)
	}
}

// copied answers a copy that shares no memory, with some spare memory behind each list.
func copied[T any](x T) T { return copyOf(reflect.ValueOf(x)).Interface().(T) }

func copyOf(v reflect.Value) reflect.Value {
	c := reflect.New(v.Type()).Elem()
	switch v.Kind() {
	case reflect.Struct:
		for i := range v.NumField() {
			c.Field(i).Set(copyOf(v.Field(i)))
		}
	case reflect.Slice:
		c.Set(reflect.MakeSlice(v.Type(), v.Len(), v.Len()+2))
		for i := range v.Len() {
			c.Index(i).Set(copyOf(v.Index(i)))
		}
	default:
		c.Set(v)
	}
	return c
}

// same tells whether two values are equal, where nil is an empty list.
func same[T any](a, b T) bool { return reflect.DeepEqual(copied(a), copied(b)) }

// block is the memory of a list, with what lies behind its length.
type block struct{ start, end uintptr }

func blocks(v reflect.Value) []block {
	var l []block
	switch v.Kind() {
	case reflect.Struct:
		for i := range v.NumField() {
			l = append(l, blocks(v.Field(i))...)
		}
	case reflect.Slice:
		if v.Cap() > 0 {
			l = append(l, block{v.Pointer(), v.Pointer() + uintptr(v.Cap())*v.Type().Elem().Size()})
		}
		for i := range v.Len() {
			l = append(l, blocks(v.Index(i))...)
		}
	}
	return l
}

// answer is what RunAll answers.
type answer struct {
	Results []api.Result
	Config  api.Config
}

// expectApart expects that no list of an answer shares memory with another one, or with one of the other values.
func expectApart(t *testing.T, what string, a answer, others ...any) {
	t.Helper()
	own := blocks(reflect.ValueOf(a))
	all := slices.Clone(own)
	for _, x := range others {
		all = append(all, blocks(reflect.ValueOf(x))...)
	}
	for i, a := range own {
		for _, b := range all[i+1:] {
			if a.start < b.end && b.start < a.end {
				t.Errorf("%s: lists share memory", what)
				return
			}
		}
	}
}

// withRegisters answers c with other registers.
func withRegisters(c api.Config, cells [][]uint32) api.Config {
	c.Registers = cells
	return c
}

// expectRun expects what Run answers, and RunAll of that packet alone.
func expectRun(t *testing.T, what string, p api.Program, c api.Config, k api.Packet, want api.Result, after api.Config) {
	t.Helper()
	before := text(p, c, k)
	got, d := interp.Run(p, c, k)
	if !same(got, want) {
		t.Errorf("%s: %+v: Run answers %+v, want %+v", what, k, got, want)
	}
	if !same(d, after) {
		t.Errorf("%s: %+v: the configuration is %+v, want %+v", what, k, d, after)
	}
	expectApart(t, what, answer{[]api.Result{got}, d}, p, c, k)
	if l, e := interp.RunAll(p, c, []api.Packet{k}); !same(l, []api.Result{want}) || !same(e, after) {
		t.Errorf("%s: %+v: RunAll answers %+v, %+v", what, k, l, e)
	}
	if text(p, c, k) != before {
		t.Errorf("%s: the arguments are changed", what)
	}
}

// expectKept is expectRun of a packet that leaves the configuration as it is.
func expectKept(t *testing.T, what string, p api.Program, c api.Config, k api.Packet, want api.Result) {
	t.Helper()
	expectRun(t, what, p, c, k, want, c)
}

// expectRunAll expects what RunAll answers.
func expectRunAll(t *testing.T, what string, p api.Program, c api.Config, l []api.Packet, want []api.Result, after api.Config) {
	t.Helper()
	before := text(p, c, l)
	got, d := interp.RunAll(p, c, l)
	if !same(got, want) {
		t.Errorf("%s: RunAll answers %+v, want %+v", what, got, want)
	}
	if !same(d, after) {
		t.Errorf("%s: the configuration is %+v, want %+v", what, d, after)
	}
	expectApart(t, what, answer{got, d}, p, c, l)
	if text(p, c, l) != before {
		t.Errorf("%s: the arguments are changed", what)
	}
}
