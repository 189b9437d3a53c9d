package program_test

import (
	"reflect"
	"strings"
	"testing"
	"unsafe"

	"patchbay/api"
	"patchbay/program"
)

func expectEqual(t *testing.T, what string, a, b api.Program, want bool) {
	t.Helper()
	before := text(a) + text(b)
	if program.Equal(a, b) != want || program.Equal(b, a) != want {
		t.Errorf("%s: Equal = %v, %v, want %v", what, program.Equal(a, b), program.Equal(b, a), want)
	}
	if text(a)+text(b) != before {
		t.Errorf("%s: Equal changes a program", what)
	}
}

// full answers a program that has something in every field, also those that a kind doesn't use.
func full() api.Program {
	node := api.ControlNode{Kind: 7, Table: 8, Cond: constant(1, 2)}
	for range 3 {
		node = api.ControlNode{Kind: 1, Table: 2, Cond: constant(3, 4), Then: []api.ControlNode{node, {}}, Else: []api.ControlNode{{}, node}}
	}
	s := api.Statement{Kind: 1, Dst: at(2, 3), Register: 4, Header: 5, Index: constant(6, 7), Value: constant(8, 9)}
	state := api.ParserState{Name: "s", Extract: []int{1, 2}, On: at(1, 2), Cases: []api.SelectCase{{Value: 1, Mask: 2, Next: 3}}, Default: 4}
	return api.Program{
		Name:      "full",
		Headers:   []api.Header{{Name: "h", Fields: []api.Field{{Name: "f", Width: 1}}}, {}},
		Metadata:  []api.Field{{Name: "f", Width: 1}, {}},
		Registers: []api.Register{{Name: "r", Width: 1, Size: 2}, {}},
		Actions:   []api.Action{{Name: "a", Params: []api.Field{{Name: "f", Width: 1}, {}}, Body: []api.Statement{s, {}}}, {}},
		Tables:    []api.Table{{Name: "t", Keys: []api.TableKey{{Field: at(1, 2), Kind: 3}, {}}, Actions: []int{1, 2}, Default: api.ActionCall{Action: 1, Args: []uint32{2, 3}}, Size: 4}, {}},
		States:    []api.ParserState{state, {}},
		Control:   []api.ControlNode{node, {}},
		Deparser:  []int{1, 2},
	}
}

// otherwise answers values for a place that differ from the one it has.
func otherwise(v reflect.Value) []reflect.Value {
	var l []reflect.Value
	add := func(change func(c reflect.Value)) {
		c := reflect.New(v.Type()).Elem()
		c.Set(v)
		change(c)
		l = append(l, c)
	}
	switch v.Kind() {
	case reflect.String:
		add(func(c reflect.Value) { c.SetString(v.String() + "\x00") })
		add(func(c reflect.Value) { c.SetString(strings.ToUpper(v.String()) + "_") })
	case reflect.Int:
		add(func(c reflect.Value) { c.SetInt(v.Int() + 1) })
		add(func(c reflect.Value) { c.SetInt(v.Int() + 1<<32) })
		add(func(c reflect.Value) { c.SetInt(^v.Int()) })
	case reflect.Uint32:
		add(func(c reflect.Value) { c.SetUint(v.Uint() ^ 1) })
		add(func(c reflect.Value) { c.SetUint(v.Uint() ^ 1<<31) })
	case reflect.Bool:
		add(func(c reflect.Value) { c.SetBool(!v.Bool()) })
	case reflect.Slice:
		n := v.Len()
		add(func(c reflect.Value) { c.Set(reflect.Append(v.Slice3(0, n, n), reflect.Zero(v.Type().Elem()))) })
		if n > 0 {
			add(func(c reflect.Value) { c.Set(v.Slice(0, n-1)) })
			add(func(c reflect.Value) { c.SetZero() })
			add(func(c reflect.Value) { c.Set(reflect.AppendSlice(v.Slice3(0, n, n), v)) })
		}
	}
	return l
}

// P21.2: Equal looks at every field and element, those included that a kind doesn't use.
func TestEqualEverywhere(t *testing.T) {
	for _, origin := range []api.Program{{}, sample(), full()} {
		p := deepCopy(origin, false)
		expectEqual(t, "copy", p, origin, true)
		for _, x := range places(&p) {
			old := reflect.New(x.value.Type()).Elem()
			old.Set(x.value)
			for _, other := range otherwise(x.value) {
				x.value.Set(other)
				expectEqual(t, x.way, p, origin, false)
			}
			x.value.Set(old)
			expectEqual(t, x.way, p, origin, true)
		}
	}
}

// P21.2: lists that differ in the order of two elements
func TestEqualOrder(t *testing.T) {
	p := full()
	for _, x := range places(&p) {
		if x.value.Kind() != reflect.Slice || x.value.Len() < 2 {
			continue
		}
		swap := reflect.Swapper(x.value.Interface())
		swap(0, 1)
		expectEqual(t, x.way, p, full(), same(p, full()))
		swap(0, 1)
	}
	expectEqual(t, "swapped back", p, full(), true)
}

// P21.2: a nil list equals an empty one, and what lies behind a length doesn't matter.
func TestEqualEmpty(t *testing.T) {
	for _, p := range []api.Program{{}, sample(), full()} {
		expectEqual(t, "nil and empty", deepCopy(p, true), deepCopy(p, false), true)
	}
	p, q := sample(), sample()
	p.Deparser = append(p.Deparser[:3:3], 9)[:3]
	p.Headers = append(p.Headers[:3:3], api.Header{Name: "x"})[:3]
	q.Tables[1].Default.Args = []uint32{1, 2, 3}[:0]
	expectEqual(t, "behind the length", p, q, true)
}

// P21.4: Equal is an equivalence relation, equal programs have equal diagnostics, and Clone answers an equal one.
func TestEqualRelation(t *testing.T) {
	r := random(21)
	var l []api.Program
	for i := range 60 {
		p := deepCopy(sample(), i%2 == 0)
		for range r.below(3) {
			damage(&r, &p)
		}
		l = append(l, p, deepCopy(p, i%3 == 0), program.Clone(p))
	}
	equal := 0
	for _, a := range l {
		expectEqual(t, "itself", a, a, true)
		expectEqual(t, "clone", a, program.Clone(a), true)
		for _, b := range l {
			if !program.Equal(a, b) {
				continue
			}
			equal++
			if x, y := program.Check(a), program.Check(b); x != y {
				t.Errorf("equal programs have the diagnostics %v and %v", x, y)
			}
			for _, c := range l {
				if program.Equal(b, c) != program.Equal(a, c) {
					t.Error("Equal isn't transitive")
				}
			}
		}
	}
	if equal < 3*len(l) || equal > len(l)*len(l)/2 {
		t.Errorf("%d of %d pairs are equal", equal, len(l)*len(l))
	}
}

// blocks answers where the lists and texts of a program lie.
func blocks(p api.Program) map[unsafe.Pointer]bool {
	set := map[unsafe.Pointer]bool{}
	for _, x := range places(&p) {
		switch {
		case x.value.Kind() == reflect.Slice && x.value.Len() > 0:
			set[x.value.UnsafePointer()] = true
		case x.value.Kind() == reflect.String && x.value.Len() > 0:
			set[unsafe.Pointer(unsafe.StringData(x.value.String()))] = true
		}
	}
	return set
}

// P21.2: a clone is equal, shares no memory with the program, and no two of its lists share any.
func TestClone(t *testing.T) {
	for _, p := range []api.Program{{}, sample(), full(), deepCopy(full(), true)} {
		before := text(p)
		c := program.Clone(p)
		if !same(c, p) {
			t.Errorf("Clone of %v = %v", p, c)
		}
		seen := blocks(p)
		for at := range blocks(c) {
			if seen[at] {
				t.Error("the clone shares memory with the program")
			}
		}
		for _, x := range places(&c) {
			if x.value.Kind() == reflect.Slice {
				expectApart(t, x, &c)
			}
		}
		for _, x := range places(&c) {
			x.value.SetZero()
		}
		if text(p) != before {
			t.Error("a change of the clone changes the program")
		}
	}
}

// expectApart lets a list grow into its spare memory and expects that nothing else of the program changes.
func expectApart(t *testing.T, x place, p *api.Program) {
	t.Helper()
	before := deepCopy(*p, false)
	v := x.value
	all := v.Slice(0, v.Cap())
	for i := v.Len(); i < all.Len(); i++ {
		all.Index(i).SetZero()
	}
	if !same(*p, before) {
		t.Errorf("%s shares its spare memory", x.way)
	}
}

// P21.2: a change of the program doesn't change its clone.
func TestCloneKeeps(t *testing.T) {
	p := full()
	c := program.Clone(p)
	for _, x := range places(&p) {
		x.value.SetZero()
	}
	if !same(c, full()) {
		t.Errorf("a change of the program makes its clone %v", c)
	}
}

// P21.2: what lies behind a length isn't part of a program.
func TestCloneBehindLength(t *testing.T) {
	p := full()
	p.Deparser = p.Deparser[:1]
	p.Control = p.Control[:1]
	p.Actions[0].Body = p.Actions[0].Body[:0]
	before := text(p)
	c := program.Clone(p)
	if !same(c, p) || text(p) != before {
		t.Errorf("Clone = %v", c)
	}
	c.Deparser = append(c.Deparser, 9)
	c.Control = append(c.Control, api.ControlNode{Kind: 9})
	c.Actions[0].Body = append(c.Actions[0].Body, api.Statement{Kind: 9})
	if text(p) != before {
		t.Error("the clone grows into the program")
	}
}

// P21.2: nodes nested in one another as deeply as the document's bound lets them
func TestNestedDeeply(t *testing.T) {
	const depth = 1 << 16
	nest := func(innermost int) api.Program {
		c := []api.ControlNode{{Kind: innermost}}
		for i := range depth - 1 {
			if i%2 == 0 {
				c = []api.ControlNode{{Kind: api.ControlIf, Then: c}}
				continue
			}
			c = []api.ControlNode{{Kind: api.ControlHit, Else: c}}
		}
		return api.Program{Control: c}
	}
	a, b := nest(1), nest(2)
	if program.Equal(a, b) || !program.Equal(a, nest(1)) || !program.Equal(program.Clone(b), b) {
		t.Error("Equal of nodes nested deeply")
	}
	p := sample()
	p.Control = a.Control
	expectCheck(t, "nested deeply", p, api.Diagnostic{Code: api.ErrLimit, Part: program.PartControl, Item: -1})
}
