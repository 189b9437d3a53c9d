package store_test

import (
	"math"
	"reflect"
	"slices"
	"testing"

	"patchbay/action"
	"patchbay/api"
	"patchbay/entry"
	"patchbay/program"
	"patchbay/register"
	"patchbay/store"
	"patchbay/table"
)

// expectCheck expects what Check answers, and Load with it.
func expectCheck(t *testing.T, what string, p api.Program, c api.Config, want api.Errno) {
	t.Helper()
	before := text(p, c)
	if e := store.Check(p, c); e != want {
		t.Errorf("%s: Check of %+v: %v, want %v", what, c, e, want)
	}
	s, e := store.Load(p, c)
	if e != want || (s != nil) != (want == api.OK) {
		t.Errorf("%s: Load of %+v: %v, %v, want %v", what, c, s, e, want)
	}
	if want == api.OK && s != nil {
		expectConfig(t, what, s, c)
	}
	if text(p, c) != before {
		t.Errorf("%s: the arguments are changed", what)
	}
}

// fault is a change of the filled configuration that makes it invalid.
type fault struct {
	what   string
	code   api.Errno
	change func(c *api.Config)
}

// faults are in the order in which Check finds them. Any two of them can be made together.
func faults() []fault {
	const a, b, c = exactly, byPrefix, byPattern
	return []fault{
		{"one more list of rows", api.ErrArg, func(x *api.Config) { x.Rows = append(x.Rows, nil) }},
		{"one more NextID", api.ErrArg, func(x *api.Config) { x.NextID = append(x.NextID, 1) }},
		{"one more default", api.ErrArg, func(x *api.Config) { x.Defaults = append(x.Defaults, call(0)) }},
		{"too many rows", api.ErrLimit, func(x *api.Config) { x.Rows[a] = append(x.Rows[a], row(11, 0, call(0))) }},
		{"an ID twice", api.ErrOrder, func(x *api.Config) { x.Rows[a][1].ID = x.Rows[a][0].ID }},
		{"a small NextID", api.ErrOrder, func(x *api.Config) { x.NextID[a] = 9 }},
		{"a key less", api.ErrArg, func(x *api.Config) { x.Rows[a][0].Entry.Keys = x.Rows[a][0].Entry.Keys[:1] }},
		{"a wide value", api.ErrRange, func(x *api.Config) { x.Rows[a][1].Entry.Keys[0] = match(16, 15) }},
		{"a key twice", api.ErrDuplicate, func(x *api.Config) {
			x.Rows[a][2].Entry.Keys = slices.Clone(x.Rows[a][1].Entry.Keys)
		}},
		{"a default that isn't allowed", api.ErrNotFound, func(x *api.Config) { x.Defaults[a].Action = 2 }},
		{"a default of no arguments", api.ErrArg, func(x *api.Config) { x.Defaults[a].Args = nil }},
		{"an ID of 0", api.ErrOrder, func(x *api.Config) { x.Rows[b][0].ID = 0 }},
		{"a mask that isn't exact", api.ErrKind, func(x *api.Config) { x.Rows[b][0].Entry.Keys[0] = match(5, 5) }},
		{"a value outside its mask", api.ErrSyntax, func(x *api.Config) { x.Rows[b][1].Entry.Keys[1] = match(0xc0, 0x80) }},
		{"a priority", api.ErrKind, func(x *api.Config) { x.Rows[b][2].Entry.Priority = 1 }},
		{"an action that isn't allowed", api.ErrNotFound, func(x *api.Config) { x.Rows[b][3].Entry.Call = call(3) }},
		{"a great argument of a default", api.ErrRange, func(x *api.Config) { x.Defaults[b].Args[0] = 2 }},
		{"more rows still", api.ErrLimit, func(x *api.Config) { x.Rows[c] = append(x.Rows[c], make([]api.Row, 4)...) }},
		{"a great NextID", api.ErrOrder, func(x *api.Config) { x.NextID[c] = noID + 1 }},
		{"a great priority", api.ErrRange, func(x *api.Config) { x.Rows[c][0].Entry.Priority = 256 }},
		{"a great argument", api.ErrRange, func(x *api.Config) { x.Rows[c][1].Entry.Call.Args[0] = 2 }},
		{"an unknown default", api.ErrNotFound, func(x *api.Config) { x.Defaults[c].Action = 4 }},
		{"no NextID", api.ErrOrder, func(x *api.Config) { x.NextID[keyless] = 0 }},
		{"a key more", api.ErrArg, func(x *api.Config) { x.Rows[keyless][0].Entry.Keys = []api.KeyMatch{{}} }},
		{"an argument more", api.ErrArg, func(x *api.Config) { x.Defaults[keyless].Args = []uint32{0} }},
		{"a register more", api.ErrArg, func(x *api.Config) { x.Registers = append(x.Registers, nil) }},
		{"a cell less", api.ErrArg, func(x *api.Config) { x.Registers[1] = x.Registers[1][:1] }},
		{"a great cell", api.ErrRange, func(x *api.Config) { x.Registers[0][1] = 256 }},
	}
}

// P25.2: of two faults the first one in the promise's order is answered, whichever was made first.
func TestCheckOrder(t *testing.T) {
	p, l := sample(), faults()
	expectCheck(t, "filled", p, filled(), api.OK)
	for i, x := range l {
		c := filled()
		x.change(&c)
		expectCheck(t, x.what, p, c, x.code)
		for _, y := range l[i+1:] {
			c, d := filled(), filled()
			x.change(&c)
			y.change(&c)
			expectCheck(t, x.what+", "+y.what, p, c, x.code)
			y.change(&d)
			x.change(&d)
			expectCheck(t, y.what+", "+x.what, p, d, x.code)
		}
	}
}

// P25.2, P25.3: an invalid program's code comes ahead of all else.
func TestCheckProgram(t *testing.T) {
	for _, p := range damages() {
		code := program.Check(p).Code
		expectCheck(t, "an invalid program", p, filled(), code)
		expectCheck(t, "an invalid program", p, api.Config{}, code)
		expectCheck(t, "an invalid program", p, store.EmptyConfig(p), code)
		for _, x := range faults() {
			c := filled()
			x.change(&c)
			expectCheck(t, "an invalid program, "+x.what, p, c, code)
		}
		before := text(p)
		if s, e := store.New(p); s != nil || e != code {
			t.Errorf("New of an invalid program: %v, %v, want %v", s, e, code)
		}
		if text(p) != before {
			t.Error("New changes its argument")
		}
	}
}

// P25.2: one element for every table
func TestCheckShape(t *testing.T) {
	p := sample()
	expectCheck(t, "nothing", p, api.Config{}, api.ErrArg)
	for n := range 9 {
		want := api.ErrArg
		if n == len(p.Tables) {
			want = api.OK
		}
		c := store.EmptyConfig(p)
		c.Rows = make([][]api.Row, n)
		expectCheck(t, "some lists of rows", p, c, want)
		c = store.EmptyConfig(p)
		c.NextID = slices.Repeat([]int{1}, n)
		expectCheck(t, "some NextIDs", p, c, want)
		c = store.EmptyConfig(p)
		c.Defaults = slices.Repeat(c.Defaults, 3)[:n]
		expectCheck(t, "some defaults", p, c, want)
	}
	none := parsed("program p metadata { in: 8 out: 8 drop: 1 } state s { default accept } control { } deparser")
	expectCheck(t, "no tables", none, api.Config{}, api.OK)
	expectCheck(t, "no tables", none, api.Config{NextID: []int{1}}, api.ErrArg)
	expectCheck(t, "no tables", none, api.Config{Rows: [][]api.Row{nil}}, api.ErrArg)
	expectCheck(t, "no tables", none, api.Config{Registers: [][]uint32{nil}}, api.ErrArg)
}

// P25.2: the IDs of a table's rows and its NextID
func TestCheckIDs(t *testing.T) {
	p := sample()
	for _, x := range []struct {
		ids  []int
		next int
		want api.Errno
	}{
		{nil, 1, api.OK}, {nil, 2, api.OK}, {nil, noID, api.OK}, {nil, 0, api.ErrOrder}, {nil, noID + 1, api.ErrOrder}, {nil, -1, api.ErrOrder},
		{[]int{1}, 2, api.OK}, {[]int{1}, 1, api.ErrOrder}, {[]int{1}, 0, api.ErrOrder}, {[]int{1}, noID, api.OK}, {[]int{1}, noID + 1, api.ErrOrder},
		{[]int{0}, 1, api.ErrOrder}, {[]int{0, 1}, 2, api.ErrOrder}, {[]int{-1}, 1, api.ErrOrder}, {[]int{-1, 1}, 5, api.ErrOrder},
		{[]int{1, 2, 3}, 4, api.OK}, {[]int{1, 2, 3}, 3, api.ErrOrder}, {[]int{7, 8, 300}, 301, api.OK}, {[]int{7, 8, 300}, 300, api.ErrOrder},
		{[]int{1, 1}, 9, api.ErrOrder}, {[]int{2, 1}, 9, api.ErrOrder}, {[]int{1, 3, 2}, 9, api.ErrOrder}, {[]int{5, 6, 6}, 9, api.ErrOrder},
		{[]int{noID - 1}, noID, api.OK}, {[]int{noID}, noID, api.ErrOrder}, {[]int{noID}, noID + 1, api.ErrOrder}, {[]int{1, noID - 1}, noID - 1, api.ErrOrder},
		{[]int{math.MaxInt}, math.MaxInt, api.ErrOrder}, {[]int{math.MinInt}, 1, api.ErrOrder}, {[]int{1, math.MinInt}, 2, api.ErrOrder},
	} {
		for i := range p.Tables {
			if len(x.ids) > p.Tables[i].Size {
				continue
			}
			c := store.EmptyConfig(p)
			c.NextID[i] = x.next
			for k, id := range x.ids {
				r := filled().Rows[i][min(k, len(filled().Rows[i])-1)]
				r.ID = id
				if i == byPattern {
					r.Entry.Priority = k
				}
				c.Rows[i] = append(c.Rows[i], r)
			}
			expectCheck(t, "IDs", p, c, x.want)
		}
	}
	for _, n := range wrongNumbers {
		if n == 99 {
			continue
		}
		c := store.EmptyConfig(p)
		c.NextID[2] = n
		expectCheck(t, "a wrong NextID", p, c, api.ErrOrder)
	}
}

// P25.2: as many rows as the Size
func TestCheckSize(t *testing.T) {
	for _, size := range []int{1, 2, 255, api.MaxRows} {
		p := sample()
		p.Tables[byPattern].Size = size
		c := store.EmptyConfig(p)
		for id := 1; id <= size; id++ {
			c.Rows[byPattern] = append(c.Rows[byPattern], row(id, (id-1)%256, call(0), match(5, 5), match(0, 0)))
		}
		c.NextID[byPattern] = size + 1
		expectCheck(t, "as many rows as the Size", p, c, api.OK)
		c.Rows[byPattern] = append(c.Rows[byPattern], row(size+1, 0, call(0), match(0, 0), match(0, 0)))
		c.NextID[byPattern]++
		expectCheck(t, "one row more", p, c, api.ErrLimit)
		c.Rows[byPattern] = slices.Repeat(c.Rows[byPattern], 1000/size+1)
		expectCheck(t, "many rows more", p, c, api.ErrLimit)
	}
}

// P25.2: rows of the same key; calls don't count, priorities do
func TestCheckKeys(t *testing.T) {
	p := sample()
	rows := func(i int, l ...api.Row) api.Config {
		c := store.EmptyConfig(p)
		for k := range l {
			l[k].ID = k + 1
		}
		c.Rows[i], c.NextID[i] = l, len(l)+1
		return c
	}
	one := func(priority int, c api.ActionCall) api.Row {
		return row(0, priority, c, match(1, 5), match(0x80, 0x80))
	}
	other := row(0, 0, call(0), match(1, 5), match(0, 0x80))
	wide := row(0, 0, call(0), match(1, 5), match(0x80, 0xc0))
	bad := row(0, 0, call(1, 1), match(1, 5), match(0, 0))
	expectCheck(t, "rows", p, rows(byPattern, one(0, call(0)), one(1, call(0)), other, wide, one(255, call(0))), api.OK)
	expectCheck(t, "rows", p, rows(byPattern, one(3, call(0)), one(3, call(0))), api.ErrDuplicate)
	expectCheck(t, "rows", p, rows(byPattern, one(3, call(0)), one(3, call(2, 1, 2, 3))), api.ErrDuplicate)
	expectCheck(t, "rows", p, rows(byPattern, one(3, call(0)), other, wide, one(2, call(0)), one(3, call(0))), api.ErrDuplicate)
	expectCheck(t, "rows", p, rows(byPattern, one(3, call(0)), one(3, call(0)), bad), api.ErrDuplicate)
	expectCheck(t, "rows", p, rows(byPattern, one(3, call(0)), bad, one(3, call(0))), api.ErrNotFound)
	expectCheck(t, "rows", p, rows(byPattern, bad, bad), api.ErrNotFound)
	expectCheck(t, "rows", p, rows(exactly, row(0, 0, call(0), match(3, 15), match(4, 7)), row(0, 0, call(0), match(4, 15), match(3, 7))), api.OK)
	expectCheck(t, "rows", p, rows(exactly, row(0, 0, call(0), match(3, 15), match(4, 7)), row(0, 0, call(1, 3), match(3, 15), match(4, 7))), api.ErrDuplicate)
	expectCheck(t, "rows", p, rows(keyless, row(0, 0, call(0))), api.OK)
	p.Tables[keyless].Size = 2
	expectCheck(t, "rows", p, rows(keyless, row(0, 0, call(0)), row(0, 0, call(0))), api.ErrDuplicate)
}

// wantCheck is P25.2, word by word.
func wantCheck(p api.Program, c api.Config) api.Errno {
	if d := program.Check(p); d.Code != api.OK {
		return d.Code
	}
	n := len(p.Tables)
	if len(c.Rows) != n || len(c.NextID) != n || len(c.Defaults) != n {
		return api.ErrArg
	}
	for t, x := range p.Tables {
		if len(c.Rows[t]) > x.Size {
			return api.ErrLimit
		}
		for i, r := range c.Rows[t] {
			if r.ID < 1 || i > 0 && r.ID <= c.Rows[t][i-1].ID || c.NextID[t] <= r.ID {
				return api.ErrOrder
			}
		}
		if c.NextID[t] < 1 || c.NextID[t] > 1<<30 {
			return api.ErrOrder
		}
		for i, r := range c.Rows[t] {
			if e := entry.Check(p, t, r.Entry); e != api.OK {
				return e
			}
			for _, earlier := range c.Rows[t][:i] {
				if entry.SameKey(earlier.Entry, r.Entry) {
					return api.ErrDuplicate
				}
			}
		}
		if !table.Allows(p, t, c.Defaults[t].Action) {
			return api.ErrNotFound
		}
		if e := action.CheckCall(p, c.Defaults[t]); e != api.OK {
			return e
		}
	}
	return register.CheckContents(p, c.Registers)
}

// damage changes one place of a configuration in some way.
func damage(r *random, c *api.Config) {
	var l []reflect.Value
	var visit func(v reflect.Value)
	visit = func(v reflect.Value) {
		switch v.Kind() {
		case reflect.Struct:
			for i := range v.NumField() {
				visit(v.Field(i))
			}
			return
		case reflect.Slice:
			for i := range v.Len() {
				visit(v.Index(i))
			}
		}
		l = append(l, v)
	}
	visit(reflect.ValueOf(c).Elem())
	v := pick(r, l)
	switch v.Kind() {
	case reflect.Int:
		v.SetInt(int64(pick(r, append(slices.Clone(wrongNumbers), int(v.Int())+1, int(v.Int())-1, 0, 1, 2, 3, 255, 256, noID, noID-1))))
	case reflect.Uint32:
		v.SetUint(uint64(pick(r, []uint32{0, 1, 2, 3, 7, 15, 128, 192, 255, 256, 1 << 16, math.MaxUint32})))
	case reflect.Slice:
		n := v.Len()
		switch r.below(4) {
		case 0:
			v.SetZero()
		case 1:
			v.Set(reflect.Append(v.Slice3(0, n, n), reflect.Zero(v.Type().Elem())))
		case 2:
			v.Set(v.Slice(0, max(0, n-1)))
		case 3:
			if n > 0 {
				v.Set(reflect.Append(v.Slice3(0, n, n), copyOf(v.Index(r.below(n)))))
			}
		}
	}
}

// P25.2, P25.3: configurations of all sorts, held against the promise's words
func TestRandomCheck(t *testing.T) {
	r := random(25)
	p := sample()
	p.Tables[exactly].Size, p.Tables[byPrefix].Size = 4, 5
	met := map[api.Errno]int{}
	for range 12000 {
		c := filled()
		for range r.below(4) {
			damage(&r, &c)
		}
		want := wantCheck(p, c)
		met[want]++
		if e := store.Check(p, c); e != want {
			t.Fatalf("Check of %+v: %v, want %v", c, e, want)
		}
		if s, e := store.Load(p, c); e != want || (s != nil) != (want == api.OK) {
			t.Fatalf("Load of %+v: %v, %v, want %v", c, s, e, want)
		}
	}
	for _, e := range []api.Errno{api.OK, api.ErrArg, api.ErrSyntax, api.ErrDuplicate, api.ErrNotFound, api.ErrRange, api.ErrKind, api.ErrLimit, api.ErrOrder} {
		if met[e] < 10 {
			t.Errorf("%v is met %d times", e, met[e])
		}
	}
}
