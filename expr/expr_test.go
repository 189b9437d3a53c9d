package expr_test

import (
	"math"
	"math/bits"
	"slices"
	"testing"

	"patchbay/api"
	"patchbay/env"
	"patchbay/expr"
)

var (
	leafOps   = []int{api.ExprConst, api.ExprField, api.ExprParam, api.ExprValid}
	unaryOps  = []int{api.ExprNot, api.ExprShl, api.ExprShr, api.ExprSlice}
	binaryOps = []int{api.ExprAdd, api.ExprSub, api.ExprAnd, api.ExprOr, api.ExprXor, api.ExprConcat, api.ExprEqual, api.ExprLess}
	wrongOps  = []int{math.MinInt, -1, 0, 18, 19, 257, 1 << 32, 1<<32 + 1, math.MaxInt}
)

var wrongWidths = []int{math.MinInt, -32, -1, 0, 33, 64, 1 << 32, 1<<32 + 8, math.MaxInt}

var values = []uint32{0, 1, 2, 3, 7, 8, 0x15, 0x7f, 0x80, 0xff, 0x100, 0xffff, 0x10000, 1<<31 - 1, 1 << 31, 0xdeadbeef, math.MaxUint32 - 1, math.MaxUint32}

// random is a row of numbers that look like no rule, the same ones for the same seed.
type random uint64

func (r *random) bits() uint32 {
	*r = *r*6364136223846793005 + 1442695040888963407
	return uint32(*r >> 32)
}

func (r *random) below(n int) int { return int(r.bits()>>4) % n }

func nd(op, n, w int) api.ExprNode { return api.ExprNode{Op: op, N: n, W: w} }

func op(o int) api.ExprNode { return nd(o, 0, 0) }

func con(n, w int) api.ExprNode { return nd(api.ExprConst, n, w) }

func fld(h, f int) api.ExprNode { return nd(api.ExprField, h, f) }

func par(i int) api.ExprNode { return nd(api.ExprParam, i, 0) }

func val(h int) api.ExprNode { return nd(api.ExprValid, h, 0) }

func list(n ...api.ExprNode) []api.ExprNode { return n }

func join(l ...[]api.ExprNode) []api.ExprNode { return slices.Concat(l...) }

func mask(w int) uint64 { return 1<<w - 1 }

// wide is a scope with a field and a parameter of every width from 1 to 32: metadata field, field of header 0, and
// parameter number w-1 have width w. Header 1 has fields of wrong widths.
func wide() expr.Scope {
	var fields, wrong []api.Field
	for w := 1; w <= 32; w++ {
		fields = append(fields, api.Field{Name: "f", Width: w})
	}
	for _, w := range wrongWidths {
		wrong = append(wrong, api.Field{Name: "x", Width: w})
	}
	p := api.Program{Headers: []api.Header{{Fields: slices.Clone(fields)}, {Fields: wrong}, {}}, Metadata: slices.Concat(fields, wrong)}
	return expr.Scope{Program: p, Params: slices.Concat(fields, wrong)}
}

func expectCheck(t *testing.T, n []api.ExprNode, s expr.Scope, width int, want api.Errno) {
	t.Helper()
	if w, e := expr.Check(n, s); w != width || e != want {
		t.Fatalf("Check(%v) = %d, %v, want %d, %v", n, w, e, width, want)
	}
}

// expectWidth expects a width where cond holds, else that error.
func expectWidth(t *testing.T, n []api.ExprNode, s expr.Scope, width int, cond bool, otherwise api.Errno) {
	t.Helper()
	if cond {
		expectCheck(t, n, s, width, api.OK)
		return
	}
	expectCheck(t, n, s, 0, otherwise)
}

// P13.1: ExprConst
func TestCheckConst(t *testing.T) {
	for w := 1; w <= 32; w++ {
		for _, n := range []int{0, 1, 1<<w - 2, 1<<w - 1} {
			expectCheck(t, list(con(n, w)), expr.Scope{}, w, api.OK)
		}
		for _, n := range []int{1 << w, 1<<w + 1, -1, math.MinInt, math.MaxInt, 1 << 32, 1<<62 + 1, -1 << 32} {
			expectCheck(t, list(con(n, w)), expr.Scope{}, 0, api.ErrRange)
		}
	}
	for _, w := range wrongWidths {
		for _, n := range []int{0, 1, -1, 1 << 40} {
			expectCheck(t, list(con(n, w)), expr.Scope{}, 0, api.ErrWidth)
		}
	}
}

// P13.1: ExprField
func TestCheckField(t *testing.T) {
	s := wide()
	for f := -3; f < 50; f++ {
		for h := -4; h < 6; h++ {
			want, fields := api.ErrNotFound, []api.Field(nil)
			if h == -1 {
				fields = s.Program.Metadata
			} else if h >= 0 && h < 3 {
				fields = s.Program.Headers[h].Fields
			}
			if f >= 0 && f < len(fields) {
				w := fields[f].Width
				expectWidth(t, list(fld(h, f)), s, w, w >= 1 && w <= 32, api.ErrWidth)
				continue
			}
			expectCheck(t, list(fld(h, f)), s, 0, want)
		}
	}
	for _, i := range []int{math.MinInt, math.MaxInt, 1 << 32, -1 << 32, 1<<32 - 1} {
		for _, n := range []api.ExprNode{fld(i, 0), fld(0, i), fld(-1, i), fld(i, i)} {
			expectCheck(t, list(n), s, 0, api.ErrNotFound)
		}
	}
	expectCheck(t, list(fld(0, 0)), expr.Scope{}, 0, api.ErrNotFound)
	expectCheck(t, list(fld(-1, 0)), expr.Scope{}, 0, api.ErrNotFound)
}

// P13.1: ExprParam, whose W is ignored
func TestCheckParam(t *testing.T) {
	s := wide()
	for _, w := range []int{0, -1, 99, math.MinInt} {
		for i, f := range s.Params {
			expectWidth(t, list(nd(api.ExprParam, i, w)), s, f.Width, f.Width >= 1 && f.Width <= 32, api.ErrWidth)
		}
		for _, i := range []int{-1, -2, len(s.Params), len(s.Params) + 1, math.MinInt, math.MaxInt, 1 << 32} {
			expectCheck(t, list(nd(api.ExprParam, i, w)), s, 0, api.ErrNotFound)
		}
	}
	expectCheck(t, list(par(0)), expr.Scope{Program: s.Program}, 0, api.ErrNotFound)
}

// P13.1: ExprValid, whose W is ignored
func TestCheckValid(t *testing.T) {
	s := wide()
	for _, w := range []int{0, -1, 99, math.MinInt} {
		for h := range s.Program.Headers {
			expectCheck(t, list(nd(api.ExprValid, h, w)), s, 1, api.OK)
		}
		for _, h := range []int{-1, -2, 3, 4, math.MinInt, math.MaxInt, 1 << 32} {
			expectCheck(t, list(nd(api.ExprValid, h, w)), s, 0, api.ErrNotFound)
		}
	}
}

// P13.1: what lies behind the length of a list doesn't exist.
func TestCheckBehindLength(t *testing.T) {
	s := wide()
	s.Params = s.Params[:2]
	s.Program.Metadata = s.Program.Metadata[:2]
	s.Program.Headers[0].Fields = s.Program.Headers[0].Fields[:2]
	s.Program.Headers = s.Program.Headers[:1]
	for _, n := range []api.ExprNode{par(2), fld(-1, 2), fld(0, 2), fld(1, 0), val(1)} {
		expectCheck(t, list(n), s, 0, api.ErrNotFound)
	}
	l := list(op(api.ExprAdd), con(1, 8), con(2, 8), con(3, 8))
	expectCheck(t, l[:3], s, 8, api.OK)
	expectCheck(t, l[:2], s, 0, api.ErrShort)
}

// P13.1: ExprNot, ExprShl, ExprShr, ExprSlice
func TestCheckUnary(t *testing.T) {
	s := wide()
	numbers := []int{math.MinInt, -1 << 32, math.MaxInt, 1 << 32, 1<<32 + 1}
	for i := -2; i < 36; i++ {
		numbers = append(numbers, i)
	}
	for w := 1; w <= 32; w++ {
		for _, n := range numbers {
			isShift := n >= 0 && n <= 31
			expectCheck(t, list(nd(api.ExprNot, n, n), par(w-1)), s, w, api.OK)
			expectWidth(t, list(nd(api.ExprShl, n, n), par(w-1)), s, w, isShift, api.ErrRange)
			expectWidth(t, list(nd(api.ExprShr, n, -n), par(w-1)), s, w, isShift, api.ErrRange)
			for _, size := range numbers {
				l := list(nd(api.ExprSlice, n, size), par(w-1))
				if n < 0 {
					expectCheck(t, l, s, 0, api.ErrRange)
					continue
				}
				expectWidth(t, l, s, size, size >= 1 && size <= w && n <= w-size, api.ErrWidth)
			}
		}
	}
}

// P13.1: the operators from ExprAdd to ExprLess, whose N and W are ignored
func TestCheckBinary(t *testing.T) {
	s := wide()
	for _, o := range binaryOps {
		for a := 1; a <= 32; a++ {
			for b := 1; b <= 32; b++ {
				width, fits := a, a == b
				switch o {
				case api.ExprConcat:
					width, fits = a+b, a+b <= 32
				case api.ExprEqual, api.ExprLess:
					width = 1
				}
				expectWidth(t, list(nd(o, a-9, 99-b), par(a-1), fld(-1, b-1)), s, width, fits, api.ErrWidth)
			}
		}
	}
}

// P13.1: ExprIf, whose N and W are ignored
func TestCheckIf(t *testing.T) {
	s := wide()
	for _, c := range []int{1, 2, 8, 32} {
		for a := 1; a <= 32; a++ {
			for b := 1; b <= 32; b++ {
				expectWidth(t, list(nd(api.ExprIf, -1, 77), fld(-1, c-1), par(a-1), fld(0, b-1)), s, a, c == 1 && a == b, api.ErrWidth)
			}
		}
	}
}

// P13.1: ErrShort, ErrKind, ErrLong
func TestCheckShape(t *testing.T) {
	expectCheck(t, nil, expr.Scope{}, 0, api.ErrShort)
	expectCheck(t, list(), expr.Scope{}, 0, api.ErrShort)
	c := con(1, 1)
	for o := api.ExprConst; o <= api.ExprIf; o++ {
		node, operands := nd(o, 0, 1), operandCount(o)
		s := expr.Scope{Program: api.Program{Headers: []api.Header{{Fields: []api.Field{{Width: 1}, {Width: 1}}}}}, Params: []api.Field{{Width: 1}}}
		l := append(list(node), c, c, c, c)
		for i := range operands {
			expectCheck(t, l[:i+1], s, 0, api.ErrShort)
		}
		if _, e := expr.Check(l[:operands+1], s); e != api.OK {
			t.Errorf("Check of operator %d: %v", o, e)
		}
		expectCheck(t, l[:operands+2], s, 0, api.ErrLong)
		expectCheck(t, append(l[:operands+1:operands+1], op(99)), s, 0, api.ErrLong)
	}
	for _, o := range wrongOps {
		expectCheck(t, list(nd(o, 1, 1)), expr.Scope{}, 0, api.ErrKind)
		expectCheck(t, list(op(api.ExprNot), nd(o, 1, 1)), expr.Scope{}, 0, api.ErrKind)
		expectCheck(t, list(op(api.ExprAdd), c, nd(o, 1, 1)), expr.Scope{}, 0, api.ErrKind)
		expectCheck(t, list(op(api.ExprIf), c, c, nd(o, 1, 1)), expr.Scope{}, 0, api.ErrKind)
	}
}

// P13.1: of several errors the first one in the document's order is told.
func TestCheckOrder(t *testing.T) {
	badWidth, badRange, badName, badOp := con(0, 0), con(2, 1), par(0), op(0)
	add, not, cond := op(api.ExprAdd), op(api.ExprNot), op(api.ExprIf)
	for i, x := range []struct {
		n    []api.ExprNode
		want api.Errno
	}{
		{list(con(9, 0)), api.ErrWidth},
		{list(add, badWidth), api.ErrWidth},
		{list(add, badRange, badOp), api.ErrRange},
		{list(add, badOp, badRange), api.ErrKind},
		{list(add, badName, badWidth), api.ErrNotFound},
		{list(add, con(1, 1)), api.ErrShort},
		{list(add, con(1, 1), con(1, 2), badOp), api.ErrWidth},
		{list(add, con(1, 1), con(1, 1), badOp), api.ErrLong},
		{list(badOp, badRange), api.ErrKind},
		{list(badOp), api.ErrKind},
		{list(con(1, 1), badOp), api.ErrLong},
		{list(not), api.ErrShort},
		{list(nd(api.ExprShl, 32, 0)), api.ErrShort},
		{list(nd(api.ExprShl, 32, 0), badName), api.ErrNotFound},
		{list(nd(api.ExprShl, 32, 0), badOp), api.ErrKind},
		{list(nd(api.ExprSlice, -1, 0), con(1, 1)), api.ErrRange},
		{list(nd(api.ExprSlice, -1, 0), badWidth), api.ErrWidth},
		{list(nd(api.ExprSlice, 0, 0), badRange), api.ErrRange},
		{list(add, not, con(1, 2), nd(api.ExprShr, -1, 0), con(1, 3)), api.ErrRange},
		{list(add, add, con(1, 2), con(1, 3), badOp), api.ErrWidth},
		{list(cond, con(1, 2), con(1, 3), badOp), api.ErrKind},
		{list(cond, con(1, 2), con(1, 3)), api.ErrShort},
		{list(cond, con(1, 1), badRange, badOp), api.ErrRange},
		{list(cond, con(1, 2), con(1, 1), con(1, 1), con(1, 1)), api.ErrWidth},
		{list(cond, con(1, 1), con(1, 1), con(1, 1), con(1, 1)), api.ErrLong},
		{list(op(api.ExprConcat), con(1, 32), val(0)), api.ErrNotFound},
		{list(op(api.ExprConcat), con(1, 32), con(1, 1)), api.ErrWidth},
	} {
		if w, e := expr.Check(x.n, expr.Scope{}); w != 0 || e != x.want {
			t.Errorf("%d: Check(%v) = %d, %v, want %v", i, x.n, w, e, x.want)
		}
	}
}

// chain is ExprNot upon ExprNot, size nodes in all.
func chain(size int) []api.ExprNode {
	return append(slices.Repeat(list(op(api.ExprNot)), size-1), con(5, 8))
}

// sums is a sum of constants that leans to the right, or to the left; size is odd.
func sums(size int, left bool) []api.ExprNode {
	ops, consts := slices.Repeat(list(op(api.ExprAdd)), size/2), slices.Repeat(list(con(3, 7)), size/2)
	if left {
		return join(ops, consts, list(con(3, 7)))
	}
	var l []api.ExprNode
	for i := range ops {
		l = append(l, ops[i], consts[i])
	}
	return append(l, con(3, 7))
}

// P13.1: ErrLimit
func TestCheckLimit(t *testing.T) {
	for size := 1; size <= api.MaxExpr; size++ {
		expectCheck(t, chain(size), expr.Scope{}, 8, api.OK)
	}
	for _, left := range []bool{false, true} {
		expectCheck(t, sums(api.MaxExpr-1, left), expr.Scope{}, 7, api.OK)
		expectCheck(t, sums(api.MaxExpr+1, left), expr.Scope{}, 0, api.ErrLimit)
	}
	for _, n := range [][]api.ExprNode{chain(api.MaxExpr + 1), chain(1000), make([]api.ExprNode, api.MaxExpr+1), slices.Repeat(list(con(1, 1)), 25), slices.Repeat(list(op(api.ExprIf)), 100000)} {
		expectCheck(t, n, expr.Scope{}, 0, api.ErrLimit)
		if v := expr.Eval(n, expr.Scope{}, api.Env{}, nil); v != 0 {
			t.Errorf("Eval of %d nodes = %d", len(n), v)
		}
	}
	expectCheck(t, make([]api.ExprNode, api.MaxExpr), expr.Scope{}, 0, api.ErrKind)
	expectCheck(t, slices.Repeat(list(op(api.ExprIf)), api.MaxExpr), expr.Scope{}, 0, api.ErrShort)
}

func eval1(n []api.ExprNode) uint32 { return expr.Eval(n, expr.Scope{}, api.Env{}, nil) }

func expectValue(t *testing.T, n []api.ExprNode, got uint32, want uint64) {
	t.Helper()
	if uint64(got) != want {
		t.Fatalf("Eval(%v) = %#x, want %#x", n, got, want)
	}
}

// P13.2: ExprConst, ExprNot, ExprShl, ExprShr, ExprSlice
func TestEvalUnary(t *testing.T) {
	for w := 1; w <= 32; w++ {
		for _, v := range values {
			a := uint64(v) & mask(w)
			c := con(int(a), w)
			expectValue(t, list(c), eval1(list(c)), a)
			n := list(op(api.ExprNot), c)
			expectValue(t, n, eval1(n), mask(w)-a)
			for k := range 32 {
				n = list(nd(api.ExprShl, k, 0), c)
				expectValue(t, n, eval1(n), a<<k&mask(w))
				n = list(nd(api.ExprShr, k, 0), c)
				expectValue(t, n, eval1(n), a>>k)
				for size := 1; k+size <= w; size++ {
					n = list(nd(api.ExprSlice, k, size), c)
					expectValue(t, n, eval1(n), a>>k&mask(size))
				}
			}
		}
	}
}

func truth(b bool) uint64 {
	if b {
		return 1
	}
	return 0
}

// combine answers the value of a binary operator at operands of the widths wa and wb.
func combine(o int, a uint64, wa int, b uint64, wb int) uint64 {
	switch o {
	case api.ExprAdd:
		return (a + b) % (1 << wa)
	case api.ExprSub:
		return (a + 1<<wa - b) % (1 << wa)
	case api.ExprAnd:
		return a & b
	case api.ExprOr:
		return a | b
	case api.ExprXor:
		return a ^ b
	case api.ExprConcat:
		return a*(1<<wb) + b
	case api.ExprEqual:
		return truth(a == b)
	}
	return truth(a < b)
}

// P13.2: the operators from ExprAdd to ExprIf
func TestEvalBinary(t *testing.T) {
	for w := 1; w <= 32; w++ {
		for _, x := range values {
			for _, y := range values {
				a, b := uint64(x)&mask(w), uint64(y)&mask(w)
				for _, o := range binaryOps {
					wb := w
					if o == api.ExprConcat {
						wb = 32 - w
						b &= mask(wb)
						if wb == 0 {
							continue
						}
					}
					n := list(op(o), con(int(a), w), con(int(b), wb))
					expectValue(t, n, eval1(n), combine(o, a, w, b, wb))
				}
				n := list(op(api.ExprIf), con(1, 1), con(int(a), w), con(int(b), w))
				expectValue(t, n, eval1(n), a)
				n[1] = con(0, 1)
				expectValue(t, n, eval1(n), b)
			}
		}
	}
}

// P13.2: ExprField is modulo 2^width, and 0 if the header isn't valid or the environment lacks the field.
func TestEvalField(t *testing.T) {
	s := wide()
	for w := 1; w <= 32; w++ {
		for _, v := range values {
			e := env.New(s.Program)
			e.Valid[0], e.Valid[2] = true, true
			e.Fields[0][w-1], e.Meta[w-1] = v, ^v
			n, m := list(fld(0, w-1)), list(fld(-1, w-1))
			expectValue(t, n, expr.Eval(n, s, e, nil), uint64(v)&mask(w))
			expectValue(t, m, expr.Eval(m, s, e, nil), uint64(^v)&mask(w))
			e.Valid[0] = false
			expectValue(t, n, expr.Eval(n, s, e, nil), 0)
			expectValue(t, m, expr.Eval(m, s, e, nil), uint64(^v)&mask(w))
		}
	}
	full := api.Env{Valid: []bool{true}, Fields: [][]uint32{{1, 1}}, Meta: []uint32{1, 1}}
	for i, e := range []api.Env{{}, {Valid: full.Valid}, {Valid: full.Valid, Fields: [][]uint32{}}, {Valid: full.Valid, Fields: [][]uint32{nil}}, {Fields: full.Fields}, {Valid: full.Valid, Fields: [][]uint32{full.Fields[0][:1]}, Meta: full.Meta[:1]}, {Valid: full.Valid[:0], Fields: full.Fields}} {
		for _, n := range []api.ExprNode{fld(0, 1), fld(-1, 1)} {
			if v := expr.Eval(list(n), s, e, nil); v != 0 {
				t.Errorf("environment %d: Eval(%v) = %d", i, n, v)
			}
		}
	}
	for _, n := range []api.ExprNode{fld(0, 1), fld(-1, 1)} {
		if v := expr.Eval(list(n), s, full, nil); v != 1 {
			t.Errorf("Eval(%v) = %d", n, v)
		}
	}
}

// P13.2: ExprParam is modulo 2^width, and 0 if there are too few arguments.
func TestEvalParam(t *testing.T) {
	s := wide()
	for w := 1; w <= 32; w++ {
		args := make([]uint32, 40)
		n := list(nd(api.ExprParam, w-1, 7))
		for _, v := range values {
			args[w-1] = v
			expectValue(t, n, expr.Eval(n, s, api.Env{}, args), uint64(v)&mask(w))
			expectValue(t, n, expr.Eval(n, s, api.Env{}, args[:w]), uint64(v)&mask(w))
			expectValue(t, n, expr.Eval(n, s, api.Env{}, args[:w-1]), 0)
			expectValue(t, n, expr.Eval(n, s, api.Env{}, nil), 0)
		}
	}
}

// P13.2: ExprValid
func TestEvalValid(t *testing.T) {
	s := wide()
	valid := []bool{true, false, true, true}
	for size := range len(valid) {
		for h := range s.Program.Headers {
			n := list(val(h))
			expectValue(t, n, expr.Eval(n, s, api.Env{Valid: valid[:size]}, nil), truth(h < size && valid[h]))
		}
	}
}

// P13.2: Eval is 0 where Check rejects, also if the part that is at fault doesn't count for the value.
func TestEvalRejected(t *testing.T) {
	s := wide()
	e := env.New(s.Program)
	e.Valid[0] = true
	for _, n := range [][]api.ExprNode{
		nil,
		list(con(1, 8), con(1, 8)),
		list(op(api.ExprIf), con(1, 1), con(5, 8), par(-1)),
		list(op(api.ExprIf), con(1, 1), con(5, 8), con(5, 9)),
		list(op(api.ExprIf), con(1, 2), con(5, 8), con(5, 8)),
		list(op(api.ExprIf), con(1, 1), con(5, 8)),
		list(op(api.ExprOr), con(7, 8), fld(0, 99)),
		list(op(api.ExprConcat), con(7, 32), con(1, 1)),
		list(nd(api.ExprShl, 32, 0), con(7, 8)),
		list(nd(api.ExprShr, -1, 0), con(7, 8)),
		list(nd(api.ExprSlice, 1, 8), con(255, 8)),
		list(nd(api.ExprSlice, -1, 8), con(255, 8)),
		list(con(256, 8)), list(con(-1, 8)), list(con(1, 33)), list(val(3)), list(op(77)),
	} {
		if v := expr.Eval(n, s, e, []uint32{1, 2, 3}); v != 0 {
			t.Errorf("Eval(%v) = %d", n, v)
		}
	}
}

// P13.3
func TestEnd(t *testing.T) {
	c := con(1, 8)
	n := list(op(api.ExprIf), val(9), op(api.ExprAdd), fld(-7, -7), nd(api.ExprSlice, -1, -1), c, op(api.ExprNot), par(-3), c, op(api.ExprLess), c)
	for at, want := range []int{8, 2, 6, 4, 6, 6, 8, 8, 9, -1, 11} {
		if got := expr.End(n, at); got != want {
			t.Errorf("End at %d = %d, want %d", at, got, want)
		}
	}
	for _, at := range []int{math.MinInt, -1, len(n), len(n) + 1, math.MaxInt} {
		if got := expr.End(n, at); got != -1 {
			t.Errorf("End at %d = %d", at, got)
		}
	}
	if got := expr.End(nil, 0); got != -1 {
		t.Errorf("End of nothing = %d", got)
	}
	if got := expr.End(n[:10], 9); got != -1 {
		t.Errorf("End goes behind the length: %d", got)
	}
}

// P13.3: an invalid Op counts only within the subexpression.
func TestEndKind(t *testing.T) {
	c := con(1, 8)
	for _, o := range wrongOps {
		x := op(o)
		for i, n := range [][]api.ExprNode{{x}, {op(api.ExprNot), x}, {op(api.ExprAdd), x, c}, {op(api.ExprAdd), c, x}, {op(api.ExprIf), c, c, x}} {
			if got := expr.End(n, 0); got != -1 {
				t.Errorf("operator %d, list %d: End = %d", o, i, got)
			}
		}
		if got := expr.End(list(x, c, x), 1); got != 2 {
			t.Errorf("operator %d around: End = %d", o, got)
		}
		if got := expr.End(list(op(api.ExprNot), c, x), 0); got != 2 {
			t.Errorf("operator %d behind: End = %d", o, got)
		}
	}
}

// P13.3: a list may be of any length and depth.
func TestEndLong(t *testing.T) {
	const size = 2000001
	for i, n := range [][]api.ExprNode{chain(size), sums(size, false), sums(size, true)} {
		if got := expr.End(n, 0); got != size {
			t.Errorf("%d: End = %d", i, got)
		}
		if got := expr.End(n[:size-1], 0); got != -1 {
			t.Errorf("%d: End of a cut list = %d", i, got)
		}
	}
}

// P13.4
func TestFieldsAndHeaders(t *testing.T) {
	n := list(fld(3, 1), op(99), fld(-1, 2), val(5), fld(3, 1), fld(0, 9), val(-1), fld(-1, 0), fld(math.MaxInt, 0), val(5), fld(math.MinInt, 4), con(8, 8), par(6), val(math.MinInt), nd(api.ExprValid, 2, 4), nd(api.ExprValid, 2, 7), fld(0, math.MinInt), fld(0, -1), val(math.MaxInt), nd(api.ExprSlice, 7, 7))
	before := slices.Clone(n)
	fields := []api.FieldRef{{Header: math.MinInt, Field: 4}, {Header: -1, Field: 0}, {Header: -1, Field: 2}, {Header: 0, Field: math.MinInt}, {Header: 0, Field: -1}, {Header: 0, Field: 9}, {Header: 3, Field: 1}, {Header: math.MaxInt, Field: 0}}
	headers := []int{math.MinInt, -1, 2, 5, math.MaxInt}
	for range 2 {
		f, h := expr.Fields(n), expr.Headers(n)
		if !slices.Equal(f, fields) {
			t.Errorf("Fields = %v, want %v", f, fields)
		}
		if !slices.Equal(h, headers) {
			t.Errorf("Headers = %v, want %v", h, headers)
		}
		clear(f)
		clear(h)
	}
	if !slices.Equal(n, before) {
		t.Error("the list is changed")
	}
	if f, h := expr.Fields(n[:3]), expr.Headers(n[:3]); len(f) != 2 || len(h) != 0 {
		t.Errorf("of three nodes: %v, %v", f, h)
	}
	if f, h := expr.Fields(nil), expr.Headers(nil); len(f) != 0 || len(h) != 0 {
		t.Errorf("of nothing: %v, %v", f, h)
	}
}

// P13.4: any list, against sets that are sorted in the end
func TestFieldsAndHeadersRandom(t *testing.T) {
	r := random(3)
	for range 2000 {
		var n []api.ExprNode
		fields, headers := map[api.FieldRef]bool{}, map[int]bool{}
		for range r.below(60) {
			x := nd(r.below(20), r.below(5)-1, r.below(4)-1)
			n = append(n, x)
			switch x.Op {
			case api.ExprField:
				fields[api.FieldRef{Header: x.N, Field: x.W}] = true
			case api.ExprValid:
				headers[x.N] = true
			}
		}
		f, h := expr.Fields(n), expr.Headers(n)
		if len(f) != len(fields) || len(h) != len(headers) {
			t.Fatalf("%v: %v, %v", n, f, h)
		}
		for i, x := range f {
			if !fields[x] || i > 0 && !(f[i-1].Header < x.Header || f[i-1].Header == x.Header && f[i-1].Field < x.Field) {
				t.Fatalf("Fields(%v) = %v", n, f)
			}
		}
		for i, x := range h {
			if !headers[x] || i > 0 && h[i-1] >= x {
				t.Fatalf("Headers(%v) = %v", n, h)
			}
		}
	}
}

// tree is an expression of the tests' own: a node, its operands and its width.
type tree struct {
	node  api.ExprNode
	kids  []tree
	width int
}

func (x tree) nodes() []api.ExprNode {
	l := list(x.node)
	for _, kid := range x.kids {
		l = append(l, kid.nodes()...)
	}
	return l
}

func (x tree) all() []tree {
	l := []tree{x}
	for _, kid := range x.kids {
		l = append(l, kid.all()...)
	}
	return l
}

// value is by the words of P13.2, in the scope of wide.
func (x tree) value(e api.Env, args []uint32) uint64 {
	var v [3]uint64
	for i, kid := range x.kids {
		v[i] = kid.value(e, args)
	}
	switch x.node.Op {
	case api.ExprConst:
		return uint64(x.node.N)
	case api.ExprField:
		if x.node.N == api.Metadata {
			return uint64(e.Meta[x.node.W]) % (1 << x.width)
		}
		return truth(e.Valid[x.node.N]) * uint64(e.Fields[x.node.N][x.node.W]) % (1 << x.width)
	case api.ExprParam:
		if x.node.N >= len(args) {
			return 0
		}
		return uint64(args[x.node.N]) % (1 << x.width)
	case api.ExprValid:
		return truth(e.Valid[x.node.N])
	case api.ExprNot:
		return mask(x.width) - v[0]
	case api.ExprShl:
		return v[0] << x.node.N % (1 << x.width)
	case api.ExprShr:
		return v[0] >> x.node.N
	case api.ExprSlice:
		return v[0] >> x.node.N % (1 << x.width)
	case api.ExprIf:
		return v[2-v[0]]
	}
	return combine(x.node.Op, v[0], x.kids[0].width, v[1], x.kids[1].width)
}

func growLeaf(r *random, w int) tree {
	n := con(int(uint64(r.bits())&mask(w)), w)
	switch r.below(4) {
	case 0:
		n = fld(-r.below(2), w-1)
	case 1:
		n = nd(api.ExprParam, w-1, r.below(9))
	case 2:
		if w == 1 {
			n = nd(api.ExprValid, r.below(3), r.below(9))
		}
	}
	return tree{n, nil, w}
}

// grow answers an expression of width w with at most size nodes, in the scope of wide.
func grow(r *random, w, size int) tree {
	if size < 4 || r.below(8) == 0 {
		return growLeaf(r, w)
	}
	half := (size - 1) / 2
	switch kind := r.below(8); {
	case kind == 0:
		return tree{op(api.ExprNot), []tree{grow(r, w, size-1)}, w}
	case kind == 1:
		return tree{nd(api.ExprShl+r.below(2), r.below(32), r.below(9)), []tree{grow(r, w, size-1)}, w}
	case kind == 2:
		from := w + r.below(33-w)
		return tree{nd(api.ExprSlice, r.below(from-w+1), w), []tree{grow(r, from, size-1)}, w}
	case kind == 3 && w > 1:
		a := 1 + r.below(w-1)
		return tree{op(api.ExprConcat), []tree{grow(r, a, half), grow(r, w-a, half)}, w}
	case kind == 4 && w == 1:
		a := 1 + r.below(32)
		return tree{nd(api.ExprEqual+r.below(2), r.below(9), r.below(9)), []tree{grow(r, a, half), grow(r, a, half)}, w}
	case kind == 5:
		third := (size - 1) / 3
		return tree{op(api.ExprIf), []tree{grow(r, 1, third), grow(r, w, third), grow(r, w, third)}, w}
	}
	return tree{op(api.ExprAdd + r.below(5)), []tree{grow(r, w, half), grow(r, w, half)}, w}
}

// environment answers a random environment in the scope of wide. Its values need not fit.
func environment(r *random) api.Env {
	e := env.New(wide().Program)
	for h := range e.Valid {
		e.Valid[h] = r.below(3) > 0
	}
	for i := range e.Meta {
		e.Meta[i] = r.bits()
	}
	for i := range e.Fields[0] {
		e.Fields[0][i] = r.bits()
	}
	return e
}

func arguments(r *random) []uint32 {
	l := make([]uint32, r.below(40))
	for i := range l {
		l[i] = r.bits()
	}
	return l
}

// P13.1 to P13.3, P13.5: expressions of all shapes against the model, and every cut of them
func TestRandomExpressions(t *testing.T) {
	s, r := wide(), random(1)
	used := map[int]bool{}
	for range 20000 {
		x := grow(&r, 1+r.below(32), 1+r.below(api.MaxExpr))
		n, e, args := x.nodes(), environment(&r), arguments(&r)
		for _, node := range n {
			used[node.Op] = true
		}
		before := slices.Clone(n)
		expectCheck(t, n, s, x.width, api.OK)
		v := expr.Eval(n, s, e, args)
		expectValue(t, n, v, x.value(e, args))
		if uint64(v) > mask(x.width) {
			t.Fatalf("Eval(%v) = %#x doesn't fit %d bits", n, v, x.width)
		}
		if got := expr.End(n, 0); got != len(n) {
			t.Fatalf("End(%v) = %d", n, got)
		}
		cut := n[:r.below(len(n))]
		if got := expr.End(cut, 0); got != -1 {
			t.Fatalf("End(%v) = %d", cut, got)
		}
		if w, fault := expr.Check(cut, s); w != 0 || fault != api.ErrShort && fault != api.ErrWidth {
			t.Fatalf("Check(%v) = %d, %v", cut, w, fault)
		}
		if !slices.Equal(n, before) {
			t.Fatal("the expression is changed")
		}
	}
	if len(used) != api.ExprIf {
		t.Errorf("only the operators %v are tried", used)
	}
}

// operandCount is -1 for an operator that doesn't exist.
func operandCount(o int) int {
	for count, ops := range [][]int{leafOps, unaryOps, binaryOps, {api.ExprIf}} {
		if slices.Contains(ops, o) {
			return count
		}
	}
	return -1
}

func isWidth(w int) bool { return w >= 1 && w <= 32 }

// modelLeaf answers the width of a node without operands by the words of P13.1.
func modelLeaf(x api.ExprNode, s expr.Scope) (int, api.Errno) {
	fields, at := s.Params, x.N
	switch x.Op {
	case api.ExprConst:
		if isWidth(x.W) && (x.N < 0 || bits.Len(uint(x.N)) > x.W) {
			return 0, api.ErrRange
		}
		fields, at = []api.Field{{Width: x.W}}, 0
	case api.ExprValid:
		fields = slices.Repeat([]api.Field{{Width: 1}}, len(s.Program.Headers))
	case api.ExprField:
		fields, at = nil, x.W
		if x.N == -1 {
			fields = s.Program.Metadata
		} else if x.N >= 0 && x.N < len(s.Program.Headers) {
			fields = s.Program.Headers[x.N].Fields
		}
	}
	switch {
	case at < 0 || at >= len(fields):
		return 0, api.ErrNotFound
	case !isWidth(fields[at].Width):
		return 0, api.ErrWidth
	}
	return fields[at].Width, api.OK
}

// modelWidth answers the width of a node whose operands have the widths w by the words of P13.1.
func modelWidth(x api.ExprNode, w [3]int) (int, api.Errno) {
	width, fits := w[0], true
	switch x.Op {
	case api.ExprNot:
	case api.ExprShl, api.ExprShr:
		if x.N < 0 || x.N > 31 {
			return 0, api.ErrRange
		}
	case api.ExprSlice:
		if x.N < 0 {
			return 0, api.ErrRange
		}
		width, fits = x.W, isWidth(x.W) && x.N <= w[0]-x.W
	case api.ExprConcat:
		width, fits = w[0]+w[1], w[0]+w[1] <= 32
	case api.ExprEqual, api.ExprLess:
		width, fits = 1, w[0] == w[1]
	case api.ExprIf:
		width, fits = w[1], w[0] == 1 && w[1] == w[2]
	default:
		fits = w[0] == w[1]
	}
	if !fits {
		return 0, api.ErrWidth
	}
	return width, api.OK
}

// modelCheck answers the width of the subexpression at the beginning of n, and the nodes behind it.
func modelCheck(n []api.ExprNode, s expr.Scope) (int, []api.ExprNode, api.Errno) {
	if len(n) == 0 {
		return 0, nil, api.ErrShort
	}
	x, rest := n[0], n[1:]
	count := operandCount(x.Op)
	if count < 0 {
		return 0, nil, api.ErrKind
	}
	if count == 0 {
		w, e := modelLeaf(x, s)
		return w, rest, e
	}
	var w [3]int
	for i := range count {
		var e api.Errno
		if w[i], rest, e = modelCheck(rest, s); e != api.OK {
			return 0, nil, e
		}
	}
	width, e := modelWidth(x, w)
	return width, rest, e
}

// garbage answers a node of any kind with numbers that are often, but not always, fit for it.
func garbage(r *random) api.ExprNode {
	small := []int{-1, 0, 1, 1, 2, 4, 8, 8, 32, 33, math.MinInt, math.MaxInt}
	ops := []int{0, 1, 1, 1, 1, 2, 2, 3, 4, 4, 5, 6, 7, 8, 9, 10, 11, 12, 13, 14, 15, 16, 17}
	if r.below(30) > 0 {
		ops, small = ops[1:], small[1:9]
	}
	return nd(ops[r.below(len(ops))], small[r.below(len(small))], small[r.below(len(small))])
}

// P13.1, P13.2: lists of any nodes against the model, and expressions with one node replaced
func TestRandomLists(t *testing.T) {
	r, s := random(2), wide()
	narrow := expr.Scope{Program: api.Program{Headers: []api.Header{{Fields: []api.Field{{Width: 8}, {Width: 8}, {Width: 1}, {Width: 0}}}, {Fields: []api.Field{{Width: 8}, {Width: 1}, {Width: 33}}}}, Metadata: []api.Field{{Width: 8}, {Width: 8}, {Width: 1}}}, Params: []api.Field{{Width: 8}, {Width: 1}, {Width: 0}}}
	seen := map[api.Errno]int{}
	for i := range 100000 {
		var n []api.ExprNode
		in := narrow
		if i%2 == 0 {
			in = s
			n = grow(&r, 1+r.below(32), 1+r.below(api.MaxExpr)).nodes()
			n[r.below(len(n))] = garbage(&r)
		} else {
			for range r.below(12) {
				n = append(n, garbage(&r))
			}
		}
		want, rest, e := modelCheck(n, in)
		if e == api.OK && len(rest) > 0 {
			want, e = 0, api.ErrLong
		}
		seen[e]++
		expectCheck(t, n, in, want, e)
		if v := expr.Eval(n, in, environment(&r), arguments(&r)); e != api.OK && v != 0 {
			t.Fatalf("Eval(%v) = %d, though Check says %v", n, v, e)
		}
	}
	for _, e := range []api.Errno{api.OK, api.ErrShort, api.ErrKind, api.ErrWidth, api.ErrRange, api.ErrNotFound, api.ErrLong} {
		if seen[e] < 100 {
			t.Errorf("only %d lists with %v", seen[e], e)
		}
	}
}

// P13.6: the value hangs on no more than the fields, the validity of the headers and the arguments.
func TestDependencies(t *testing.T) {
	s, r := wide(), random(4)
	for range 5000 {
		n := grow(&r, 1+r.below(32), 1+r.below(api.MaxExpr)).nodes()
		a, b, args := environment(&r), environment(&r), arguments(&r)
		for _, h := range expr.Headers(n) {
			b.Valid[h] = a.Valid[h]
		}
		for _, f := range expr.Fields(n) {
			if f.Header == api.Metadata {
				b.Meta[f.Field] = a.Meta[f.Field]
				continue
			}
			b.Valid[f.Header] = a.Valid[f.Header]
			b.Fields[f.Header][f.Field] = a.Fields[f.Header][f.Field]
		}
		b.Payload = []byte{1, 2, 3}
		if v, w := expr.Eval(n, s, a, args), expr.Eval(n, s, b, args); v != w {
			t.Fatalf("Eval(%v) = %d and %d", n, v, w)
		}
	}
}

// P13.7: subexpressions are valid on their own and may be replaced.
func TestSubexpressions(t *testing.T) {
	s, r := wide(), random(5)
	for range 2000 {
		x := grow(&r, 1+r.below(32), 1+r.below(api.MaxExpr))
		n := x.nodes()
		for at, part := range x.all() { // in prefix order, so that part number at begins at node number at
			end := expr.End(n, at)
			if end != at+len(part.nodes()) {
				t.Fatalf("End(%v, %d) = %d", n, at, end)
			}
			expectCheck(t, n[at:end], s, part.width, api.OK)
			other := grow(&r, part.width, 1+r.below(api.MaxExpr)).nodes()
			whole := join(n[:at], other, n[end:])
			if len(whole) <= api.MaxExpr {
				expectCheck(t, whole, s, x.width, api.OK)
			} else {
				expectCheck(t, whole, s, 0, api.ErrLimit)
			}
		}
	}
}

// P13.8
func TestAlgebra(t *testing.T) {
	s, r := wide(), random(6)
	for range 5000 {
		wa := 1 + r.below(31)
		wb := 1 + r.below(32-wa)
		e, args := environment(&r), arguments(&r)
		a, b, c := grow(&r, wa, 7).nodes(), grow(&r, wb, 7).nodes(), grow(&r, wa, 7).nodes()
		same := func(x, y []api.ExprNode) {
			t.Helper()
			if v, w := expr.Eval(x, s, e, args), expr.Eval(y, s, e, args); v != w {
				t.Fatalf("Eval(%v) = %d, but Eval(%v) = %d", x, v, y, w)
			}
		}
		same(join(list(op(api.ExprNot), op(api.ExprNot)), a), a)
		same(join(list(op(api.ExprSub), op(api.ExprAdd)), a, c, c), a)
		both := join(list(op(api.ExprConcat)), a, b)
		same(join(list(nd(api.ExprSlice, wb, wa)), both), a)
		same(join(list(nd(api.ExprSlice, 0, wb)), both), b)
	}
}

// General rules 4 and 5: nothing that is handed in is changed or kept.
func TestArgumentsStay(t *testing.T) {
	s, r := wide(), random(7)
	for range 200 {
		n := grow(&r, 1+r.below(32), api.MaxExpr).nodes()
		e, args := environment(&r), arguments(&r)
		n0, e0, args0 := slices.Clone(n), env.Clone(e), slices.Clone(args)
		expr.Check(n, s)
		v := expr.Eval(n, s, e, args)
		expr.End(n, 0)
		expr.Fields(n)
		expr.Headers(n)
		if !slices.Equal(n, n0) || !env.Equal(e, e0) || !slices.Equal(args, args0) {
			t.Fatal("an argument is changed")
		}
		if again := expr.Eval(n0, wide(), e0, args0); again != v {
			t.Fatalf("Eval = %d, then %d", v, again)
		}
	}
}

// Examples of the chapter
func TestExamples(t *testing.T) {
	s := expr.Scope{Program: api.Program{Headers: []api.Header{{Name: "h", Fields: []api.Field{{Name: "a", Width: 8}}}}}}
	n := list(op(api.ExprIf), val(0), fld(0, 0), con(7, 8))
	expectCheck(t, n, s, 8, api.OK)
	e := api.Env{Valid: []bool{true}, Fields: [][]uint32{{33}}}
	if v := expr.Eval(n, s, e, nil); v != 33 {
		t.Errorf("with the header: %d", v)
	}
	e.Valid[0] = false
	if v := expr.Eval(n, s, e, nil); v != 7 {
		t.Errorf("without the header: %d", v)
	}
	expectCheck(t, list(op(api.ExprAdd), con(250, 8), con(10, 8)), s, 8, api.OK)
	if v := eval1(list(op(api.ExprAdd), con(250, 8), con(10, 8))); v != 4 {
		t.Errorf("250 + 10 = %d", v)
	}
	expectCheck(t, list(op(api.ExprConcat), con(5, 4), con(9, 8)), s, 12, api.OK)
	if v := eval1(list(op(api.ExprConcat), con(5, 4), con(9, 8))); v != 0x509 {
		t.Errorf("5 ++ 9 = %#x", v)
	}
	expectCheck(t, list(op(api.ExprAdd), con(1, 8), con(1, 4)), s, 0, api.ErrWidth)
	expectCheck(t, list(op(api.ExprAdd), con(1, 8)), s, 0, api.ErrShort)
	two := list(con(1, 8), con(1, 8))
	expectCheck(t, two, s, 0, api.ErrLong)
	if end := expr.End(two, 0); end != 1 {
		t.Errorf("End = %d", end)
	}
}
