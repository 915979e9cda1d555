package tests

import (
	"math"
	"slices"
	"testing"

	"loop.example/seedlip/impl"
)

// grower is a net of which the document's words ask for one and or xor after the other; lost, if one of them told 0.
type grower struct {
	net  impl.Net
	lost bool
}

// keep has the net behind, and the mark.
func (g *grower) keep(n impl.Net, m int) int {
	g.net, g.lost = n, g.lost || m == 0
	return m
}

func (g *grower) and(a int, b int) int { return g.keep(andWanted(g.net, a, b)) }

func (g *grower) xor(a int, b int) int { return g.keep(xorWanted(g.net, a, b)) }

func (g *grower) or(a int, b int) int { return -g.and(-a, -b) }

func (g *grower) one(c int, a int, b int) int {
	p := g.and(c, a)
	q := g.and(-c, b)
	return g.or(p, q)
}

func (g *grower) adding(a []int, b []int, c int) []int {
	sum := []int{}
	for i := range a {
		x := g.xor(a[i], b[i])
		sum = append(sum, g.xor(x, c))
		p := g.and(a[i], b[i])
		q := g.and(x, c)
		c = g.or(p, q)
	}
	return sum
}

func (g *grower) less(a []int, b []int) int {
	r := -1
	for i := range a {
		x := g.xor(a[i], b[i])
		r = g.one(x, b[i], r)
	}
	return r
}

// many is a list of so many times one number.
func many(size int, m int) []int {
	list := []int{}
	for range size {
		list = append(list, m)
	}
	return list
}

func (g *grower) times(a []int, b []int) []int {
	s := many(len(a), -1)
	for i := range b {
		row := many(i, -1)
		for place := i; place < len(a); place++ {
			row = append(row, g.and(a[place-i], b[i]))
		}
		s = g.adding(s, row, -1)
	}
	return s
}

func (g *grower) divided(a []int, b []int) ([]int, []int) {
	often, r := many(len(a), 0), many(len(a), -1)
	for i := range a {
		place := len(a) - 1 - i
		t := slices.Concat([]int{a[place]}, r)
		l := g.less(t, slices.Concat(b, []int{-1}))
		often[place] = -l
		u := g.adding(t, turnedAll(slices.Concat(b, []int{-1})), 1)
		for k := range a {
			r[k] = g.one(l, t[k], u[k])
		}
	}
	return often, r
}

func (g *grower) shifted(op int, a []int, b []int) []int {
	s, far := a, 1
	for i := range b {
		next := []int{}
		for k := range s {
			from, other := k+far, -1
			if op == impl.OpShl {
				from = k - far
			}
			if op == impl.OpSar {
				other = a[len(a)-1]
			}
			if from >= 0 && from < len(s) {
				other = s[from]
			}
			next = append(next, g.one(b[i], other, s[k]))
		}
		s, far = next, far*2
	}
	return s
}

func (g *grower) same(a []int, b []int) int {
	r := 1
	for i := range a {
		x := g.xor(a[i], b[i])
		r = g.and(r, -x)
	}
	return r
}

func (g *grower) under(a []int, b []int) int {
	a, b = slices.Clone(a), slices.Clone(b)
	k := len(a) - 1
	a[k], b[k] = b[k], a[k]
	return g.less(a, b)
}

// bitwise is what is told of both bits, from the lowest on.
func (g *grower) bitwise(rule func(a int, b int) int, a []int, b []int) []int {
	list := []int{}
	for i := range a {
		list = append(list, rule(a[i], b[i]))
	}
	return list
}

// bitsCall is a call of BitsUn, BitsBin or BitsCmp, by what its op is, or of BitsIf, with TermIf as its op.
type bitsCall struct {
	op   int
	c    int
	a, b []int
}

// unCall says whether it is one of BitsUn, and cmpCall whether it is one of BitsCmp.
func (call bitsCall) unCall() bool  { return call.op == impl.OpNot || call.op == impl.OpNeg }
func (call bitsCall) cmpCall() bool { return call.op >= impl.OpSame && call.op <= impl.OpUnder }

// tell calls. The mark of BitsCmp is a list of one, and 0 a list of none.
func (call bitsCall) tell(n impl.Net) (impl.Net, []int) {
	switch {
	case call.unCall():
		return impl.BitsUn(n, call.op, call.a)
	case call.op == impl.TermIf:
		return impl.BitsIf(n, call.c, call.a, call.b)
	case call.cmpCall():
		net, m := impl.BitsCmp(n, call.op, call.a, call.b)
		if m == 0 {
			return net, nil
		}
		return net, []int{m}
	}
	return impl.BitsBin(n, call.op, call.a, call.b)
}

// grown is the marks that the document's table asks for, of a call that is right.
func (call bitsCall) grown(g *grower) []int {
	a, b := call.a, call.b
	switch call.op {
	case impl.OpNot:
		return turnedAll(a)
	case impl.OpNeg:
		return g.adding(many(len(a), -1), turnedAll(a), 1)
	case impl.OpAnd:
		return g.bitwise(g.and, a, b)
	case impl.OpOr:
		return g.bitwise(g.or, a, b)
	case impl.OpXor:
		return g.bitwise(g.xor, a, b)
	case impl.OpAdd:
		return g.adding(a, b, -1)
	case impl.OpSub:
		return g.adding(a, turnedAll(b), 1)
	case impl.OpMul:
		return g.times(a, b)
	case impl.OpDiv:
		often, _ := g.divided(a, b)
		return often
	case impl.OpRem:
		_, left := g.divided(a, b)
		return left
	case impl.OpShl, impl.OpShr, impl.OpSar:
		return g.shifted(call.op, a, b)
	case impl.OpCat:
		return slices.Concat(b, a)
	case impl.OpSame:
		return []int{g.same(a, b)}
	case impl.OpLess:
		return []int{g.less(a, b)}
	case impl.OpUnder:
		return []int{g.under(a, b)}
	case impl.TermIf:
		return g.bitwise(func(x int, y int) int { return g.one(call.c, x, y) }, a, b)
	}
	panic("no op that the document knows")
}

// rowWanted says whether marks are right.
func rowWanted(n impl.Net, row []int) bool {
	return len(row) >= 1 && len(row) <= 4 && !slices.ContainsFunc(row, func(m int) bool { return !hasMark(n, m) })
}

// can says whether a call of an op that is known is right.
func (call bitsCall) can(n impl.Net) bool {
	if !netOkWanted(n) || !rowWanted(n, call.a) {
		return false
	}
	if call.unCall() {
		return true
	}
	if !rowWanted(n, call.b) || call.op == impl.TermIf && !hasMark(n, call.c) {
		return false
	}
	if call.op == impl.OpCat {
		return len(call.a)+len(call.b) <= 4
	}
	return len(call.a) == len(call.b)
}

// wanted is the net behind and the marks, as the document's words ask for them.
func (call bitsCall) wanted(n impl.Net) (impl.Net, []int) {
	if !call.can(n) {
		return impl.Net{}, nil
	}
	g := grower{net: copyNet(n)}
	marks := call.grown(&g)
	if g.lost {
		return impl.Net{}, nil
	}
	return g.net, marks
}

// gates is how many gates it needs with a net of so many marks that come in, and no gates.
func (call bitsCall) gates(ins int) int {
	n, _ := call.wanted(netOf(ins))
	return len(n.Gates)
}

// told is what chapter 1 tells of two numbers; of BitsIf, with c, one of the two.
func (call bitsCall) told(c bool, a impl.Vec, b impl.Vec) (impl.Vec, bool) {
	switch {
	case call.unCall():
		return impl.VecUn(call.op, a)
	case call.cmpCall():
		is, ok := impl.VecCmp(call.op, a, b)
		return yes(is), ok
	case call.op != impl.TermIf:
		return impl.VecBin(call.op, a, b)
	case c:
		return a, true
	}
	return b, true
}

// saidBy is the number that marks say, each of them looked up by itself.
func saidBy(vals []bool, row []int) impl.Vec {
	a := impl.Vec{Wide: len(row)}
	for i, m := range row {
		if vals[bare(m)-1] == (m > 0) {
			a.N += power(i)
		}
	}
	return a
}

// bitsTell asks for the net behind, gate by gate, and the marks; it is what was told.
func bitsTell(t *testing.T, n impl.Net, call bitsCall) (impl.Net, []int) {
	t.Helper()
	net, marks := call.tell(n)
	want, wantMarks := call.wanted(n)
	if !sameNet(net, want) || !slices.Equal(marks, wantMarks) {
		t.Fatalf("%v of %d marks and %s: %s, %v, want %s, %v", call, n.Ins, brief(n.Gates), brief(net.Gates), marks, brief(want.Gates), wantMarks)
	}
	return net, marks
}

// noBits asks that nothing is told.
func noBits(t *testing.T, n impl.Net, call bitsCall, why string) {
	t.Helper()
	if net, marks := call.tell(n); !sameNet(net, impl.Net{}) || len(marks) != 0 {
		t.Errorf("%s: %v of %d marks and %s: %s, %v", why, call, n.Ins, brief(n.Gates), brief(net), marks)
	}
}

// bitsAre asks all of a call that is right: what the net is, that it has these gates and needs none more, and, whatever comes in, what its marks say.
func bitsAre(t *testing.T, n impl.Net, call bitsCall) {
	t.Helper()
	net, marks := bitsTell(t, n, call)
	if len(marks) == 0 || !impl.NetOk(net) || !slices.Equal(net.Gates[:len(n.Gates)], n.Gates) {
		t.Fatalf("%v of %s: %s, %v", call, brief(n), brief(net), marks)
	}
	if again, same := call.tell(net); !sameNet(again, net) || !slices.Equal(same, marks) {
		t.Fatalf("%v once more of %s: %s, %v", call, brief(net), brief(again), same)
	}
	for _, ins := range allVals(n.Ins) {
		bitsSay(t, net, call, marks, ins)
	}
}

// bitsSay asks that marks say what is done to the numbers that those of a call say.
func bitsSay(t *testing.T, net impl.Net, call bitsCall, marks []int, ins []bool) {
	t.Helper()
	vals := netValsWanted(net, ins)
	a, b := saidBy(vals, call.a), saidBy(vals, call.b)
	c := call.c != 0 && vals[bare(call.c)-1] == (call.c > 0)
	want, known := call.told(c, a, b)
	told := impl.NetVals(net, ins)
	if !known || impl.BitsVal(told, call.a) != a.N || impl.BitsVal(told, call.b) != b.N || impl.BitsVal(told, marks) != want.N {
		t.Fatalf("%v of %v and %v: %d, want %v, at %v", call, a, b, impl.BitsVal(told, marks), want, ins)
	}
	if !call.cmpCall() && len(marks) != want.Wide {
		t.Fatalf("%v: %d marks, want %d", call, len(marks), want.Wide)
	}
}

// bitsOps is all ops that two numbers of as many bits may have; what needs one alone has nothing of the second.
func bitsOps() []int {
	ops := []int{}
	for op := impl.OpNot; op <= impl.OpUnder; op++ {
		if op != impl.OpCat {
			ops = append(ops, op)
		}
	}
	return ops
}

// eachOp calls with each op, of two rows of as many marks, and with BitsIf and each of some c.
func eachOp(a []int, b []int, cs []int, do func(bitsCall)) {
	for _, op := range bitsOps() {
		do(bitsCall{op: op, a: a, b: b})
	}
	for _, c := range cs {
		do(bitsCall{op: impl.TermIf, c: c, a: a, b: b})
	}
}

// marksFrom is so many marks, from one on.
func marksFrom(first int, wide int) []int {
	list := []int{}
	for i := range wide {
		list = append(list, first+i)
	}
	return list
}

// reversed is a list from its end on.
func reversed(list []int) []int {
	list = slices.Clone(list)
	slices.Reverse(list)
	return list
}

// bitsRow is a call with a net of so many marks that come in, and the gates and marks that it tells.
type bitsRow struct {
	ins   int
	call  bitsCall
	gates []impl.Gate
	marks []int
}

// handMade is nets that were reckoned by hand from the document's words.
func handMade() []bitsRow {
	x, y := []int{2}, []int{3}
	xx, yy := []int{2, 3}, []int{4, 5}
	division := []impl.Gate{xorGate(2, 3), andGate(3, 4), andGate(2, -3), andGate(4, -6), andGate(2, 5), andGate(4, -5), andGate(-8, -9)}
	return []bitsRow{
		{2, bitsCall{op: impl.OpNot, a: x}, nil, []int{-2}},
		{2, bitsCall{op: impl.OpNot, a: []int{2, -3, 1, -1}}, nil, []int{-2, 3, -1, 1}},
		{2, bitsCall{op: impl.OpNeg, a: x}, nil, []int{2}},
		{2, bitsCall{op: impl.OpNeg, a: xx}, []impl.Gate{xorGate(2, 3), andGate(-2, -3)}, []int{2, 4}},
		{2, bitsCall{op: impl.OpAnd, a: x, b: y}, []impl.Gate{andGate(2, 3)}, []int{4}},
		{2, bitsCall{op: impl.OpOr, a: x, b: y}, []impl.Gate{andGate(-2, -3)}, []int{-4}},
		{2, bitsCall{op: impl.OpXor, a: x, b: y}, []impl.Gate{xorGate(2, 3)}, []int{4}},
		{4, bitsCall{op: impl.OpAnd, a: xx, b: yy}, []impl.Gate{andGate(2, 4), andGate(3, 5)}, []int{6, 7}},
		{4, bitsCall{op: impl.OpOr, a: xx, b: yy}, []impl.Gate{andGate(-2, -4), andGate(-3, -5)}, []int{-6, -7}},
		{4, bitsCall{op: impl.OpXor, a: []int{2, -3}, b: yy}, []impl.Gate{xorGate(2, 4), xorGate(3, 5)}, []int{6, -7}},
		{2, bitsCall{op: impl.OpAdd, a: x, b: y}, []impl.Gate{xorGate(2, 3), andGate(2, 3)}, []int{4}},
		{4, bitsCall{op: impl.OpAdd, a: xx, b: yy}, []impl.Gate{xorGate(2, 4), andGate(2, 4), xorGate(3, 5), xorGate(7, 8), andGate(3, 5), andGate(7, 8), andGate(-10, -11)}, []int{6, 9}},
		{2, bitsCall{op: impl.OpSub, a: x, b: y}, []impl.Gate{xorGate(2, 3), andGate(2, -3), andGate(4, -5)}, []int{4}},
		{2, bitsCall{op: impl.OpMul, a: x, b: y}, []impl.Gate{andGate(2, 3)}, []int{4}},
		{4, bitsCall{op: impl.OpMul, a: xx, b: yy}, []impl.Gate{andGate(2, 4), andGate(3, 4), andGate(2, 5), xorGate(7, 8), andGate(7, 8)}, []int{6, 9}},
		{2, bitsCall{op: impl.OpDiv, a: x, b: y}, division, []int{-5}},
		{2, bitsCall{op: impl.OpRem, a: x, b: y}, division, []int{-10}},
		{2, bitsCall{op: impl.OpShl, a: x, b: y}, []impl.Gate{andGate(2, -3)}, []int{4}},
		{2, bitsCall{op: impl.OpShr, a: x, b: y}, []impl.Gate{andGate(2, -3)}, []int{4}},
		{2, bitsCall{op: impl.OpSar, a: x, b: y}, []impl.Gate{andGate(2, 3), andGate(2, -3), andGate(-4, -5)}, []int{-6}},
		{4, bitsCall{op: impl.OpShl, a: xx, b: yy}, []impl.Gate{andGate(2, -4), andGate(2, 4), andGate(3, -4), andGate(-7, -8), andGate(-5, 6), andGate(-5, -9)}, []int{10, 11}},
		{4, bitsCall{op: impl.OpShr, a: xx, b: yy}, []impl.Gate{andGate(3, 4), andGate(2, -4), andGate(-6, -7), andGate(3, -4), andGate(-5, -8), andGate(-5, 9)}, []int{10, 11}},
		{4, bitsCall{op: impl.OpSar, a: xx, b: yy}, []impl.Gate{andGate(3, 4), andGate(2, -4), andGate(-6, -7), andGate(3, -4), andGate(-6, -9), andGate(3, 5), andGate(-5, -8), andGate(-11, -12), andGate(-5, -10), andGate(-11, -14)}, []int{-13, -15}},
		{2, bitsCall{op: impl.OpCat, a: x, b: y}, nil, []int{3, 2}},
		{4, bitsCall{op: impl.OpCat, a: []int{2, -1}, b: []int{-5, 4}}, nil, []int{-5, 4, 2, -1}},
		{2, bitsCall{op: impl.OpSame, a: x, b: y}, []impl.Gate{xorGate(2, 3)}, []int{-4}},
		{4, bitsCall{op: impl.OpSame, a: xx, b: yy}, []impl.Gate{xorGate(2, 4), xorGate(3, 5), andGate(-6, -7)}, []int{8}},
		{2, bitsCall{op: impl.OpLess, a: x, b: y}, []impl.Gate{xorGate(2, 3), andGate(3, 4)}, []int{5}},
		{4, bitsCall{op: impl.OpLess, a: xx, b: yy}, []impl.Gate{xorGate(2, 4), andGate(4, 6), xorGate(3, 5), andGate(5, 8), andGate(7, -8), andGate(-9, -10)}, []int{-11}},
		{2, bitsCall{op: impl.OpUnder, a: x, b: y}, []impl.Gate{xorGate(2, 3), andGate(2, 4)}, []int{5}},
		{4, bitsCall{op: impl.OpUnder, a: xx, b: yy}, []impl.Gate{xorGate(2, 4), andGate(4, 6), xorGate(3, 5), andGate(3, 8), andGate(7, -8), andGate(-9, -10)}, []int{-11}},
		{3, bitsCall{op: impl.TermIf, c: 2, a: []int{3}, b: []int{4}}, []impl.Gate{andGate(2, 3), andGate(-2, 4), andGate(-5, -6)}, []int{-7}},
		{3, bitsCall{op: impl.TermIf, c: -2, a: []int{3, 4}, b: []int{4, 3}}, []impl.Gate{andGate(-2, 3), andGate(2, 4), andGate(-5, -6), andGate(-2, 4), andGate(2, 3), andGate(-8, -9)}, []int{-7, -10}},
	}
}

func TestBitsWritten(t *testing.T) {
	for _, row := range handMade() {
		n := netOf(row.ins)
		net, marks := row.call.tell(n)
		if !sameNet(net, netOf(row.ins, row.gates...)) || !slices.Equal(marks, row.marks) {
			t.Errorf("%v: %v, %v, want %v, %v", row.call, net.Gates, marks, row.gates, row.marks)
		}
		bitsAre(t, n, row.call)
	}
}

// TestBitsAll has each op of 1 to 4 bits that all come in by themselves, in the one order and in the other, and turned.
func TestBitsAll(t *testing.T) {
	for wide := 1; wide <= 4; wide++ {
		a, b := marksFrom(2, wide), marksFrom(2+wide, wide)
		n := netOf(2 * wide)
		for _, rows := range [][2][]int{{a, b}, {reversed(a), reversed(b)}, {b, a}, {turnedAll(a), b}, {a, turnedAll(b)}, {turnedAll(reversed(a)), turnedAll(reversed(b))}} {
			eachOp(rows[0], rows[1], []int{2, -2, 1 + 2*wide, 1, -1}, func(call bitsCall) { bitsAre(t, n, call) })
		}
	}
}

// TestBitsOfOne has a number with itself, with itself turned, and with its bits in another order.
func TestBitsOfOne(t *testing.T) {
	for wide := 1; wide <= 4; wide++ {
		a, n := marksFrom(2, wide), netOf(wide+1)
		for _, b := range [][]int{a, turnedAll(a), reversed(a), turnedAll(reversed(a)), append(a[1:wide:wide], a[0]), many(wide, 2), many(wide, -2)} {
			eachOp(a, b, []int{2, -2, wide + 2, -wide - 2, 1, -1}, func(call bitsCall) { bitsAre(t, n, call) })
			eachOp(b, a, []int{2, -2, wide + 2, -wide - 2, 1, -1}, func(call bitsCall) { bitsAre(t, n, call) })
		}
	}
}

// TestBitsSmall has all rows of small nets' marks: fixed ones, the same twice, and one and itself turned among them.
func TestBitsSmall(t *testing.T) {
	for _, c := range []struct {
		n    impl.Net
		wide int
	}{
		{impl.Net{}, 1}, {impl.Net{}, 2}, {impl.Net{}, 3}, {netOf(1), 1}, {netOf(1), 2}, {netOf(1), 3}, {netOf(2), 1}, {netOf(2), 2}, {netOf(3), 1},
		{netOf(2, andGate(-2, 3)), 1}, {netOf(2, xorGate(2, 3), andGate(3, -4)), 1}, {netOf(2, andGate(2, 3), xorGate(2, 3)), 1},
	} {
		marks := markNumbers(c.n)
		eachClause(marks, 2*c.wide, func(row []int) {
			if len(row) == 2*c.wide {
				eachOp(row[:c.wide], row[c.wide:], []int{row[0], -row[0], marks[len(marks)-1], 1, -1}, func(call bitsCall) { bitsAre(t, c.n, call) })
			}
		})
	}
}

// fixedRow is the marks of a number that is the same whatever comes in.
func fixedRow(a impl.Vec) []int {
	list := []int{}
	for _, d := range digits(a) {
		list = append(list, 2*d-1)
	}
	return list
}

// TestBitsFixed has all numbers as fixed marks: no gate is needed, and the marks are the fixed ones of what chapter 1 tells.
func TestBitsFixed(t *testing.T) {
	full := lineNet(2, 600)
	for _, a := range allVecs() {
		for _, b := range allVecs() {
			if a.Wide != b.Wide {
				continue
			}
			eachOp(fixedRow(a), fixedRow(b), []int{1, -1}, func(call bitsCall) {
				want, _ := call.told(call.c == 1, a, b)
				if call.cmpCall() {
					want.Wide = 1
				}
				for _, n := range []impl.Net{{}, netOf(8), full} {
					if net, marks := call.tell(n); !sameNet(net, n) || !slices.Equal(marks, fixedRow(want)) {
						t.Errorf("%v: %d gates, %v, want %v", call, len(net.Gates), marks, fixedRow(want))
					}
				}
			})
		}
	}
}

// TestBitsHalfFixed has one number that comes in, and all fixed ones.
func TestBitsHalfFixed(t *testing.T) {
	for _, a := range allVecs() {
		row, n := marksFrom(2, a.Wide), netOf(a.Wide)
		eachOp(row, fixedRow(a), []int{2, -2}, func(call bitsCall) { bitsAre(t, n, call) })
		eachOp(fixedRow(a), row, []int{1 + a.Wide, -1 - a.Wide}, func(call bitsCall) { bitsAre(t, n, call) })
	}
}

// TestBitsShiftedOut has what is shifted by as many bits as there are, and by more.
func TestBitsShiftedOut(t *testing.T) {
	for _, b := range allVecs() {
		if b.N < b.Wide {
			continue
		}
		a, n := marksFrom(2, b.Wide), netOf(b.Wide)
		for op, want := range map[int]int{impl.OpShl: -1, impl.OpShr: -1, impl.OpSar: 1 + b.Wide} {
			call := bitsCall{op: op, a: a, b: fixedRow(b)}
			if net, marks := call.tell(n); !sameNet(net, n) || !slices.Equal(marks, many(b.Wide, want)) {
				t.Errorf("%v: %v, %v", call, net, marks)
			}
			bitsAre(t, n, call)
		}
	}
}

// TestBitsDividedByNothing divides by 0.
func TestBitsDividedByNothing(t *testing.T) {
	for wide := 1; wide <= 4; wide++ {
		a, n := marksFrom(2, wide), netOf(wide)
		for op, want := range map[int][]int{impl.OpDiv: many(wide, 1), impl.OpRem: a} {
			call := bitsCall{op: op, a: a, b: many(wide, -1)}
			if net, marks := call.tell(n); !sameNet(net, n) || !slices.Equal(marks, want) {
				t.Errorf("%v: %v, %v", call, net, marks)
			}
			bitsAre(t, n, call)
		}
	}
}

// TestBitsOneBitSigned has numbers of one bit with a sign: 1 is -1, below 0, and stays so when it is shifted.
func TestBitsOneBitSigned(t *testing.T) {
	n := netOf(2)
	for _, c := range []struct{ a, b, under, sar int }{{2, 3, 0, 0}, {2, -1, 2, 2}, {-1, 2, -1, -1}, {2, 1, -1, 2}, {1, 2, -2, 1}, {2, 2, -1, 2}, {2, -2, 2, 2}, {-2, 2, -2, -2}} {
		under := bitsCall{op: impl.OpUnder, a: []int{c.a}, b: []int{c.b}}
		sar := bitsCall{op: impl.OpSar, a: []int{c.a}, b: []int{c.b}}
		bitsAre(t, n, under)
		bitsAre(t, n, sar)
		if c.under == 0 {
			continue
		}
		if net, marks := under.tell(n); len(net.Gates) != 0 || !slices.Equal(marks, []int{c.under}) {
			t.Errorf("%v: %v, %v", under, net, marks)
		}
		if net, marks := sar.tell(n); len(net.Gates) != 0 || !slices.Equal(marks, []int{c.sar}) {
			t.Errorf("%v: %v, %v", sar, net, marks)
		}
	}
}

// TestBitsCat has all sizes of two numbers, up to 4 bits together and more.
func TestBitsCat(t *testing.T) {
	for _, n := range []impl.Net{netOf(8), lineNet(8, 600), netOf(8, andGate(2, 3), xorGate(9, 10))} {
		for first := 0; first <= 6; first++ {
			for second := 0; second <= 6; second++ {
				for _, a := range [][]int{marksFrom(2, first), turnedAll(marksFrom(4, first)), many(first, 1)} {
					for _, b := range [][]int{marksFrom(3, second), turnedAll(marksFrom(2, second)), many(second, -1)} {
						call := bitsCall{op: impl.OpCat, a: a, b: b}
						if first == 0 || second == 0 || first+second > 4 {
							noBits(t, n, call, "so many bits")
							continue
						}
						if net, marks := bitsTell(t, n, call); !sameNet(net, n) || len(marks) != first+second {
							t.Errorf("%v: %d gates, %v", call, len(net.Gates), marks)
						}
						bitsAre(t, netOf(8), call)
					}
				}
			}
		}
	}
}

// row is so many marks of a net, fixed ones among them.
func (m *maker) row(n impl.Net, wide int) []int {
	list := []int{}
	for range wide {
		if m.below(8) == 0 {
			list = append(list, 1-2*m.below(2))
		} else {
			list = append(list, m.number(netMarks(n)))
		}
	}
	return list
}

// TestBitsMade has any rows of nets that have gates already.
func TestBitsMade(t *testing.T) {
	m := maker{seed: 77}
	for round := range 150 {
		n := m.net(round%7, m.below(30))
		wide := 1 + round%4
		eachOp(m.row(n, wide), m.row(n, wide), m.row(n, 2), func(call bitsCall) { bitsAre(t, n, call) })
		bitsAre(t, n, bitsCall{op: impl.OpCat, a: m.row(n, 1), b: m.row(n, 1+round%3)})
		bitsAre(t, n, bitsCall{op: impl.OpCat, a: m.row(n, 1+round%3), b: m.row(n, 1)})
	}
}

// TestBitsBehind has one number made behind the other in one net, of the marks of those ahead of it.
func TestBitsBehind(t *testing.T) {
	m := maker{seed: 78}
	for round := range 60 {
		wide := 1 + round%4
		n := netOf(2 + round%5)
		rows := [][]int{m.row(n, wide), m.row(n, wide), m.row(n, wide)}
		for range 5 {
			a, b, c := rows[m.below(len(rows))], rows[m.below(len(rows))], rows[m.below(len(rows))]
			ops := append(bitsOps(), impl.TermIf)
			call := bitsCall{op: ops[m.below(len(ops))], c: c[m.below(wide)], a: a, b: b}
			if call.wantedGates(n) > 400 {
				break
			}
			bitsAre(t, n, call)
			net, marks := call.tell(n)
			if n = net; len(marks) == wide {
				rows = append(rows, marks)
			}
		}
	}
}

// wantedGates is how many gates there are behind a call.
func (call bitsCall) wantedGates(n impl.Net) int {
	net, _ := call.wanted(n)
	return len(net.Gates)
}

// otherGates is a net of 8 marks that come in, with so many gates, none of them one that an op of the first marks needs.
func otherGates(gates int) impl.Net {
	n := netOf(8, andGate(-5, -8))
	for len(n.Gates) < gates {
		last := netMarks(n)
		n.Gates = append(n.Gates, []impl.Gate{xorGate(8, last), andGate(8, last), andGate(-8, -last)}[last%3])
	}
	n.Gates = n.Gates[:gates]
	return n
}

// roomFor asks a call of nets that have room for all its gates, or not: none is left, some are, or all.
func roomFor(t *testing.T, call bitsCall, step int) {
	t.Helper()
	need := call.gates(8)
	for less := -1; less <= need; less++ {
		if less > 1 && less < need-1 && less%step != 0 {
			continue
		}
		n := otherGates(min(600, 600-need+less))
		net, marks := bitsTell(t, n, call)
		if less > 0 && (len(marks) != 0 || !sameNet(net, impl.Net{})) {
			t.Errorf("%v, with room for %d gates less than the %d that it needs: %v", call, less, need, marks)
		}
		if less <= 0 && (len(marks) == 0 || len(net.Gates) != len(n.Gates)+need || !impl.NetOk(net)) {
			t.Errorf("%v, with room for the %d gates that it needs: %v", call, need, marks)
		}
	}
}

// TestBitsRoom has no room for a gate: at the first, at each in the midst, and at the last.
func TestBitsRoom(t *testing.T) {
	for wide := 1; wide <= 4; wide++ {
		a, b := marksFrom(2, wide), marksFrom(2+wide, wide)
		for _, rows := range [][2][]int{{a, b}, {reversed(turnedAll(b)), a}} {
			eachOp(rows[0], rows[1], []int{9, -9}, func(call bitsCall) { roomFor(t, call, 1+12*(wide/4)) })
		}
	}
}

// TestBitsFull has a net with as many gates as there may be: what needs a gate that it has is told, what needs another is not.
func TestBitsFull(t *testing.T) {
	for wide := 1; wide <= 4; wide++ {
		a, b := marksFrom(2, wide), marksFrom(2+wide, wide)
		eachOp(a, b, []int{9}, func(call bitsCall) {
			n, _ := call.tell(netOf(8))
			for len(n.Gates) < 600 {
				last := netMarks(n)
				n.Gates = append(n.Gates, andGate(-last+1, last))
			}
			bitsAre(t, n, call)
			if need := call.gates(8); need > 0 {
				n.Gates[need-1] = andGate(-5, -8)
				noBits(t, n, call, "another gate in the place of the last that it needs")
			}
		})
	}
}

// rightCalls is calls that are right with a net of 8 marks that come in, one of each op and size.
func rightCalls() []bitsCall {
	list := []bitsCall{}
	for wide := 1; wide <= 4; wide++ {
		eachOp(marksFrom(2, wide), marksFrom(2+wide, wide), []int{9}, func(call bitsCall) { list = append(list, call) })
	}
	for first := 1; first <= 3; first++ {
		for second := 1; first+second <= 4; second++ {
			list = append(list, bitsCall{op: impl.OpCat, a: marksFrom(2, first), b: marksFrom(6, second)})
		}
	}
	return list
}

// TestBitsOtherOp asks for ops that another function knows, or none does.
func TestBitsOtherOp(t *testing.T) {
	ops := []int{math.MinInt, math.MaxInt, -1, -2, -3, -14, -15, -17, 100, 1<<32 + 1, 1<<32 + 3, 1<<32 + 6, 1<<32 + 15, -1 << 32}
	for op := 0; op <= 40; op++ {
		ops = append(ops, op)
	}
	n := netOf(8, andGate(2, 3))
	for _, op := range ops {
		for wide := 1; wide <= 2; wide++ {
			for _, rows := range [][2][]int{{marksFrom(2, wide), marksFrom(4, wide)}, {many(wide, 1), many(wide, -1)}, {many(wide, -1), many(wide, -1)}} {
				un, marks := impl.BitsUn(n, op, rows[0])
				if can := op == 1 || op == 2; (len(marks) == wide) != can || !can && (len(marks) != 0 || !sameNet(un, impl.Net{})) {
					t.Errorf("BitsUn(%d) = %v, %v", op, un, marks)
				}
				bin, marks := impl.BitsBin(n, op, rows[0], rows[1])
				if can := 3 <= op && op <= 14; (len(marks) > 0) != can || !can && !sameNet(bin, impl.Net{}) {
					t.Errorf("BitsBin(%d) = %v, %v", op, bin, marks)
				}
				cmp, m := impl.BitsCmp(n, op, rows[0], rows[1])
				if can := 15 <= op && op <= 17; (m != 0) != can || !can && !sameNet(cmp, impl.Net{}) {
					t.Errorf("BitsCmp(%d) = %v, %v", op, cmp, m)
				}
			}
		}
	}
}

// TestBitsWrongNet has nets that are not ok, with marks that would be there in any.
func TestBitsWrongNet(t *testing.T) {
	for _, n := range wrongNets() {
		for _, call := range rightCalls() {
			noBits(t, n, call, "a net that is not ok")
			if call.op == impl.TermIf {
				call.c = 1
			}
			call.a, call.b = many(len(call.a), 1), many(len(call.b), -1)
			noBits(t, n, call, "a net that is not ok, and fixed marks")
		}
	}
}

// TestBitsWrongMark has one mark that the net has not, at each place of each row.
func TestBitsWrongMark(t *testing.T) {
	for _, n := range []impl.Net{netOf(8), netOf(8, andGate(2, 3), xorGate(4, 5)), otherGates(600)} {
		last := netMarks(n)
		for _, none := range []int{0, last + 1, -last - 1, last + 2, -last - 2, 701, -701, math.MaxInt, math.MinInt, math.MinInt + 1, 1 << 32, 1<<32 + 1, 1<<32 + 2, -1<<32 - 2} {
			for _, call := range rightCalls() {
				for i := range call.a {
					wrong := call
					wrong.a = slices.Clone(call.a)
					wrong.a[i] = none
					noBits(t, n, wrong, "a mark of the first that is none")
				}
				for i := range call.b {
					wrong := call
					wrong.b = slices.Clone(call.b)
					wrong.b[i] = none
					if call.unCall() {
						bitsTell(t, n, wrong)
					} else {
						noBits(t, n, wrong, "a mark of the second that is none")
					}
				}
				if call.op == impl.TermIf {
					call.c = none
					noBits(t, n, call, "a c that is none")
					call.a, call.b = many(len(call.a), 2), many(len(call.a), 2)
					noBits(t, n, call, "a c that is none, of two that are one")
				}
			}
		}
	}
}

// TestBitsLastMark has marks just at the end of what a net has.
func TestBitsLastMark(t *testing.T) {
	m := maker{seed: 79}
	for ins := range 9 {
		for _, gates := range []int{0, 1, 2, 7} {
			n := m.net(ins, gates)
			last := netMarks(n)
			for wide := 1; wide <= 4; wide++ {
				for _, rows := range [][2][]int{{many(wide, last), many(wide, -last)}, {many(wide, -last), many(wide, last)}, {many(wide, last), many(wide, 1)}, {many(wide, -1), many(wide, -last)}} {
					eachOp(rows[0], rows[1], []int{last, -last}, func(call bitsCall) { bitsAre(t, n, call) })
				}
			}
		}
	}
}

// TestBitsWrongSize has all sizes of both, from none to more than there may be, and far more.
func TestBitsWrongSize(t *testing.T) {
	sizes := []int{0, 1, 2, 3, 4, 5, 6, 8, 9, 64, 1000}
	for _, n := range []impl.Net{netOf(8), otherGates(3)} {
		for _, first := range sizes {
			for _, second := range sizes {
				for _, fill := range []int{1, -1, 2, -9} {
					eachOp(many(first, 2), many(second, fill), []int{3, 1}, func(call bitsCall) {
						can := first >= 1 && first <= 4 && (call.unCall() || first == second)
						if call.can(n) != can {
							t.Error("the test itself is not sure of", first, second, call.op)
						}
						if can {
							bitsTell(t, n, call)
						} else {
							noBits(t, n, call, "so many marks")
						}
					})
				}
			}
		}
	}
}

// valWanted adds up 2 to the power of each place whose mark is so.
func valWanted(vals []bool, a []int) int {
	if len(a) > 4 {
		return 0
	}
	sum := 0
	for i, m := range a {
		for k, so := range vals {
			if so && m == k+1 || !so && m == -k-1 {
				sum += power(i)
			}
		}
	}
	return sum
}

// valIs asks for the number that marks say.
func valIs(t *testing.T, vals []bool, a []int, want int) {
	t.Helper()
	if got := impl.BitsVal(vals, a); got != want {
		t.Errorf("BitsVal(%s, %v) = %d, want %d", brief(vals), a, got, want)
	}
}

// TestBitsVal asks any list and any marks.
func TestBitsVal(t *testing.T) {
	vals := []bool{true, false, true}
	for _, c := range []struct {
		a    []int
		want int
	}{
		{nil, 0}, {[]int{}, 0}, {[]int{1}, 1}, {[]int{-1}, 0}, {[]int{2}, 0}, {[]int{-2}, 1}, {[]int{0}, 0}, {[]int{4}, 0}, {[]int{-4}, 0}, {[]int{math.MinInt}, 0}, {[]int{math.MaxInt}, 0},
		{[]int{1, 2, -2, 3}, 13}, {[]int{1, 1, 1, 1}, 15}, {[]int{-1, -1, -1, -1}, 0}, {[]int{2, 2, 2, 3}, 8}, {[]int{3, 2, 2, 2}, 1}, {[]int{-2, -3, 3, 2}, 5}, {[]int{0, 1, 0, 1}, 10}, {[]int{math.MinInt, 3, 4, -4}, 2}, {[]int{9, -9, 1}, 4},
		{[]int{1, 1, 1, 1, 1}, 0}, {[]int{1, 1, 1, 1, -1}, 0}, {[]int{1, 1, 1, 1, 0}, 0}, {[]int{-1, -1, -1, -1, 1}, 0}, {many(64, 1), 0}, {many(65, 1), 0}, {many(1000, -2), 0},
	} {
		valIs(t, vals, c.a, c.want)
		valIs(t, append(slices.Clone(vals), true, true)[:3], c.a, c.want)
		valIs(t, nil, c.a, 0)
		valIs(t, []bool{}, c.a, 0)
	}
	numbers := []int{0, 1, -1, 2, -2, 3, -3, 4, -5, math.MaxInt, math.MinInt, math.MinInt + 1, 1<<32 + 1, -1<<32 - 1}
	for size := range 4 {
		for _, vals := range allVals(size) {
			eachClause(numbers[:9], 4, func(a []int) { valIs(t, vals, a, valWanted(vals, a)) })
			eachClause(numbers, 2, func(a []int) {
				valIs(t, vals, a, valWanted(vals, a))
				valIs(t, vals, slices.Concat(a, []int{1, -1}), valWanted(vals, slices.Concat(a, []int{1, -1})))
				valIs(t, vals, slices.Concat(a, []int{1, -1, 1, -1}), valWanted(vals, slices.Concat(a, []int{1, -1, 1, -1})))
			})
		}
	}
	m := maker{seed: 80}
	for _, size := range []int{63, 64, 65, 609, 700, 701, 2000} {
		vals := m.vals(size)
		for range 300 {
			a := []int{}
			for range m.below(6) {
				a = append(a, m.number(size+1))
			}
			valIs(t, vals, a, valWanted(vals, a))
		}
	}
}

// roomyRow is a list that is the same, with room behind its end, and something there.
func roomyRow(row []int) []int { return append(slices.Clone(row), 777)[:len(row)] }

// wrongCalls is calls that are not right with a net of 8 marks that come in.
func wrongCalls() []bitsCall {
	list := []bitsCall{{op: 0, a: []int{2}, b: []int{3}}, {op: 40, a: []int{2}, b: []int{3}}}
	for _, rows := range [][2][]int{{nil, nil}, {{2}, {3, 4}}, {{2, 3, 4}, {5, 6}}, {{2, 0}, {3, 4}}, {{2, 3}, {4, 99}}, {many(5, 2), many(5, 3)}} {
		eachOp(rows[0], rows[1], []int{4, 0, 99}, func(call bitsCall) { list = append(list, call) })
	}
	return list
}

// eachRoomy calls with nets and calls, right ones and wrong ones, in memory with room behind each end.
func eachRoomy(do func(was impl.Net, n impl.Net, wasCall bitsCall, call bitsCall)) {
	nets := []impl.Net{netOf(8), netOf(8, andGate(2, 3), xorGate(2, 3)), otherGates(590), lineNet(8, 600), netOf(2), netOf(9), netOf(8, andGate(3, 2))}
	for _, was := range nets {
		for _, call := range append(rightCalls(), wrongCalls()...) {
			do(was, roomyNet(was), call, bitsCall{op: call.op, c: call.c, a: roomyRow(call.a), b: roomyRow(call.b)})
		}
	}
}

// TestBitsArgumentsStay asks that nothing is written into an argument, or behind its end.
func TestBitsArgumentsStay(t *testing.T) {
	eachRoomy(func(was impl.Net, n impl.Net, wasCall bitsCall, call bitsCall) {
		vals := []bool{true, false, true, true, false}
		call.tell(n)
		impl.BitsVal(vals[:3], call.a)
		if !stayedNet(was, n) || !stayedList(wasCall.a, call.a) || !stayedList(wasCall.b, call.b) || !slices.Equal(vals, []bool{true, false, true, true, false}) {
			t.Errorf("an argument was written into: %s, %v", brief(was), wasCall)
		}
	})
}

// TestBitsOneList has one list as both numbers, with one behind the other in one memory.
func TestBitsOneList(t *testing.T) {
	n := netOf(8)
	for wide := 1; wide <= 4; wide++ {
		both := marksFrom(2, 8)
		eachOp(both[:wide], both[:wide], []int{2}, func(call bitsCall) { bitsTell(t, n, call) })
		eachOp(both[:wide], both[wide:2*wide], []int{2}, func(call bitsCall) { bitsTell(t, n, call) })
		eachOp(both[wide:2*wide], both[:wide], []int{2}, func(call bitsCall) { bitsTell(t, n, call) })
		bitsTell(t, n, bitsCall{op: impl.OpCat, a: both[:1], b: both[:1+wide%3]})
		if !slices.Equal(both, marksFrom(2, 8)) {
			t.Fatal("an argument was written into:", both)
		}
	}
}

// TestBitsIsNew writes over all that an answer has memory for, and asks that nothing else has turned.
func TestBitsIsNew(t *testing.T) {
	eachRoomy(func(was impl.Net, n impl.Net, wasCall bitsCall, call bitsCall) {
		want, wantMarks := call.tell(n)
		want, wantMarks = copyNet(want), slices.Clone(wantMarks)
		got, marks := call.tell(n)
		other, otherMarks := call.tell(n)
		gates, marks := got.Gates[:cap(got.Gates)], marks[:cap(marks)]
		for i := range gates {
			gates[i] = xorGate(99, 99)
		}
		for i := range marks {
			marks[i] = 99
		}
		if !stayedNet(was, n) || !stayedList(wasCall.a, call.a) || !stayedList(wasCall.b, call.b) {
			t.Errorf("an answer shares memory with an argument: %s, %v", brief(was), wasCall)
		}
		again, againMarks := call.tell(n)
		if !sameNet(other, want) || !sameNet(again, want) || !slices.Equal(otherMarks, wantMarks) || !slices.Equal(againMarks, wantMarks) {
			t.Errorf("an answer shares memory with another, or with what is kept: %s, %v", brief(was), wasCall)
		}
	})
}

// TestBitsAgain asks that nothing is kept from call to call, and that a call that fails leaves nothing behind.
func TestBitsAgain(t *testing.T) {
	full := otherGates(599)
	for range 3 {
		for _, row := range handMade() {
			noBits(t, full, bitsCall{op: impl.OpAdd, a: []int{2, 3}, b: []int{4, 5}}, "no room")
			noBits(t, netOf(row.ins), bitsCall{op: row.call.op, a: []int{99}, b: []int{2}}, "no mark")
			if net, marks := row.call.tell(netOf(row.ins)); !sameNet(net, netOf(row.ins, row.gates...)) || !slices.Equal(marks, row.marks) {
				t.Errorf("%v: %v, %v, want %v, %v", row.call, net.Gates, marks, row.gates, row.marks)
			}
		}
	}
}
