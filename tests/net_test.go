package tests

import (
	"math"
	"slices"
	"testing"

	"loop.example/seedlip/impl"
)

// andGate is a gate of both.
func andGate(a int, b int) impl.Gate { return impl.Gate{A: a, B: b} }

// xorGate is a gate of one and not the other.
func xorGate(a int, b int) impl.Gate { return impl.Gate{Xor: true, A: a, B: b} }

// netOf is a net of so many marks that come in, and gates.
func netOf(ins int, gates ...impl.Gate) impl.Net { return impl.Net{Ins: ins, Gates: gates} }

// netMarks is how many marks a net has.
func netMarks(n impl.Net) int { return 1 + n.Ins + len(n.Gates) }

// gatesFor is all gates that may have a mark.
func gatesFor(own int) []impl.Gate {
	list := []impl.Gate{}
	for b := 3; b < own; b++ {
		for a := 2; a < b; a++ {
			list = append(list, xorGate(a, b), andGate(a, b), andGate(a, -b), andGate(-a, b), andGate(-a, -b))
		}
	}
	return list
}

// gateMay says whether a gate may have a mark, by a look at all two that it may be of.
func gateMay(gate impl.Gate, own int) bool {
	is := func(m int, k int) bool { return m == k || m == -k && !gate.Xor }
	for b := 3; b < own; b++ {
		for a := 2; a < b && is(gate.B, b); a++ {
			if is(gate.A, a) {
				return true
			}
		}
	}
	return false
}

// netOkWanted asks each gate by itself, and looks for it among those ahead of it.
func netOkWanted(n impl.Net) bool {
	if !slices.Contains([]int{0, 1, 2, 3, 4, 5, 6, 7, 8}, n.Ins) || len(n.Gates) > 600 {
		return false
	}
	for i, gate := range n.Gates {
		if !gateMay(gate, 2+n.Ins+i) || slices.Contains(n.Gates[:i], gate) {
			return false
		}
	}
	return true
}

// sameNet says whether two nets are the same.
func sameNet(a impl.Net, b impl.Net) bool {
	if a.Ins != b.Ins || len(a.Gates) != len(b.Gates) {
		return false
	}
	for i, gate := range a.Gates {
		if other := b.Gates[i]; gate.Xor != other.Xor || gate.A != other.A || gate.B != other.B {
			return false
		}
	}
	return true
}

// copyNet is a net of its own memory.
func copyNet(n impl.Net) impl.Net { return netOf(n.Ins, append([]impl.Gate{}, n.Gates...)...) }

// hasMark says whether a net has a mark, turned or not.
func hasMark(n impl.Net, m int) bool {
	for k := 1; k <= netMarks(n); k++ {
		if m == k || m == -k {
			return true
		}
	}
	return false
}

// gateWanted looks for a gate from the first on, and has it behind all others if there is none.
func gateWanted(n impl.Net, gate impl.Gate) (impl.Net, int) {
	if bare(gate.A) > bare(gate.B) {
		gate.A, gate.B = gate.B, gate.A
	}
	for i, other := range n.Gates {
		if other == gate {
			return n, 2 + n.Ins + i
		}
	}
	if len(n.Gates) == 600 {
		return impl.Net{}, 0
	}
	grown := copyNet(n)
	grown.Gates = append(grown.Gates, gate)
	return grown, netMarks(grown)
}

// andWanted goes through the cases of a net that is ok, as the document has them.
func andWanted(n impl.Net, a int, b int) (impl.Net, int) {
	if !hasMark(n, a) || !hasMark(n, b) {
		return impl.Net{}, 0
	}
	if a == -1 || b == -1 {
		return n, -1
	}
	if a == 1 {
		return n, b
	}
	if b == 1 {
		return n, a
	}
	if a == b {
		return n, a
	}
	if a+b == 0 {
		return n, -1
	}
	return gateWanted(n, andGate(a, b))
}

// xorWanted goes through the cases of a net that is ok, as the document has them.
func xorWanted(n impl.Net, a int, b int) (impl.Net, int) {
	if !hasMark(n, a) || !hasMark(n, b) {
		return impl.Net{}, 0
	}
	if a == 1 || a == -1 {
		return n, -a * b
	}
	if b == 1 || b == -1 {
		return n, -b * a
	}
	if a == b {
		return n, -1
	}
	if a+b == 0 {
		return n, 1
	}
	grown, k := gateWanted(n, xorGate(bare(a), bare(b)))
	if a < 0 && b > 0 || a > 0 && b < 0 {
		k = -k
	}
	return grown, k
}

// markSo is whether a mark of a net that is ok is so, asked from it down to what comes in.
func markSo(n impl.Net, ins []bool, m int) bool {
	if m < 0 {
		return !markSo(n, ins, -m)
	}
	if m == 1 {
		return true
	}
	if m <= 1+n.Ins {
		return ins[m-2]
	}
	gate := n.Gates[m-2-n.Ins]
	if gate.Xor {
		return markSo(n, ins, gate.A) != markSo(n, ins, gate.B)
	}
	return markSo(n, ins, gate.A) && markSo(n, ins, gate.B)
}

// netValsWanted is whether each mark is so, each gate's reckoned from the list so far.
func netValsWanted(n impl.Net, ins []bool) []bool {
	vals := append([]bool{true}, ins...)
	so := func(m int) bool { return vals[bare(m)-1] != (m < 0) }
	for _, gate := range n.Gates {
		if gate.Xor {
			vals = append(vals, so(gate.A) && !so(gate.B) || !so(gate.A) && so(gate.B))
		} else {
			vals = append(vals, so(gate.A) && so(gate.B))
		}
	}
	return vals
}

// netCnfWanted is the clauses of a net that is ok, put in order one by one.
func netCnfWanted(n impl.Net) impl.Cnf {
	c := impl.Cnf{Many: netMarks(n), List: [][]int{{1}}}
	add := func(clause ...int) {
		slices.SortFunc(clause, func(a int, b int) int { return bare(a) - bare(b) })
		c.List = append(c.List, clause)
	}
	for i, gate := range n.Gates {
		k := 2 + n.Ins + i
		if gate.Xor {
			add(-k, gate.A, gate.B)
			add(-k, -gate.A, -gate.B)
			add(k, -gate.A, gate.B)
			add(k, gate.A, -gate.B)
		} else {
			add(-k, gate.A)
			add(-k, gate.B)
			add(k, -gate.A, -gate.B)
		}
	}
	return c
}

// gate is one that may have a mark, which is 4 or more.
func (m *maker) gate(own int) impl.Gate {
	b := 3 + m.below(own-3)
	a := 2 + m.below(b-2)
	if m.below(3) == 0 {
		return xorGate(a, b)
	}
	return andGate(a*(1-2*m.below(2)), b*(1-2*m.below(2)))
}

// net is one that is ok, with so many gates if there is anything that they may be of.
func (m *maker) net(ins int, gates int) impl.Net {
	n := netOf(ins)
	for ins >= 2 && len(n.Gates) < gates {
		if gate := m.gate(2 + ins + len(n.Gates)); !slices.Contains(n.Gates, gate) {
			n.Gates = append(n.Gates, gate)
		}
	}
	return n
}

// lineNet is a net with so many gates, the first ones that may be there, in order.
func lineNet(ins int, gates int) impl.Net {
	n := netOf(ins)
	for b := 3; len(n.Gates) < gates; b++ {
		for a := 2; a < b; a++ {
			n.Gates = append(n.Gates, xorGate(a, b), andGate(a, b), andGate(a, -b), andGate(-a, b), andGate(-a, -b))
		}
	}
	n.Gates = n.Gates[:gates]
	return n
}

// xorNet is a net with so many gates, all of them Xor.
func xorNet(ins int, gates int) impl.Net {
	n := netOf(ins)
	for b := 3; len(n.Gates) < gates; b++ {
		for a := 2; a < b && len(n.Gates) < gates; a++ {
			n.Gates = append(n.Gates, xorGate(a, b))
		}
	}
	return n
}

// smallNets is each net of 0 to 3 marks that come in and no gate or one, and many of a few more.
func smallNets() []impl.Net {
	list := []impl.Net{}
	for ins := range 4 {
		list = append(list, netOf(ins))
		for _, gate := range gatesFor(2 + ins) {
			list = append(list, netOf(ins, gate))
		}
	}
	m := maker{seed: 6}
	for round := range 120 {
		list = append(list, m.net(round%9, m.below(14)))
	}
	return list
}

// wrongNets is nets that are not ok, most of them for one reason alone.
func wrongNets() []impl.Net {
	list := []impl.Net{
		netOf(-1), netOf(9), netOf(10), netOf(math.MaxInt), netOf(math.MinInt), netOf(1 << 32), netOf(1<<32 + 2), netOf(-8),
		lineNet(9, 5), lineNet(2, 601), lineNet(8, 601), xorNet(8, 601), xorNet(8, 1200),
		netOf(0, andGate(2, 3)), netOf(1, andGate(2, 3)), netOf(0, xorGate(1, 2)), netOf(1, xorGate(1, 2)), netOf(0, andGate(0, 0)), netOf(0, impl.Gate{}), netOf(-1, andGate(2, 3)),
	}
	for _, xor := range []bool{false, true} {
		for _, wrong := range []int{0, 1, -1, math.MinInt, math.MinInt + 1, math.MaxInt, 1<<32 + 2, -1 << 32} {
			for _, right := range []int{2, 3, 4} {
				list = append(list, netOf(3, impl.Gate{Xor: xor, A: wrong, B: right}), netOf(3, impl.Gate{Xor: xor, A: right, B: wrong}))
			}
		}
		for _, ab := range [][2]int{{2, 5}, {2, -5}, {4, 5}, {5, 2}, {5, 6}, {2, 6}, {2, 2}, {4, 4}, {-2, -2}, {2, -2}, {-2, 2}, {3, 2}, {-3, 2}, {3, -2}, {-3, -2}, {4, 3}, {-4, 3}} {
			list = append(list, netOf(3, impl.Gate{Xor: xor, A: ab[0], B: ab[1]}))
		}
		for _, ab := range [][2]int{{2, 6}, {2, -6}, {5, 6}, {2, 7}, {5, 5}, {5, -5}, {5, 2}, {-5, 4}, {1, 5}, {-1, 5}, {0, 5}, {5, 0}, {5, 1}} {
			list = append(list, netOf(3, andGate(-2, 4), impl.Gate{Xor: xor, A: ab[0], B: ab[1]}), netOf(3, andGate(-2, 4), impl.Gate{Xor: xor, A: ab[0], B: ab[1]}, andGate(2, 3)))
		}
	}
	for _, ab := range [][2]int{{-2, 3}, {2, -3}, {-2, -3}, {3, -4}, {-3, 4}} {
		list = append(list, netOf(3, xorGate(ab[0], ab[1])), netOf(3, andGate(2, 3), xorGate(ab[0], ab[1])))
	}
	for _, gate := range []impl.Gate{andGate(2, 3), andGate(-2, 3), andGate(2, -3), andGate(-2, -3), xorGate(2, 3)} {
		list = append(list, netOf(2, gate, gate), netOf(2, andGate(2, 3), andGate(2, 4), andGate(3, 5), xorGate(4, 5), gate, andGate(2, 3)), netOf(2, gate, andGate(2, 4), gate))
	}
	return list
}

// nearEnd is marks that a net has, turned or not, those just behind, and such as are none.
func nearEnd(n impl.Net) []int {
	many := netMarks(n)
	list := []int{0, math.MaxInt, math.MinInt, math.MinInt + 1, 1 << 32, 1<<32 + 2, -1<<32 - 2, 701}
	for m := 1; m <= many+2; m++ {
		list = append(list, m, -m)
	}
	return list
}

// netAnswer is what NetAnd and NetXor are of the kind of.
type netAnswer func(n impl.Net, a int, b int) (impl.Net, int)

// makes asks what NetAnd or NetXor tells.
func makes(t *testing.T, word string, ask netAnswer, n impl.Net, a int, b int, want impl.Net, wantMark int) {
	t.Helper()
	if got, m := ask(n, a, b); m != wantMark || !sameNet(got, want) {
		t.Errorf("%s(%d marks and %s, %d, %d) = %s, %d, want %s, %d", word, n.Ins, brief(n.Gates), a, b, brief(got), m, brief(want), wantMark)
	}
}

// stays asks that NetAnd or NetXor tells a mark, and the net as it was.
func stays(t *testing.T, word string, ask netAnswer, n impl.Net, a int, b int, m int) {
	t.Helper()
	makes(t, word, ask, n, a, b, n, m)
}

// refuses asks that NetAnd and NetXor tell nothing, and 0.
func refuses(t *testing.T, n impl.Net, a int, b int) {
	t.Helper()
	makes(t, "NetAnd", impl.NetAnd, n, a, b, impl.Net{}, 0)
	makes(t, "NetXor", impl.NetXor, n, a, b, impl.Net{}, 0)
}

// valsAre asks which marks are so, and that NetLit tells each of them both ways.
func valsAre(t *testing.T, n impl.Net, ins []bool, want []bool) {
	t.Helper()
	vals := impl.NetVals(n, ins)
	if !slices.Equal(vals, want) {
		t.Errorf("NetVals(%s, %v) = %s, want %s", brief(n), ins, brief(vals), brief(want))
	}
	for i, so := range want {
		if impl.NetLit(vals, i+1) != so || impl.NetLit(vals, -i-1) != !so {
			t.Errorf("NetLit of %d, of %s", i+1, brief(vals))
		}
	}
}

// noVals asks that nothing is told of what is so.
func noVals(t *testing.T, n impl.Net, ins []bool) {
	t.Helper()
	if vals := impl.NetVals(n, ins); len(vals) != 0 {
		t.Errorf("NetVals(%s, %d ins) = %s", brief(n), len(ins), brief(vals))
	}
}

func TestNetConstants(t *testing.T) {
	if impl.InMost != 8 || impl.NetMost != 600 {
		t.Error("bounds are not as the document has them")
	}
}

func TestNetOk(t *testing.T) {
	right := []impl.Net{
		{}, {Ins: 0, Gates: []impl.Gate{}}, {Ins: 1}, {Ins: 8},
		netOf(2, andGate(2, 3)), netOf(2, andGate(-2, 3)), netOf(2, andGate(2, -3)), netOf(2, andGate(-2, -3)), netOf(2, xorGate(2, 3)),
		netOf(2, andGate(2, 3), xorGate(2, 3)), netOf(2, xorGate(2, 3), andGate(2, 3)), netOf(2, andGate(2, 3), andGate(-2, 3)), netOf(2, andGate(2, 3), andGate(2, -3)), netOf(2, andGate(2, 3), andGate(-2, -3), andGate(-2, 3), andGate(2, -3), xorGate(2, 3)),
		netOf(2, andGate(2, 3), andGate(2, 4)), netOf(2, andGate(2, 3), andGate(3, -4)), netOf(2, xorGate(2, 3), xorGate(3, 4), xorGate(4, 5), andGate(-5, -6)),
		netOf(8, andGate(2, 9)), netOf(8, xorGate(8, 9)), netOf(8, andGate(-8, -9), xorGate(9, 10)),
		lineNet(2, 599), lineNet(2, 600), lineNet(8, 600), xorNet(2, 600), xorNet(8, 600),
	}
	for i, n := range right {
		if !impl.NetOk(n) || !netOkWanted(n) {
			t.Error("not ok, but is:", i, brief(n))
		}
	}
	for i, n := range wrongNets() {
		if impl.NetOk(n) || netOkWanted(n) {
			t.Error("ok, but is not:", i, brief(n))
		}
	}
	for ins := -3; ins <= 12; ins++ {
		if impl.NetOk(netOf(ins)) != (ins >= 0 && ins <= 8) {
			t.Error("so many marks that come in:", ins)
		}
	}
}

// TestNetOkMany has nets with one gate more each time, that of the same kinds.
func TestNetOkMany(t *testing.T) {
	for ins := 2; ins <= 8; ins++ {
		for _, gates := range []int{0, 1, 63, 64, 598, 599, 600, 601, 602, 640, 700} {
			for _, n := range []impl.Net{lineNet(ins, gates), xorNet(ins, gates)} {
				if impl.NetOk(n) != (gates <= 600) {
					t.Errorf("%d gates, of %d marks that come in", gates, ins)
				}
			}
		}
	}
}

// TestNetOkOneGate asks each gate of small numbers and odd ones, alone.
func TestNetOkOneGate(t *testing.T) {
	numbers := append(oddNumbers(), -5, 6, -6, 7, -7, 8, -8, 9, -9, 10, -10, 11, -11)
	for ins := range 9 {
		for _, a := range numbers {
			for _, b := range numbers {
				for _, xor := range []bool{false, true} {
					n := netOf(ins, impl.Gate{Xor: xor, A: a, B: b})
					if impl.NetOk(n) != netOkWanted(n) {
						t.Errorf("NetOk(%v) = %v", n, !netOkWanted(n))
					}
				}
			}
		}
	}
}

// TestNetOkTwoGates asks each two gates of small numbers.
func TestNetOkTwoGates(t *testing.T) {
	gates := []impl.Gate{}
	for a := -5; a <= 5; a++ {
		for b := -5; b <= 5; b++ {
			gates = append(gates, andGate(a, b), xorGate(a, b))
		}
	}
	ok := 0
	for _, first := range gates {
		for _, second := range gates {
			n := netOf(2, first, second)
			want := netOkWanted(n)
			if impl.NetOk(n) != want {
				t.Errorf("NetOk(%v) = %v", n, !want)
			}
			if want {
				ok++
			}
		}
	}
	if ok != 5*(5*3-1) {
		t.Error("so many are ok:", ok)
	}
}

// TestNetOkBroken has nets that are ok, and breaks each gate of them in each way alone.
func TestNetOkBroken(t *testing.T) {
	m := maker{seed: 66}
	for round := range 60 {
		n := m.net(2+round%7, 1+m.below(12))
		if !impl.NetOk(n) {
			t.Fatalf("not ok, but is: %v", n)
		}
		for i, was := range n.Gates {
			own := 2 + n.Ins + i
			for _, gate := range []impl.Gate{
				{Xor: was.Xor, A: 0, B: was.B}, {Xor: was.Xor, A: was.A, B: 0}, {Xor: was.Xor, A: 1, B: was.B}, {Xor: was.Xor, A: was.A, B: 1}, {Xor: was.Xor, A: -1, B: was.B}, {Xor: was.Xor, A: was.A, B: -1},
				{Xor: was.Xor, A: was.A, B: own}, {Xor: was.Xor, A: was.A, B: -own}, {Xor: was.Xor, A: was.A, B: own + 1}, {Xor: was.Xor, A: own, B: was.B}, {Xor: was.Xor, A: was.A, B: 700},
				{Xor: was.Xor, A: was.B, B: was.A}, {Xor: was.Xor, A: was.A, B: was.A}, {Xor: was.Xor, A: was.A, B: -was.A}, {Xor: was.Xor, A: was.B, B: was.B},
				xorGate(-bare(was.A), bare(was.B)), xorGate(bare(was.A), -bare(was.B)), xorGate(-bare(was.A), -bare(was.B)),
			} {
				broken := copyNet(n)
				broken.Gates[i] = gate
				if impl.NetOk(broken) || netOkWanted(broken) {
					t.Errorf("gate %d is no right one, but %v is ok", i, broken)
				}
			}
			for k := range n.Gates {
				twice := copyNet(n)
				twice.Gates = append(slices.Insert(twice.Gates, max(k, i), was), was)
				if impl.NetOk(twice) {
					t.Errorf("a gate is there more than once, but %v is ok", twice)
				}
			}
		}
	}
}

// TestNetOkAlmostSame has two gates that differ in one part alone, or in none, with others between them.
func TestNetOkAlmostSame(t *testing.T) {
	n := lineNet(3, 20)
	for _, gate := range n.Gates {
		if impl.NetOk(netOf(3, append(slices.Clone(n.Gates), gate)...)) {
			t.Error("the same gate once more:", gate)
		}
	}
	for _, gate := range []impl.Gate{andGate(5, 10), xorGate(5, 10), andGate(-5, 10), andGate(5, -10), andGate(-5, -10), andGate(4, 10), andGate(5, 11), xorGate(4, 10), xorGate(5, 11)} {
		n.Gates = append(n.Gates, gate)
		if !impl.NetOk(n) {
			t.Error("one that differs in one part:", gate)
		}
		if impl.NetOk(netOf(3, append(slices.Clone(n.Gates), gate)...)) {
			t.Error("the same gate once more:", gate)
		}
	}
}

func TestNetSame(t *testing.T) {
	list := []impl.Net{
		{}, {Ins: 1}, {Ins: -1}, {Ins: 8}, {Ins: 9}, {Ins: math.MinInt}, {Ins: math.MaxInt}, {Ins: 1 << 32},
		netOf(0, impl.Gate{}), netOf(0, impl.Gate{}, impl.Gate{}), netOf(0, impl.Gate{Xor: true}), netOf(1, impl.Gate{}),
		netOf(2, andGate(2, 3)), netOf(3, andGate(2, 3)), netOf(2, xorGate(2, 3)), netOf(2, andGate(-2, 3)), netOf(2, andGate(2, -3)), netOf(2, andGate(-2, -3)), netOf(2, andGate(3, 2)), netOf(2, andGate(2, 4)), netOf(2, andGate(4, 3)), netOf(2, xorGate(3, 2)), netOf(2, xorGate(-2, 3)),
		netOf(2, andGate(2, 3), xorGate(2, 3)), netOf(2, xorGate(2, 3), andGate(2, 3)), netOf(2, andGate(2, 3), andGate(2, 3)), netOf(2, andGate(2, 3), xorGate(2, 3), andGate(2, 4)),
		netOf(2, andGate(math.MinInt, 0)), netOf(2, andGate(math.MaxInt, 0)), netOf(2, andGate(0, math.MinInt)), netOf(2, andGate(1<<32+2, 3)),
		lineNet(2, 599), lineNet(2, 600), lineNet(2, 601), lineNet(3, 600), xorNet(2, 600),
	}
	for i, a := range list {
		for k, b := range list {
			if impl.NetSame(a, roomyNet(b)) != (i == k) {
				t.Error("NetSame:", i, k)
			}
		}
	}
	if !impl.NetSame(impl.Net{Ins: 3}, impl.Net{Ins: 3, Gates: []impl.Gate{}}) || !impl.NetSame(impl.Net{Gates: []impl.Gate{}}, impl.Net{}) {
		t.Error("the empty list and the nil list are the same value")
	}
}

// TestNetSameChanged turns each part of a net, one at a time, right or not.
func TestNetSameChanged(t *testing.T) {
	m := maker{seed: 666}
	for round := range 150 {
		a := m.net(round%9, m.below(10))
		differs := func(b impl.Net) {
			if impl.NetSame(a, b) || impl.NetSame(b, a) {
				t.Errorf("taken for one: %v and %v", a, b)
			}
		}
		b := copyNet(a)
		if !impl.NetSame(a, b) || !impl.NetSame(a, a) {
			t.Errorf("not taken for one: %v", a)
		}
		differs(netOf(a.Ins+1, b.Gates...))
		differs(netOf(-a.Ins-1, b.Gates...))
		differs(netOf(a.Ins, append(slices.Clone(b.Gates), impl.Gate{})...))
		for i, was := range a.Gates {
			differs(netOf(a.Ins, b.Gates[:i]...))
			differs(netOf(a.Ins, slices.Delete(slices.Clone(b.Gates), i, i+1)...))
			for _, gate := range []impl.Gate{{Xor: !was.Xor, A: was.A, B: was.B}, {Xor: was.Xor, A: -was.A, B: was.B}, {Xor: was.Xor, A: was.A, B: -was.B}, {Xor: was.Xor, A: was.B, B: was.A}, {Xor: was.Xor, A: was.A + 1, B: was.B}, {Xor: was.Xor, A: was.A, B: was.B + 1}, {}} {
				b.Gates[i] = gate
				differs(b)
			}
			b.Gates[i] = was
		}
	}
}

// TestNetAndCases has each case that needs no gate, by itself and where two of them meet.
func TestNetAndCases(t *testing.T) {
	for _, n := range []impl.Net{netOf(2, andGate(-2, 3), xorGate(2, 3)), netOf(3), lineNet(2, 600)} {
		for _, c := range [][3]int{
			{1, 1, 1}, {1, -1, -1}, {-1, 1, -1}, {-1, -1, -1},
			{1, 2, 2}, {1, -2, -2}, {2, 1, 2}, {-2, 1, -2}, {-1, 2, -1}, {-1, -2, -1}, {2, -1, -1}, {-2, -1, -1},
			{1, 4, 4}, {1, -4, -4}, {4, 1, 4}, {-4, 1, -4}, {-1, 4, -1}, {4, -1, -1}, {-4, -1, -1}, {-1, -4, -1},
			{2, 2, 2}, {-2, -2, -2}, {2, -2, -1}, {-2, 2, -1}, {3, 3, 3}, {-3, -3, -3}, {3, -3, -1}, {-3, 3, -1}, {4, 4, 4}, {-4, -4, -4}, {4, -4, -1}, {-4, 4, -1},
		} {
			stays(t, "NetAnd", impl.NetAnd, n, c[0], c[1], c[2])
		}
	}
	for _, c := range [][3]int{{1, 1, 1}, {1, -1, -1}, {-1, 1, -1}, {-1, -1, -1}} {
		stays(t, "NetAnd", impl.NetAnd, impl.Net{}, c[0], c[1], c[2])
	}
}

// TestNetXorCases has each case that needs no gate, by itself and where two of them meet.
func TestNetXorCases(t *testing.T) {
	for _, n := range []impl.Net{netOf(2, andGate(-2, 3), xorGate(2, 3)), netOf(3), lineNet(2, 600)} {
		for _, c := range [][3]int{
			{1, 1, -1}, {1, -1, 1}, {-1, 1, 1}, {-1, -1, -1},
			{1, 2, -2}, {1, -2, 2}, {2, 1, -2}, {-2, 1, 2}, {-1, 2, 2}, {-1, -2, -2}, {2, -1, 2}, {-2, -1, -2},
			{1, 4, -4}, {1, -4, 4}, {4, 1, -4}, {-4, 1, 4}, {-1, 4, 4}, {4, -1, 4}, {-4, -1, -4}, {-1, -4, -4},
			{2, 2, -1}, {-2, -2, -1}, {2, -2, 1}, {-2, 2, 1}, {3, 3, -1}, {-3, -3, -1}, {3, -3, 1}, {-3, 3, 1}, {4, 4, -1}, {-4, -4, -1}, {4, -4, 1}, {-4, 4, 1},
		} {
			stays(t, "NetXor", impl.NetXor, n, c[0], c[1], c[2])
		}
	}
	for _, c := range [][3]int{{1, 1, -1}, {1, -1, 1}, {-1, 1, 1}, {-1, -1, -1}} {
		stays(t, "NetXor", impl.NetXor, impl.Net{}, c[0], c[1], c[2])
	}
}

// TestNetGateMade has each sign of both, in either order.
func TestNetGateMade(t *testing.T) {
	n := netOf(3, andGate(2, 4))
	for _, a := range []int{2, -2} {
		for _, b := range []int{3, -3} {
			want := netOf(3, andGate(2, 4), andGate(a, b))
			makes(t, "NetAnd", impl.NetAnd, n, a, b, want, 6)
			makes(t, "NetAnd", impl.NetAnd, n, b, a, want, 6)
			want, m := netOf(3, andGate(2, 4), xorGate(2, 3)), 6
			if a+b == 1 || a+b == -1 {
				m = -6
			}
			makes(t, "NetXor", impl.NetXor, n, a, b, want, m)
			makes(t, "NetXor", impl.NetXor, n, b, a, want, m)
		}
	}
	for _, gate := range []impl.Gate{andGate(-2, 4), andGate(2, -4), andGate(-2, -4)} {
		makes(t, "NetAnd", impl.NetAnd, n, gate.A, gate.B, netOf(3, andGate(2, 4), gate), 6)
	}
	makes(t, "NetXor", impl.NetXor, n, 4, 2, netOf(3, andGate(2, 4), xorGate(2, 4)), 6)
	makes(t, "NetXor", impl.NetXor, n, 4, -2, netOf(3, andGate(2, 4), xorGate(2, 4)), -6)
	makes(t, "NetAnd", impl.NetAnd, n, 5, -2, netOf(3, andGate(2, 4), andGate(-2, 5)), 6)
	makes(t, "NetXor", impl.NetXor, n, -5, -4, netOf(3, andGate(2, 4), xorGate(4, 5)), 6)
	makes(t, "NetAnd", impl.NetAnd, netOf(2), -3, 2, netOf(2, andGate(2, -3)), 4)
	makes(t, "NetXor", impl.NetXor, netOf(8), 9, -2, netOf(8, xorGate(2, 9)), -10)
}

// foundAgain asks that each gate of a net is found, whichever way it is asked for.
func foundAgain(t *testing.T, n impl.Net, places []int) {
	t.Helper()
	for _, i := range places {
		gate, k := n.Gates[i], 2+n.Ins+i
		if !gate.Xor {
			stays(t, "NetAnd", impl.NetAnd, n, gate.A, gate.B, k)
			stays(t, "NetAnd", impl.NetAnd, n, gate.B, gate.A, k)
			continue
		}
		for _, sign := range []int{1, -1} {
			stays(t, "NetXor", impl.NetXor, n, sign*gate.A, sign*gate.B, k)
			stays(t, "NetXor", impl.NetXor, n, sign*gate.B, sign*gate.A, k)
			stays(t, "NetXor", impl.NetXor, n, sign*gate.A, -sign*gate.B, -k)
			stays(t, "NetXor", impl.NetXor, n, -sign*gate.B, sign*gate.A, -k)
		}
	}
}

func TestNetGateFound(t *testing.T) {
	for _, n := range smallNets() {
		all := []int{}
		for i := range n.Gates {
			all = append(all, i)
		}
		foundAgain(t, n, all)
	}
	for _, n := range []impl.Net{lineNet(2, 600), lineNet(8, 600), xorNet(2, 600), xorNet(8, 600), lineNet(5, 599)} {
		foundAgain(t, n, []int{0, 1, 2, 3, 4, 5, 63, 64, 300, 511, 512, 597, len(n.Gates) - 1})
	}
}

// TestNetFull has as many gates as there may be: one more is not made, but what needs none is told.
func TestNetFull(t *testing.T) {
	for _, n := range []impl.Net{lineNet(2, 600), lineNet(8, 600), xorNet(2, 600), xorNet(8, 600)} {
		last := netMarks(n)
		for _, a := range []int{2, -2, 3, -3, last - 1, 1 - last} {
			for _, b := range []int{last, -last} {
				refuses(t, n, a, b)
				refuses(t, n, b, a)
			}
		}
		for _, m := range []int{2, -2, last, -last} {
			stays(t, "NetAnd", impl.NetAnd, n, m, m, m)
			stays(t, "NetAnd", impl.NetAnd, n, m, -m, -1)
			stays(t, "NetAnd", impl.NetAnd, n, 1, m, m)
			stays(t, "NetAnd", impl.NetAnd, n, m, -1, -1)
			stays(t, "NetXor", impl.NetXor, n, m, m, -1)
			stays(t, "NetXor", impl.NetXor, n, m, -m, 1)
			stays(t, "NetXor", impl.NetXor, n, 1, m, -m)
			stays(t, "NetXor", impl.NetXor, n, m, -1, m)
			refuses(t, n, m, last+1)
			refuses(t, n, 0, m)
		}
	}
	for _, n := range []impl.Net{lineNet(2, 599), xorNet(8, 599)} {
		last := netMarks(n)
		and, k := impl.NetAnd(n, -last, -2)
		if k != last+1 || len(and.Gates) != 600 || and.Gates[599] != andGate(-2, -last) || !impl.NetOk(and) {
			t.Errorf("the last gate that there may be: %d", k)
		}
		xor, k := impl.NetXor(n, -last, 2)
		if k != -last-1 || len(xor.Gates) != 600 || xor.Gates[599] != xorGate(2, last) || !impl.NetOk(xor) {
			t.Errorf("the last gate that there may be: %d", k)
		}
		stays(t, "NetAnd", impl.NetAnd, and, -2, -last, last+1)
		refuses(t, and, 2, last+1)
		refuses(t, xor, -3, -last)
		foundAgain(t, xor, []int{0, 598, 599})
	}
}

// TestNetFilled makes gates till there is no room, and asks each one again.
func TestNetFilled(t *testing.T) {
	m, n := maker{seed: 6666}, netOf(4)
	said := map[impl.Gate]int{}
	for len(n.Gates) < 600 {
		gate := m.gate(netMarks(n) + 1)
		ask, word := impl.NetAnd, "NetAnd"
		if gate.Xor {
			ask, word = impl.NetXor, "NetXor"
		}
		if said[gate] != 0 {
			stays(t, word, ask, n, gate.B, gate.A, said[gate])
			continue
		}
		grown, k := ask(n, gate.A, gate.B)
		if k != netMarks(n)+1 || !sameNet(grown, netOf(4, append(slices.Clone(n.Gates), gate)...)) {
			t.Fatalf("gate %v: %d", gate, k)
		}
		n, said[gate] = grown, k
	}
	if !impl.NetOk(n) || len(said) != 600 {
		t.Error("not ok, or too few gates:", len(said))
	}
	for gate, k := range said {
		if n.Gates[k-6] != gate {
			t.Error("a mark of another gate:", gate, k)
		}
	}
}

// TestNetMakeAll asks all two numbers of small nets: what is told is what the document's cases tell.
func TestNetMakeAll(t *testing.T) {
	for _, n := range smallNets() {
		numbers := nearEnd(n)
		for _, a := range numbers {
			for _, b := range numbers {
				want, m := andWanted(n, a, b)
				makes(t, "NetAnd", impl.NetAnd, n, a, b, want, m)
				want, m = xorWanted(n, a, b)
				makes(t, "NetXor", impl.NetXor, n, a, b, want, m)
			}
		}
	}
}

// TestNetMakeGreat asks some numbers of nets with many gates.
func TestNetMakeGreat(t *testing.T) {
	m := maker{seed: 67}
	for round := range 40 {
		n := m.net(2+round%7, 560+m.below(41))
		last := netMarks(n)
		for range 20 {
			a, b := m.number(last+1), m.number(last+1)
			want, k := andWanted(n, a, b)
			makes(t, "NetAnd", impl.NetAnd, n, a, b, want, k)
			want, k = xorWanted(n, a, b)
			makes(t, "NetXor", impl.NetXor, n, a, b, want, k)
		}
	}
}

// TestNetMakeSays asks, at every way in which the marks that come in may be, that what is made says what the two say, and that all that was there says what it said.
func TestNetMakeSays(t *testing.T) {
	m := maker{seed: 76}
	for _, n := range smallNets() {
		if n.Ins > 4 {
			for range 40 {
				makesRight(t, n, m.number(netMarks(n)), m.number(netMarks(n)))
			}
			continue
		}
		eachClause(markNumbers(n), 2, func(ab []int) {
			if len(ab) == 2 {
				makesRight(t, n, ab[0], ab[1])
			}
		})
	}
}

// markNumbers is all marks of a net, and these turned.
func markNumbers(n impl.Net) []int {
	list := []int{}
	for m := 1; m <= netMarks(n); m++ {
		list = append(list, m, -m)
	}
	return list
}

// makesRight asks that the nets that are made of two marks are right, and what they say.
func makesRight(t *testing.T, n impl.Net, a int, b int) {
	t.Helper()
	and, both := impl.NetAnd(n, a, b)
	xor, unlike := impl.NetXor(n, a, b)
	if !impl.NetOk(and) || !impl.NetOk(xor) || len(and.Gates) > len(n.Gates)+1 || len(xor.Gates) > len(n.Gates)+1 {
		t.Fatalf("not right: what is made of %v, %d and %d", n, a, b)
	}
	for _, ins := range allVals(n.Ins) {
		was, vals := impl.NetVals(n, ins), impl.NetVals(and, ins)
		if !slices.Equal(was, vals[:len(was)]) || impl.NetLit(vals, both) != (markSo(n, ins, a) && markSo(n, ins, b)) {
			t.Fatalf("NetAnd(%v, %d, %d) says something else at %v", n, a, b, ins)
		}
		vals = impl.NetVals(xor, ins)
		if !slices.Equal(was, vals[:len(was)]) || impl.NetLit(vals, unlike) != (markSo(n, ins, a) != markSo(n, ins, b)) {
			t.Fatalf("NetXor(%v, %d, %d) says something else at %v", n, a, b, ins)
		}
	}
}

// TestNetMakeWrong has nets that are not ok, and marks that a net has not.
func TestNetMakeWrong(t *testing.T) {
	for _, n := range wrongNets() {
		for _, ab := range [][2]int{{1, 1}, {1, -1}, {-1, 1}, {-1, -1}, {2, 2}, {2, -2}, {1, 2}, {2, -1}, {2, 3}, {-3, 2}, {0, 0}, {2, 0}, {math.MinInt, math.MinInt}, {-5, 4}} {
			refuses(t, n, ab[0], ab[1])
		}
		for _, gate := range n.Gates[:min(2, len(n.Gates))] {
			refuses(t, n, gate.A, gate.B)
		}
	}
	for _, n := range []impl.Net{{}, netOf(1), netOf(2), netOf(8), netOf(2, andGate(2, 3), xorGate(2, 4)), lineNet(2, 600), lineNet(8, 7)} {
		last := netMarks(n)
		for _, none := range []int{0, last + 1, -last - 1, last + 2, -last - 2, 701, math.MaxInt, math.MinInt, math.MinInt + 1, 1<<32 + 1, -1<<32 - 1} {
			for _, m := range []int{1, -1, 2, -2, last, -last, 0, none, -none} {
				refuses(t, n, none, m)
				refuses(t, n, m, none)
			}
		}
	}
}

func TestNetVals(t *testing.T) {
	n := netOf(2, andGate(2, 3), andGate(-2, 3), andGate(2, -3), andGate(-2, -3), xorGate(2, 3), xorGate(4, 8), andGate(-4, -7))
	valsAre(t, n, []bool{false, false}, []bool{true, false, false, false, false, false, true, false, false, false})
	valsAre(t, n, []bool{false, true}, []bool{true, false, true, false, true, false, false, true, true, true})
	valsAre(t, n, []bool{true, false}, []bool{true, true, false, false, false, true, false, true, true, true})
	valsAre(t, n, []bool{true, true}, []bool{true, true, true, true, false, false, false, false, true, false})
	valsAre(t, impl.Net{}, nil, []bool{true})
	valsAre(t, impl.Net{Gates: []impl.Gate{}}, []bool{}, []bool{true})
	valsAre(t, netOf(1), []bool{false}, []bool{true, false})
	valsAre(t, netOf(1), []bool{true}, []bool{true, true})
	valsAre(t, netOf(8), []bool{true, false, false, true, false, false, true, true}, []bool{true, true, false, false, true, false, false, true, true})
}

// TestNetValsAll holds what is told against each mark asked by itself, at every way in which marks may come in.
func TestNetValsAll(t *testing.T) {
	m := maker{seed: 68}
	nets := smallNets()
	for round := range 60 {
		nets = append(nets, m.net(round%9, m.below(90)))
	}
	for _, n := range nets {
		for _, ins := range allVals(n.Ins) {
			want := netValsWanted(n, ins)
			valsAre(t, n, ins, want)
			if len(n.Gates) > 20 {
				continue
			}
			for i, so := range want {
				if markSo(n, ins, i+1) != so {
					t.Errorf("the test itself is not sure of mark %d of %v", i+1, n)
				}
			}
		}
	}
	for ins := 2; ins <= 8; ins++ {
		for _, n := range []impl.Net{lineNet(ins, 600), xorNet(ins, 600), m.net(ins, 600), m.net(ins, 599)} {
			for _, way := range allVals(ins) {
				valsAre(t, n, way, netValsWanted(n, way))
			}
		}
	}
}

func TestNetValsWrong(t *testing.T) {
	m := maker{seed: 69}
	for ins := range 9 {
		for _, n := range []impl.Net{netOf(ins), m.net(ins, 5), m.net(ins, 600)} {
			for many := range 12 {
				vals := impl.NetVals(n, m.vals(many))
				if many == ins && len(vals) != netMarks(n) || many != ins && len(vals) != 0 {
					t.Errorf("NetVals with %d ins of %d: %d", many, ins, len(vals))
				}
			}
			noVals(t, n, m.vals(netMarks(n)))
			noVals(t, n, m.vals(700))
		}
	}
	for _, n := range wrongNets() {
		for many := range 12 {
			noVals(t, n, m.vals(many))
		}
	}
}

// TestNetLit asks any list and number.
func TestNetLit(t *testing.T) {
	odd := []int{0, math.MinInt, math.MinInt + 1, math.MaxInt, math.MaxInt - 1, 1 << 32, 1<<32 + 1, -1<<32 - 1, -1 << 32, 1 << 62}
	for _, vals := range [][]bool{nil, {}, {true}, {false}, {true, false}, {false, true}, {false, false, true}, {true, true, true, true}, {false, false, false}} {
		room := append(append([]bool{}, vals...), true, true, true)[:len(vals)]
		for m := -8; m <= 8; m++ {
			want := m > 0 && m <= len(vals) && vals[max(m-1, 0)] || m < 0 && -m <= len(vals) && !vals[max(-m-1, 0)]
			if impl.NetLit(vals, m) != want || impl.NetLit(room, m) != want {
				t.Errorf("NetLit(%v, %d) = %v", vals, m, !want)
			}
		}
		for _, m := range odd {
			if impl.NetLit(vals, m) {
				t.Errorf("NetLit(%v, %d)", vals, m)
			}
		}
	}
	for _, many := range []int{609, 700, 701, 2000} {
		vals := (&maker{seed: 70}).vals(many)
		for m := 1; m <= many; m++ {
			if impl.NetLit(vals, m) != vals[m-1] || impl.NetLit(vals, -m) == vals[m-1] {
				t.Errorf("NetLit of %d places, %d", many, m)
			}
		}
		for _, m := range append(odd, many+1, -many-1, many+2, -many-2) {
			if impl.NetLit(vals, m) {
				t.Errorf("NetLit of %d places, %d", many, m)
			}
		}
	}
}

// cnfIs asks for the clauses of a net, and that they are right ones.
func cnfIs(t *testing.T, n impl.Net, want impl.Cnf) {
	t.Helper()
	if c := impl.NetCnf(n); !impl.CnfSame(c, want) || !impl.CnfOk(c) {
		t.Errorf("NetCnf(%s) = %s, want %s", brief(n), brief(c), brief(want))
	}
}

func TestNetCnf(t *testing.T) {
	cnfIs(t, impl.Net{}, impl.Cnf{Many: 1, List: [][]int{{1}}})
	cnfIs(t, netOf(1), impl.Cnf{Many: 2, List: [][]int{{1}}})
	cnfIs(t, netOf(8), impl.Cnf{Many: 9, List: [][]int{{1}}})
	cnfIs(t, netOf(2, andGate(2, 3)), impl.Cnf{Many: 4, List: [][]int{{1}, {2, -4}, {3, -4}, {-2, -3, 4}}})
	cnfIs(t, netOf(2, andGate(-2, 3)), impl.Cnf{Many: 4, List: [][]int{{1}, {-2, -4}, {3, -4}, {2, -3, 4}}})
	cnfIs(t, netOf(2, andGate(2, -3)), impl.Cnf{Many: 4, List: [][]int{{1}, {2, -4}, {-3, -4}, {-2, 3, 4}}})
	cnfIs(t, netOf(2, andGate(-2, -3)), impl.Cnf{Many: 4, List: [][]int{{1}, {-2, -4}, {-3, -4}, {2, 3, 4}}})
	cnfIs(t, netOf(2, xorGate(2, 3)), impl.Cnf{Many: 4, List: [][]int{{1}, {2, 3, -4}, {-2, -3, -4}, {-2, 3, 4}, {2, -3, 4}}})
	cnfIs(t, netOf(3, xorGate(3, 4), andGate(-2, 5)), impl.Cnf{Many: 6, List: [][]int{{1}, {3, 4, -5}, {-3, -4, -5}, {-3, 4, 5}, {3, -4, 5}, {-2, -6}, {5, -6}, {2, -5, 6}}})
	cnfIs(t, netOf(3, andGate(-2, -4), xorGate(4, 5)), impl.Cnf{Many: 6, List: [][]int{{1}, {-2, -5}, {-4, -5}, {2, 4, 5}, {4, 5, -6}, {-4, -5, -6}, {-4, 5, 6}, {4, -5, 6}}})
	for _, n := range smallNets() {
		cnfIs(t, n, netCnfWanted(n))
	}
	m := maker{seed: 71}
	for ins := range 9 {
		for _, gates := range []int{30, 63, 64, 599, 600} {
			n := m.net(ins, gates)
			cnfIs(t, n, netCnfWanted(n))
		}
	}
	for _, n := range []impl.Net{lineNet(2, 600), lineNet(8, 600), xorNet(2, 600), xorNet(8, 600)} {
		cnfIs(t, n, netCnfWanted(n))
	}
	if c := impl.NetCnf(xorNet(8, 600)); c.Many != 609 || len(c.List) != 2401 {
		t.Errorf("the greatest net: %d marks, %d clauses", c.Many, len(c.List))
	}
}

func TestNetCnfWrong(t *testing.T) {
	for _, n := range wrongNets() {
		if c := impl.NetCnf(n); c.Many != 0 || len(c.List) != 0 {
			t.Errorf("NetCnf(%s) = %s", brief(n), brief(c))
		}
	}
}

// TestNetCnfTrue asks every way in which the marks of a small net may be: all clauses are met just at those that NetVals tells.
func TestNetCnfTrue(t *testing.T) {
	m := maker{seed: 72}
	nets := []impl.Net{}
	for ins := range 9 {
		nets = append(nets, netOf(ins))
	}
	for ins := 2; ins <= 4; ins++ {
		for _, gate := range gatesFor(2 + ins) {
			nets = append(nets, netOf(ins, gate))
		}
	}
	for round := range 150 {
		ins := 2 + round%7
		nets = append(nets, m.net(ins, 1+m.below(10-ins)))
	}
	for _, n := range nets {
		c, told := impl.NetCnf(n), 0
		for _, vals := range allVals(netMarks(n)) {
			says := slices.Equal(vals, impl.NetVals(n, vals[1:1+n.Ins]))
			if impl.CnfHas(c, vals) != says {
				t.Fatalf("%v: the clauses say something else of %v", n, vals)
			}
			if says {
				told++
			}
		}
		if told != 1<<n.Ins {
			t.Errorf("%v: %d ways", n, told)
		}
	}
}

// TestNetCnfTrueGreat has all clauses of great nets met at what NetVals tells, and not with one mark turned that does not come in.
func TestNetCnfTrueGreat(t *testing.T) {
	m := maker{seed: 73}
	for ins := 2; ins <= 8; ins++ {
		for _, n := range []impl.Net{m.net(ins, 600), lineNet(ins, 600), xorNet(ins, 600)} {
			c := impl.NetCnf(n)
			for range 3 {
				vals := impl.NetVals(n, m.vals(ins))
				if !impl.CnfHas(c, vals) {
					t.Errorf("%d marks come in: a clause is not met", ins)
				}
				for _, k := range []int{0, 1 + ins, 2 + ins, 300, len(vals) - 1, 1 + ins + m.below(600)} {
					vals[k] = !vals[k]
					if impl.CnfHas(c, vals) {
						t.Errorf("%d marks come in: all clauses are met with mark %d turned", ins, k+1)
					}
					vals[k] = !vals[k]
				}
			}
		}
	}
}

// TestNetCnfFound has a search find, of what comes in as a clause each tells it, all that the net says.
func TestNetCnfFound(t *testing.T) {
	m := maker{seed: 74}
	for ins := range 9 {
		for _, gates := range []int{0, 3, 40, 300} {
			n, way := m.net(ins, gates), m.vals(ins)
			c := impl.NetCnf(n)
			for i, so := range way {
				if so {
					c.List = append(c.List, []int{i + 2})
				} else {
					c.List = append(c.List, []int{-i - 2})
				}
			}
			s := impl.SatRun(c, impl.SatFuel)
			if s.Code != impl.SatYes || len(s.Learned) != 0 || !slices.Equal(impl.SatVals(c, s), impl.NetVals(n, way)) {
				t.Errorf("%d marks come in, %d gates: code %d", ins, gates, s.Code)
			}
		}
	}
}

// behindGates is what lies behind the end of a roomy net's gates.
func behindGates() []impl.Gate { return []impl.Gate{xorGate(777, -778), andGate(-779, 780)} }

// roomyNet is a net that is the same, whose gates have room behind their end, with something there.
func roomyNet(n impl.Net) impl.Net {
	return netOf(n.Ins, slices.Concat(n.Gates, behindGates())[:len(n.Gates)]...)
}

// stayedNet says whether a roomy net is as it was, with what lies behind its end.
func stayedNet(was impl.Net, n impl.Net) bool {
	return sameNet(was, n) && slices.Equal(n.Gates[:len(was.Gates)+2], slices.Concat(was.Gates, behindGates()))
}

// TestNetArgumentsStay asks that nothing is written into an argument, or behind its end.
func TestNetArgumentsStay(t *testing.T) {
	m := maker{seed: 75}
	for _, was := range append(append(smallNets(), wrongNets()...), lineNet(2, 599), lineNet(8, 600)) {
		n, vals := roomyNet(was), append(m.vals(min(max(was.Ins, 0), 20)), true, false)
		ins, wasVals := vals[:len(vals)-2], slices.Clone(vals)
		impl.NetOk(n)
		impl.NetSame(n, n)
		impl.NetSame(n, roomyNet(was))
		impl.NetVals(n, ins)
		impl.NetLit(ins, 1)
		impl.NetLit(ins, -2)
		impl.NetLit(ins, len(ins)+1)
		impl.NetCnf(n)
		for _, ab := range [][2]int{{1, 2}, {2, 2}, {3, 2}, {-2, 3}, {2, 4}, {-4, -3}, {5, -2}, {0, 0}} {
			impl.NetAnd(n, ab[0], ab[1])
			impl.NetXor(n, ab[0], ab[1])
		}
		if !stayedNet(was, n) || !slices.Equal(vals, wasVals) {
			t.Errorf("an argument was written into: %s", brief(was))
		}
	}
}

// TestNetMakeIsNew writes over all that an answer has memory for, and asks that nothing else has turned.
func TestNetMakeIsNew(t *testing.T) {
	for _, ask := range []netAnswer{impl.NetAnd, impl.NetXor} {
		for _, was := range append(smallNets(), lineNet(2, 599), lineNet(8, 600)) {
			n, last := roomyNet(was), netMarks(was)
			for _, ab := range [][2]int{{1, -1}, {1, last}, {last, last}, {last, -last}, {2, 3}, {-3, 2}, {-2, last}, {last - 1, last}} {
				want, _ := ask(n, ab[0], ab[1])
				want = copyNet(want)
				got, _ := ask(n, ab[0], ab[1])
				other, _ := ask(n, ab[0], ab[1])
				whole := got.Gates[:cap(got.Gates)]
				for i := range whole {
					whole[i] = xorGate(99, 99)
				}
				if !stayedNet(was, n) || !sameNet(other, want) {
					t.Errorf("an answer shares memory with an argument or another answer: %s, %v", brief(was), ab)
				}
				if again, _ := ask(n, ab[0], ab[1]); !sameNet(again, want) {
					t.Errorf("an answer shares memory with what is kept: %s, %v", brief(was), ab)
				}
			}
		}
	}
}

// TestNetCnfIsNew writes over each list of an answer, and asks that nothing else has turned.
func TestNetCnfIsNew(t *testing.T) {
	for _, was := range smallNets() {
		n, want := roomyNet(was), netCnfWanted(was)
		got, other := impl.NetCnf(n), impl.NetCnf(n)
		for i, clause := range got.List {
			whole := clause[:cap(clause)]
			for k := range whole {
				whole[k] = 99
			}
			if !slices.EqualFunc(got.List[i+1:], want.List[i+1:], slices.Equal) {
				t.Fatalf("two clauses of one answer share memory: %d of %v", i, want)
			}
		}
		whole := got.List[:cap(got.List)]
		for i := range whole {
			whole[i] = []int{98}
		}
		if !stayedNet(was, n) || !impl.CnfSame(other, want) || !impl.CnfSame(impl.NetCnf(n), want) {
			t.Errorf("an answer shares memory with something else: %v", was)
		}
	}
}

func TestNetValsIsNew(t *testing.T) {
	for _, was := range smallNets() {
		n, ins := roomyNet(was), append(make([]bool, was.Ins), false, false)
		want := netValsWanted(was, ins[:was.Ins])
		got, other := impl.NetVals(n, ins[:was.Ins]), impl.NetVals(n, ins[:was.Ins])
		whole := got[:cap(got)]
		for i := range whole {
			whole[i] = true
		}
		if slices.Contains(ins, true) || !stayedNet(was, n) || !slices.Equal(other, want) || !slices.Equal(impl.NetVals(n, ins[:was.Ins]), want) {
			t.Errorf("an answer shares memory with something else: %v", was)
		}
	}
}

// TestNetTwice asks that a net from which two others were made goes on alike: neither has what the other was given.
func TestNetTwice(t *testing.T) {
	n, _ := impl.NetAnd(netOf(3), 2, 3)
	n, _ = impl.NetXor(n, 3, 4)
	n, _ = impl.NetAnd(n, 5, 6)
	one, a := impl.NetAnd(n, 2, -7)
	two, b := impl.NetXor(n, 4, -7)
	if a != 8 || b != -8 || one.Gates[3] != andGate(2, -7) || two.Gates[3] != xorGate(4, 7) || len(n.Gates) != 3 {
		t.Error("two nets of one:", one, a, two, b, n)
	}
}

// TestNetAgain asks that nothing is kept from call to call.
func TestNetAgain(t *testing.T) {
	for range 3 {
		makes(t, "NetAnd", impl.NetAnd, netOf(2), 3, -2, netOf(2, andGate(-2, 3)), 4)
		makes(t, "NetXor", impl.NetXor, netOf(2), 3, -2, netOf(2, xorGate(2, 3)), -4)
		makes(t, "NetAnd", impl.NetAnd, netOf(3), 3, -2, netOf(3, andGate(-2, 3)), 5)
		refuses(t, netOf(2, andGate(2, 3), andGate(2, 3)), 2, 3)
		stays(t, "NetAnd", impl.NetAnd, netOf(2, andGate(2, 3)), 2, 3, 4)
		valsAre(t, netOf(2, andGate(-2, 3)), []bool{false, true}, []bool{true, false, true, true})
		noVals(t, netOf(2), nil)
		valsAre(t, netOf(2), []bool{false, true}, []bool{true, false, true})
		cnfIs(t, netOf(1), impl.Cnf{Many: 2, List: [][]int{{1}}})
	}
}
