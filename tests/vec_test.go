package tests

import (
	"math"
	"strings"
	"testing"

	"loop.example/seedlip/impl"
)

// allVecs is each number that is ok, written out by its bounds alone.
func allVecs() []impl.Vec {
	var list []impl.Vec
	for wide, many := range []int{0, 2, 4, 8, 16} {
		for n := range many {
			list = append(list, impl.Vec{Wide: wide, N: n})
		}
	}
	return list
}

// wrongVecs is numbers that are not ok, some just past a bound.
func wrongVecs() []impl.Vec {
	return []impl.Vec{
		{}, {Wide: 0, N: 1}, {Wide: -1, N: 0}, {Wide: 5, N: 0}, {Wide: 5, N: 17}, {Wide: 64, N: 1},
		{Wide: 1, N: 2}, {Wide: 2, N: 4}, {Wide: 3, N: 8}, {Wide: 4, N: 16},
		{Wide: 1, N: -1}, {Wide: 2, N: -1}, {Wide: 3, N: -1}, {Wide: 4, N: -1}, {Wide: 4, N: -8},
		{Wide: 4, N: math.MaxInt}, {Wide: 4, N: math.MinInt}, {Wide: 4, N: 1 << 32}, {Wide: 4, N: 1<<32 + 3},
		{Wide: math.MaxInt, N: 1}, {Wide: math.MinInt, N: 1}, {Wide: 1<<32 + 4, N: 1},
	}
}

// read is the number of a text that the test takes to be right.
func read(t *testing.T, text string) impl.Vec {
	t.Helper()
	a, ok := impl.VecRead(text)
	if !ok {
		t.Fatalf("VecRead(%q): not read", text)
	}
	return a
}

// digits is the bits of a number, the lowest first, taken by halving.
func digits(a impl.Vec) []int {
	list := make([]int, a.Wide)
	for i := range list {
		list[i] = a.N % 2
		a.N /= 2
	}
	return list
}

// number is the number of which these are the bits, the lowest first.
func number(list []int) impl.Vec {
	a := impl.Vec{Wide: len(list)}
	for i := len(list) - 1; i >= 0; i-- {
		a.N = a.N*2 + list[i]
	}
	return a
}

// power is 2 to that power.
func power(n int) int {
	p := 1
	for range n {
		p *= 2
	}
	return p
}

// sized is what is left of any number by 2 to the power of wide, from 0 on.
func sized(n int, wide int) impl.Vec {
	for n < 0 {
		n += power(wide)
	}
	return impl.Vec{Wide: wide, N: n % power(wide)}
}

// signed is a number whose highest bit counts below 0.
func signed(a impl.Vec) int {
	sum := 0
	for i, d := range digits(a) {
		if i == a.Wide-1 {
			d = -d
		}
		sum += d * power(i)
	}
	return sum
}

// bitwise is what a rule makes of the bits of two numbers.
func bitwise(a impl.Vec, b impl.Vec, rule func(x int, y int) int) impl.Vec {
	x, y := digits(a), digits(b)
	for i := range x {
		x[i] = rule(x[i], y[i])
	}
	return number(x)
}

// shifted moves bits one place at a time.
func shifted(a impl.Vec, times int, up bool, coming int) impl.Vec {
	list := digits(a)
	for range times {
		if up {
			list = append([]int{coming}, list[:len(list)-1]...)
		} else {
			list = append(list[1:], coming)
		}
	}
	return number(list)
}

// division counts how often b can be taken away.
func division(a impl.Vec, b impl.Vec) (impl.Vec, impl.Vec) {
	if b.N == 0 {
		return impl.Vec{Wide: a.Wide, N: power(a.Wide) - 1}, a
	}
	often, left := 0, a.N
	for left >= b.N {
		left -= b.N
		often++
	}
	return impl.Vec{Wide: a.Wide, N: often}, impl.Vec{Wide: a.Wide, N: left}
}

// wanted is what the document's table says of an op of two numbers.
func wanted(op int, a impl.Vec, b impl.Vec) impl.Vec {
	div, rem := division(a, b)
	switch op {
	case impl.OpAnd:
		return bitwise(a, b, func(x int, y int) int { return x * y })
	case impl.OpOr:
		return bitwise(a, b, func(x int, y int) int { return max(x, y) })
	case impl.OpXor:
		return bitwise(a, b, func(x int, y int) int { return (x + y) % 2 })
	case impl.OpAdd:
		return sized(a.N+b.N, a.Wide)
	case impl.OpSub:
		return sized(a.N-b.N, a.Wide)
	case impl.OpMul:
		return sized(a.N*b.N, a.Wide)
	case impl.OpDiv:
		return div
	case impl.OpRem:
		return rem
	case impl.OpShl:
		return shifted(a, b.N, true, 0)
	case impl.OpShr:
		return shifted(a, b.N, false, 0)
	case impl.OpSar:
		return shifted(a, b.N, false, digits(a)[a.Wide-1])
	}
	panic("no op of two numbers of as many bits")
}

func TestVecConstants(t *testing.T) {
	ops := []int{impl.OpNot, impl.OpNeg, impl.OpAnd, impl.OpOr, impl.OpXor, impl.OpAdd, impl.OpSub, impl.OpMul, impl.OpDiv, impl.OpRem,
		impl.OpShl, impl.OpShr, impl.OpSar, impl.OpCat, impl.OpSame, impl.OpLess, impl.OpUnder}
	for i, op := range ops {
		if op != i+1 {
			t.Errorf("op at place %d is %d", i, op)
		}
	}
	if impl.WideMost != 4 {
		t.Error("WideMost", impl.WideMost)
	}
}

func TestVecOk(t *testing.T) {
	for _, a := range allVecs() {
		if !impl.VecOk(a) {
			t.Error("not ok:", a)
		}
	}
	for _, a := range wrongVecs() {
		if impl.VecOk(a) {
			t.Error("ok:", a)
		}
	}
}

func TestVecSigned(t *testing.T) {
	for i, want := range []int{0, 1, 2, 3, 4, 5, 6, 7, -8, -7, -6, -5, -4, -3, -2, -1} {
		if got := impl.VecSigned(impl.Vec{Wide: 4, N: i}); got != want {
			t.Errorf("VecSigned of %d: %d, want %d", i, got, want)
		}
	}
	for _, a := range allVecs() {
		if got := impl.VecSigned(a); got != signed(a) {
			t.Errorf("VecSigned(%v) = %d, want %d", a, got, signed(a))
		}
	}
	for _, a := range wrongVecs() {
		if got := impl.VecSigned(a); got != 0 {
			t.Errorf("VecSigned(%v) = %d", a, got)
		}
	}
}

func TestVecUnWritten(t *testing.T) {
	for _, c := range []struct {
		op   int
		a, s string
	}{
		{impl.OpNot, "#1010", "#0101"}, {impl.OpNot, "#0", "#1"}, {impl.OpNot, "#1", "#0"}, {impl.OpNot, "#110", "#001"}, {impl.OpNot, "#0000", "#1111"},
		{impl.OpNeg, "#0011", "#1101"}, {impl.OpNeg, "#0000", "#0000"}, {impl.OpNeg, "#1111", "#0001"}, {impl.OpNeg, "#01", "#11"},
		// the least number with a sign, taken from 0, is itself
		{impl.OpNeg, "#1", "#1"}, {impl.OpNeg, "#10", "#10"}, {impl.OpNeg, "#100", "#100"}, {impl.OpNeg, "#1000", "#1000"},
	} {
		got, ok := impl.VecUn(c.op, read(t, c.a))
		if !ok || impl.VecText(got) != c.s {
			t.Errorf("VecUn(%d, %s) = %v, %v, want %s", c.op, c.a, got, ok, c.s)
		}
	}
}

func TestVecBinWritten(t *testing.T) {
	for _, c := range []struct {
		op      int
		a, b, s string
	}{
		{impl.OpAnd, "#1100", "#1010", "#1000"}, {impl.OpOr, "#1100", "#1010", "#1110"}, {impl.OpXor, "#1100", "#1010", "#0110"},
		{impl.OpAdd, "#0011", "#0100", "#0111"}, {impl.OpAdd, "#1111", "#0001", "#0000"}, {impl.OpAdd, "#1", "#1", "#0"},
		{impl.OpSub, "#0111", "#0010", "#0101"}, {impl.OpSub, "#0000", "#0001", "#1111"}, {impl.OpSub, "#0000", "#1000", "#1000"},
		{impl.OpMul, "#0011", "#0101", "#1111"}, {impl.OpMul, "#1111", "#1111", "#0001"}, {impl.OpMul, "#1000", "#0010", "#0000"},
		{impl.OpDiv, "#1110", "#0100", "#0011"}, {impl.OpRem, "#1110", "#0100", "#0010"}, {impl.OpDiv, "#0011", "#0100", "#0000"}, {impl.OpRem, "#0011", "#0100", "#0011"},
		// divided by 0
		{impl.OpDiv, "#0000", "#0000", "#1111"}, {impl.OpRem, "#0000", "#0000", "#0000"}, {impl.OpDiv, "#0110", "#0000", "#1111"}, {impl.OpRem, "#0110", "#0000", "#0110"},
		{impl.OpDiv, "#0", "#0", "#1"}, {impl.OpRem, "#1", "#0", "#1"}, {impl.OpDiv, "#101", "#000", "#111"},
		{impl.OpShl, "#0011", "#0001", "#0110"}, {impl.OpShl, "#1001", "#0011", "#1000"}, {impl.OpShr, "#1100", "#0010", "#0011"},
		{impl.OpSar, "#1100", "#0001", "#1110"}, {impl.OpSar, "#0100", "#0001", "#0010"}, {impl.OpSar, "#1000", "#0011", "#1111"},
		// shifted by as many bits as there are, or more
		{impl.OpShl, "#1111", "#0100", "#0000"}, {impl.OpShl, "#1111", "#1111", "#0000"}, {impl.OpShr, "#1111", "#0100", "#0000"}, {impl.OpShr, "#1111", "#1111", "#0000"},
		{impl.OpSar, "#1000", "#0100", "#1111"}, {impl.OpSar, "#1000", "#1111", "#1111"}, {impl.OpSar, "#0111", "#0100", "#0000"}, {impl.OpSar, "#0111", "#1111", "#0000"},
		{impl.OpShl, "#1", "#1", "#0"}, {impl.OpShr, "#1", "#1", "#0"}, {impl.OpSar, "#1", "#1", "#1"}, {impl.OpSar, "#10", "#11", "#11"},
		{impl.OpCat, "#1", "#0", "#10"}, {impl.OpCat, "#110", "#0", "#1100"}, {impl.OpCat, "#1", "#011", "#1011"}, {impl.OpCat, "#00", "#01", "#0001"},
	} {
		got, ok := impl.VecBin(c.op, read(t, c.a), read(t, c.b))
		if !ok || impl.VecText(got) != c.s {
			t.Errorf("VecBin(%d, %s, %s) = %v, %v, want %s", c.op, c.a, c.b, got, ok, c.s)
		}
	}
}

func TestVecCmpWritten(t *testing.T) {
	for _, c := range []struct {
		op   int
		a, b string
		want bool
	}{
		{impl.OpSame, "#0101", "#0101", true}, {impl.OpSame, "#0101", "#0100", false}, {impl.OpSame, "#0", "#0", true},
		{impl.OpLess, "#0111", "#1000", true}, {impl.OpLess, "#1000", "#0111", false}, {impl.OpLess, "#0011", "#0011", false},
		{impl.OpUnder, "#0111", "#1000", false}, {impl.OpUnder, "#1000", "#0111", true}, {impl.OpUnder, "#1111", "#0000", true},
		{impl.OpUnder, "#1000", "#1111", true}, {impl.OpUnder, "#0001", "#0010", true}, {impl.OpUnder, "#1010", "#1010", false}, {impl.OpUnder, "#1", "#0", true},
	} {
		got, ok := impl.VecCmp(c.op, read(t, c.a), read(t, c.b))
		if !ok || got != c.want {
			t.Errorf("VecCmp(%d, %s, %s) = %v, %v, want %v", c.op, c.a, c.b, got, ok, c.want)
		}
	}
}

// TestVecUnAll holds each answer against the table of chapter 1, reckoned another way.
func TestVecUnAll(t *testing.T) {
	for _, a := range allVecs() {
		turned := bitwise(a, a, func(x int, _ int) int { return 1 - x })
		if got, ok := impl.VecUn(impl.OpNot, a); !ok || got != turned {
			t.Errorf("not %v = %v, %v", a, got, ok)
		}
		if got, ok := impl.VecUn(impl.OpNeg, a); !ok || got != sized(-a.N, a.Wide) {
			t.Errorf("neg %v = %v, %v", a, got, ok)
		}
	}
}

func TestVecBinAll(t *testing.T) {
	for _, a := range allVecs() {
		for _, b := range allVecs() {
			for op := impl.OpAnd; op <= impl.OpSar; op++ {
				want, can := impl.Vec{}, a.Wide == b.Wide
				if can {
					want = wanted(op, a, b)
				}
				if got, ok := impl.VecBin(op, a, b); ok != can || got != want {
					t.Errorf("VecBin(%d, %v, %v) = %v, %v, want %v, %v", op, a, b, got, ok, want, can)
				}
			}
		}
	}
}

func TestVecCatAll(t *testing.T) {
	for _, a := range allVecs() {
		for _, b := range allVecs() {
			want, can := impl.Vec{}, a.Wide+b.Wide <= 4
			if can {
				want = number(append(digits(b), digits(a)...))
			}
			if got, ok := impl.VecBin(impl.OpCat, a, b); ok != can || got != want {
				t.Errorf("cat %v %v = %v, %v, want %v, %v", a, b, got, ok, want, can)
			}
		}
	}
}

func TestVecCmpAll(t *testing.T) {
	for _, a := range allVecs() {
		for _, b := range allVecs() {
			can := a.Wide == b.Wide
			answers := []bool{a.N == b.N, a.N < b.N, signed(a) < signed(b)}
			for i, answer := range answers {
				op := impl.OpSame + i
				if got, ok := impl.VecCmp(op, a, b); ok != can || got != (can && answer) {
					t.Errorf("VecCmp(%d, %v, %v) = %v, %v", op, a, b, got, ok)
				}
			}
		}
	}
}

func TestVecCutAll(t *testing.T) {
	for _, a := range allVecs() {
		for hi := -2; hi <= 6; hi++ {
			for lo := -2; lo <= 6; lo++ {
				want, can := impl.Vec{}, 0 <= lo && lo <= hi && hi < a.Wide
				if can {
					want = number(digits(a)[lo : hi+1])
				}
				if got, ok := impl.VecCut(a, hi, lo); ok != can || got != want {
					t.Errorf("VecCut(%v, %d, %d) = %v, %v, want %v, %v", a, hi, lo, got, ok, want, can)
				}
			}
		}
	}
}

// do is VecBin of numbers that the test takes to be right.
func do(t *testing.T, op int, a impl.Vec, b impl.Vec) impl.Vec {
	t.Helper()
	c, ok := impl.VecBin(op, a, b)
	if !ok || !impl.VecOk(c) {
		t.Fatalf("VecBin(%d, %v, %v) = %v, %v", op, a, b, c, ok)
	}
	return c
}

// TestVecTogether asks that what is done to numbers goes together (promise 1).
func TestVecTogether(t *testing.T) {
	for _, a := range allVecs() {
		zero := impl.Vec{Wide: a.Wide}
		turned, _ := impl.VecUn(impl.OpNot, a)
		less, _ := impl.VecUn(impl.OpNeg, a)
		if do(t, impl.OpAdd, a, less) != zero || do(t, impl.OpSub, zero, a) != less {
			t.Error("neg:", a)
		}
		if do(t, impl.OpAdd, turned, impl.Vec{Wide: a.Wide, N: 1}) != less {
			t.Error("not and neg:", a)
		}
		for _, b := range allVecs() {
			if a.Wide == b.Wide {
				pairTogether(t, a, b)
			}
		}
		for cut := 1; cut < a.Wide; cut++ {
			high, _ := impl.VecCut(a, a.Wide-1, cut)
			low, _ := impl.VecCut(a, cut-1, 0)
			if do(t, impl.OpCat, high, low) != a {
				t.Error("cut and cat:", a, cut)
			}
		}
	}
}

func pairTogether(t *testing.T, a impl.Vec, b impl.Vec) {
	t.Helper()
	if do(t, impl.OpSub, do(t, impl.OpAdd, a, b), b) != a {
		t.Error("add and sub:", a, b)
	}
	if do(t, impl.OpAdd, do(t, impl.OpMul, do(t, impl.OpDiv, a, b), b), do(t, impl.OpRem, a, b)) != a {
		t.Error("div, mul and rem:", a, b)
	}
	if do(t, impl.OpAdd, do(t, impl.OpAnd, a, b), do(t, impl.OpOr, a, b)) != do(t, impl.OpAdd, a, b) {
		t.Error("and, or and add:", a, b)
	}
	if do(t, impl.OpXor, do(t, impl.OpXor, a, b), b) != a {
		t.Error("xor:", a, b)
	}
	for op := impl.OpLess; op <= impl.OpUnder; op++ {
		same, _ := impl.VecCmp(impl.OpSame, a, b)
		one, _ := impl.VecCmp(op, a, b)
		other, _ := impl.VecCmp(op, b, a)
		if same && (one || other) || !same && one == other {
			t.Error("same and less or under:", op, a, b)
		}
	}
}

func TestVecText(t *testing.T) {
	for _, c := range []struct {
		a    impl.Vec
		text string
	}{
		{impl.Vec{Wide: 1, N: 0}, "#0"}, {impl.Vec{Wide: 1, N: 1}, "#1"}, {impl.Vec{Wide: 2, N: 2}, "#10"}, {impl.Vec{Wide: 3, N: 1}, "#001"},
		{impl.Vec{Wide: 4, N: 0}, "#0000"}, {impl.Vec{Wide: 4, N: 13}, "#1101"}, {impl.Vec{Wide: 4, N: 8}, "#1000"}, {impl.Vec{Wide: 4, N: 15}, "#1111"},
	} {
		if got := impl.VecText(c.a); got != c.text {
			t.Errorf("VecText(%v) = %q, want %q", c.a, got, c.text)
		}
		if got, ok := impl.VecRead(c.text); !ok || got != c.a {
			t.Errorf("VecRead(%q) = %v, %v, want %v", c.text, got, ok, c.a)
		}
	}
	for _, a := range wrongVecs() {
		if got := impl.VecText(a); got != "" {
			t.Errorf("VecText(%v) = %q", a, got)
		}
	}
}

func TestVecReadBack(t *testing.T) {
	seen := map[string]impl.Vec{}
	for _, a := range allVecs() {
		text := impl.VecText(a)
		if other, met := seen[text]; met {
			t.Errorf("%v and %v are both written %q", a, other, text)
		}
		seen[text] = a
		if got, ok := impl.VecRead(text); !ok || got != a {
			t.Errorf("VecRead(%q) = %v, %v, want %v", text, got, ok, a)
		}
	}
	// Every short text of these letters is read just if it was written above.
	texts := []string{""}
	for range 6 {
		for _, text := range texts {
			a, met := seen[text]
			if got, ok := impl.VecRead(text); ok != met || got != a {
				t.Errorf("VecRead(%q) = %v, %v, want %v, %v", text, got, ok, a, met)
			}
		}
		var longer []string
		for _, text := range texts {
			for _, letter := range []string{"#", "0", "1", "2", " ", "/", "\xff"} {
				longer = append(longer, text+letter)
			}
		}
		texts = longer
	}
}

func TestVecReadWrong(t *testing.T) {
	for _, text := range []string{
		"", "#", "##", "0", "1", "01", "#2", "#00000", "#11111", "#0 ", " #0", "# 0", "#0\n", "#0\x00", "\x00", "#-1", "#+1", "#1#", "b1", "#b1",
		"\xff", "#\xff", "#1\xff", "\xff#1", "#１", "#٠", "＃1", "#é", "\xef\xbb\xbf#1", "#\x80\x80", "#0x1", "#true",
		"#" + strings.Repeat("0", 64), "#" + strings.Repeat("1", 65), strings.Repeat("#", 100000), "#" + strings.Repeat("01", 100000),
	} {
		if got, ok := impl.VecRead(text); ok || got != (impl.Vec{}) {
			t.Errorf("VecRead(%.20q) = %v, %v", text, got, ok)
		}
	}
}

// TestVecOtherOp asks for ops that another function knows, or none does.
func TestVecOtherOp(t *testing.T) {
	a, b := impl.Vec{Wide: 2, N: 3}, impl.Vec{Wide: 2, N: 1}
	ops := []int{math.MinInt, math.MaxInt, -1, -17, 100, 1<<32 + 1, 1<<32 + 6, 1<<32 + 15}
	for op := 0; op <= 30; op++ {
		ops = append(ops, op)
	}
	for _, op := range ops {
		un, ok := impl.VecUn(op, a)
		if can := op == 1 || op == 2; ok != can || !can && un != (impl.Vec{}) {
			t.Errorf("VecUn(%d) = %v, %v", op, un, ok)
		}
		bin, ok := impl.VecBin(op, a, b)
		if can := 3 <= op && op <= 14; ok != can || !can && bin != (impl.Vec{}) {
			t.Errorf("VecBin(%d) = %v, %v", op, bin, ok)
		}
		// An op that would be true of these two numbers, were it known.
		for _, second := range []impl.Vec{a, b} {
			cmp, ok := impl.VecCmp(op, a, second)
			if can := 15 <= op && op <= 17; ok != can || !can && cmp {
				t.Errorf("VecCmp(%d) = %v, %v", op, cmp, ok)
			}
		}
	}
}

// TestVecWrongNumbers has a number that is not ok on either side of each op.
func TestVecWrongNumbers(t *testing.T) {
	for _, bad := range wrongVecs() {
		seconds := append(allVecs(), bad)
		for op := impl.OpNot; op <= impl.OpNeg; op++ {
			if got, ok := impl.VecUn(op, bad); ok || got != (impl.Vec{}) {
				t.Errorf("VecUn(%d, %v) = %v, %v", op, bad, got, ok)
			}
		}
		for _, b := range seconds {
			for op := impl.OpAnd; op <= impl.OpCat; op++ {
				one, ok := impl.VecBin(op, bad, b)
				other, too := impl.VecBin(op, b, bad)
				if ok || too || one != (impl.Vec{}) || other != (impl.Vec{}) {
					t.Errorf("VecBin(%d) of %v and %v: %v, %v", op, bad, b, one, other)
				}
			}
			for op := impl.OpSame; op <= impl.OpUnder; op++ {
				one, ok := impl.VecCmp(op, bad, b)
				other, too := impl.VecCmp(op, b, bad)
				if ok || too || one || other {
					t.Errorf("VecCmp(%d) of %v and %v: %v, %v", op, bad, b, one, other)
				}
			}
		}
		for hi := -1; hi <= 5; hi++ {
			for lo := -1; lo <= 5; lo++ {
				if got, ok := impl.VecCut(bad, hi, lo); ok || got != (impl.Vec{}) {
					t.Errorf("VecCut(%v, %d, %d) = %v, %v", bad, hi, lo, got, ok)
				}
			}
		}
	}
}

func TestVecCutWrong(t *testing.T) {
	a := impl.Vec{Wide: 4, N: 13}
	for _, c := range [][2]int{{4, 0}, {0, -1}, {1, 2}, {-1, -1}, {4, 4}, {math.MaxInt, 0}, {math.MaxInt, math.MaxInt}, {0, math.MinInt}, {math.MinInt, math.MinInt}, {math.MinInt, 0}, {0, math.MaxInt}, {math.MaxInt, math.MinInt}} {
		if got, ok := impl.VecCut(a, c[0], c[1]); ok || got != (impl.Vec{}) {
			t.Errorf("VecCut(%v, %d, %d) = %v, %v", a, c[0], c[1], got, ok)
		}
	}
	for _, c := range []struct {
		hi, lo int
		text   string
	}{{3, 0, "#1101"}, {2, 1, "#10"}, {3, 3, "#1"}, {1, 1, "#0"}, {0, 0, "#1"}, {3, 2, "#11"}} {
		if got, ok := impl.VecCut(a, c.hi, c.lo); !ok || impl.VecText(got) != c.text {
			t.Errorf("VecCut(%v, %d, %d) = %v, %v, want %s", a, c.hi, c.lo, got, ok, c.text)
		}
	}
}
