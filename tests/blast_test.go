package tests

import (
	"math"
	"slices"
	"strings"
	"testing"
	"time"

	"loop.example/seedlip/impl"
)

// Terms of two names of 4 bits, x and y, that need as many gates as there may be, or one less or one more.
const (
	gates599 = "(same (div (div (div x y) y) x) (div (xor x x) (not x)))"
	gates600 = "(same (div (div x y) x) (div (div x x) (shl y y)))"
	bits600  = "(or (div (div x y) x) (div (div x x) (div x x)))"
	gates601 = "(less (div (div (div x y) y) x) (div (xor x y) (add x x)))"
	bits601  = "(sub (div (div x y) x) (div (div y x) (add x x)))"
	tooMuch  = "(div (div (div (div x y) x) y) x)"
)

// declBits is how many bits all names have.
func declBits(d []impl.Decl) int {
	bits := 0
	for _, decl := range d {
		bits += decl.Wide
	}
	return bits
}

// nameMarks is the marks of a name, the lowest bit's first. They are numbered from 2 on, each name's highest bit first.
func nameMarks(d []impl.Decl, name string) []int {
	first := 2
	for _, decl := range d {
		if decl.Name == name {
			return reversed(marksFrom(first, decl.Wide))
		}
		first += decl.Wide
	}
	panic("no such name")
}

// blasted is the marks of a term that is right, as the document asks for them: Kids first, in order, each as if it had not been met.
func (g *grower) blasted(d []impl.Decl, x impl.Term) []int {
	k := [][]int{}
	for _, kid := range x.Kids {
		k = append(k, g.blasted(d, kid))
	}
	switch x.Op {
	case 20:
		return fixedRow(impl.Vec{Wide: x.A, N: x.B})
	case 21:
		return nameMarks(d, x.Name)
	case 24:
		return []int{1}
	case 25:
		return []int{-k[0][0]}
	case 26:
		return []int{g.and(k[0][0], k[1][0])}
	case 27:
		return []int{g.or(k[0][0], k[1][0])}
	case 22:
		return k[0][x.B : x.A+1]
	case 23:
		return bitsCall{op: impl.TermIf, c: k[0][0], a: k[1], b: k[2]}.grown(g)
	case 1, 2:
		return bitsCall{op: x.Op, a: k[0]}.grown(g)
	}
	return bitsCall{op: x.Op, a: k[0], b: k[1]}.grown(g)
}

// blastWanted is the net and the marks of a term that is right, and nothing, if there is no room for a gate.
func blastWanted(d []impl.Decl, x impl.Term) (impl.Net, []int) {
	g := grower{net: netOf(declBits(d))}
	marks := g.blasted(d, x)
	if g.lost {
		return impl.Net{}, nil
	}
	return g.net, marks
}

// blastCnfWanted is the net and the clauses of terms that are right and true or not, and false, if there is no room for a gate.
func blastCnfWanted(d []impl.Decl, list []impl.Term) (impl.Net, impl.Cnf, bool) {
	g, marks := grower{net: netOf(declBits(d))}, []int{}
	for _, x := range list {
		marks = append(marks, g.blasted(d, x)...)
	}
	if g.lost {
		return impl.Net{}, impl.Cnf{}, false
	}
	c := netCnfWanted(g.net)
	for _, m := range marks {
		c.List = append(c.List, []int{m})
	}
	return g.net, c, true
}

// insWanted is what comes in for numbers for names, by their digits.
func insWanted(d []impl.Decl, env []int) []bool {
	ins := []bool{}
	for i, decl := range d {
		for _, digit := range reversed(digits(impl.Vec{Wide: decl.Wide, N: env[i]})) {
			ins = append(ins, digit == 1)
		}
	}
	return ins
}

// allDecls is names of 1 to 4 bits, up to 4 of them and up to 8 bits together, in each order of sizes. The first is not the first by its letter.
func allDecls() [][]impl.Decl {
	list := [][]impl.Decl{nil}
	for i := 0; i < len(list); i++ {
		d := list[i]
		for wide := 1; wide <= 4 && len(d) < 4 && declBits(d)+wide <= 8; wide++ {
			list = append(list, append(slices.Clone(d), impl.Decl{Name: strings.Repeat(string(rune('d'-len(d))), wide), Wide: wide}))
		}
	}
	return list
}

// blastTells asks for the net behind a term, gate by gate, and for its marks; it is what was told.
func blastTells(t *testing.T, d []impl.Decl, x impl.Term) (impl.Net, []int) {
	t.Helper()
	net, marks := impl.Blast(d, x)
	want, wantMarks := blastWanted(d, x)
	if !sameNet(net, want) || !slices.Equal(marks, wantMarks) {
		t.Fatalf("Blast(%s): %s, %v, want %s, %v", impl.TermText(d, x), brief(net.Gates), marks, brief(want.Gates), wantMarks)
	}
	return net, marks
}

// blasts asks all that promise 8 says of the net of a sample, with all numbers for its names.
func blasts(t *testing.T, d []impl.Decl, s sample) {
	t.Helper()
	net, marks := blastTells(t, d, s.t)
	if len(marks) != max(1, s.sort) || !impl.NetOk(net) || net.Ins != declBits(d) {
		t.Fatalf("Blast(%s): %s, %v", s.text, brief(net), marks)
	}
	for _, env := range envsWanted(d) {
		is := s.is(env).N
		if n, ok := impl.TermEval(d, s.t, env); !ok || n != is {
			t.Fatalf("TermEval(%s, %v) = %d, %v, want %d", s.text, env, n, ok, is)
		}
		if n := impl.BitsVal(impl.NetVals(net, impl.BlastIns(d, env)), marks); n != is {
			t.Fatalf("the net of %s says %d at %v, want %d", s.text, n, env, is)
		}
		if n := saidBy(netValsWanted(net, insWanted(d, env)), marks).N; n != is {
			t.Fatalf("the net of %s is %d at %v, want %d", s.text, n, env, is)
		}
	}
}

// noBlast asks that a term has no net, and no clauses, wherever it stands among others.
func noBlast(t *testing.T, d []impl.Decl, x impl.Term, why string) {
	t.Helper()
	if net, marks := impl.Blast(d, x); !sameNet(net, impl.Net{}) || len(marks) != 0 {
		t.Errorf("%s: Blast = %s, %v", why, brief(net), marks)
	}
	noBlastCnf(t, d, []impl.Term{x}, why)
	noBlastCnf(t, d, []impl.Term{{Op: 24}, x}, why)
	noBlastCnf(t, d, []impl.Term{x, {Op: 24}}, why)
}

// noBlastCnf asks that terms have no clauses.
func noBlastCnf(t *testing.T, d []impl.Decl, list []impl.Term, why string) {
	t.Helper()
	if c, ok := impl.BlastCnf(d, list); ok || !impl.CnfSame(c, impl.Cnf{}) {
		t.Errorf("%s: BlastCnf = %s, %v", why, brief(c), ok)
	}
}

// blastCnfs asks for the clauses of samples that are true or not, and that they are true of a way just if all samples are; it is the clauses, and the ways in which all are true.
func blastCnfs(t *testing.T, d []impl.Decl, samples ...sample) (impl.Cnf, [][]int) {
	t.Helper()
	list, texts, ways := []impl.Term{}, []string{}, [][]int{}
	for _, s := range samples {
		list, texts = append(list, s.t), append(texts, s.text)
	}
	net, want, room := blastCnfWanted(d, list)
	c, ok := impl.BlastCnf(d, list)
	if ok != room || !impl.CnfSame(c, want) {
		t.Fatalf("BlastCnf(%v) = %s, %v, want %s, %v", texts, brief(c), ok, brief(want), room)
	}
	if !ok {
		return c, nil
	}
	if !impl.CnfOk(c) || len(c.List) != len(impl.NetCnf(net).List)+len(list) {
		t.Fatalf("BlastCnf(%v): %s is not right", texts, brief(c))
	}
	for _, env := range envsWanted(d) {
		all := !slices.ContainsFunc(samples, func(s sample) bool { return s.is(env) != yes(true) })
		if all {
			ways = append(ways, env)
		}
		if is := impl.CnfHas(c, impl.NetVals(net, impl.BlastIns(d, env))); is != all {
			t.Fatalf("the clauses of %v are %v at %v, want %v", texts, is, env, all)
		}
	}
	return c, ways
}

// termOf reads a term.
func termOf(t *testing.T, d []impl.Decl, text string) impl.Term {
	t.Helper()
	x, ok := impl.TermRead(d, text)
	if !ok {
		t.Fatal("not read:", text)
	}
	return x
}

// sampleOf is a sample that is read; what it is TermEval tells.
func sampleOf(t *testing.T, d []impl.Decl, text string) sample {
	t.Helper()
	x := termOf(t, d, text)
	sort := impl.TermSort(d, x)
	is := func(env []int) impl.Vec {
		n, _ := impl.TermEval(d, x, env)
		return impl.Vec{Wide: sort, N: n}
	}
	return sample{x, text, is, sort}
}

// termsOf reads terms.
func termsOf(t *testing.T, d []impl.Decl, texts ...string) []impl.Term {
	t.Helper()
	list := []impl.Term{}
	for _, text := range texts {
		list = append(list, termOf(t, d, text))
	}
	return list
}

// twoNames is x and y, of as many bits.
func twoNames(wide int) []impl.Decl {
	return []impl.Decl{{Name: "x", Wide: wide}, {Name: "y", Wide: wide}}
}

func TestBlastConstants(t *testing.T) {
	if impl.AssertMost != 8 {
		t.Error("AssertMost is", impl.AssertMost)
	}
}

// TestBlastInsWritten has what comes in written by hand, each name's highest bit first.
func TestBlastInsWritten(t *testing.T) {
	for _, c := range []struct {
		wides, env []int
		ins        string
	}{
		{nil, nil, ""}, {[]int{1}, []int{0}, "0"}, {[]int{1}, []int{1}, "1"}, {[]int{2}, []int{1}, "01"}, {[]int{2}, []int{2}, "10"}, {[]int{4}, []int{8}, "1000"}, {[]int{4}, []int{1}, "0001"}, {[]int{4}, []int{14}, "1110"},
		{[]int{4, 4}, []int{8, 1}, "10000001"}, {[]int{4, 4}, []int{1, 8}, "00011000"}, {[]int{4, 4}, []int{3, 13}, "00111101"}, {[]int{1, 1}, []int{1, 0}, "10"}, {[]int{1, 2}, []int{1, 1}, "101"}, {[]int{2, 1}, []int{1, 1}, "011"}, {[]int{3, 1, 4}, []int{4, 1, 2}, "10010010"},
		{[]int{1, 1, 1, 1}, []int{0, 1, 0, 0}, "0100"}, {[]int{2, 2, 2, 2}, []int{0, 1, 2, 3}, "00011011"}, {[]int{1, 4, 1, 2}, []int{0, 9, 1, 2}, "01001110"},
	} {
		d, want := []impl.Decl{}, []bool{}
		for i, wide := range c.wides {
			d = append(d, impl.Decl{Name: string(rune('z' - i)), Wide: wide})
		}
		for _, r := range c.ins {
			want = append(want, r == '1')
		}
		if ins := impl.BlastIns(d, c.env); !slices.Equal(ins, want) {
			t.Errorf("BlastIns(%v, %v) = %v, want %s", d, c.env, ins, c.ins)
		}
		if env := impl.BlastEnv(d, want); !slices.Equal(env, c.env) {
			t.Errorf("BlastEnv(%v, %s) = %v, want %v", d, c.ins, env, c.env)
		}
	}
}

// TestBlastInsAll has all numbers for names of all sizes, and all that may come in: each is the other's way back.
func TestBlastInsAll(t *testing.T) {
	for _, d := range allDecls() {
		envs, vals := envsWanted(d), allVals(declBits(d))
		if len(envs) != len(vals) {
			t.Fatal("the test itself is not sure of", d)
		}
		for k, env := range envs {
			ins := impl.BlastIns(d, env)
			if !slices.Equal(ins, insWanted(d, env)) || !slices.Equal(ins, vals[k]) {
				t.Errorf("BlastIns(%v, %v) = %v, want %v", d, env, ins, insWanted(d, env))
			}
			if back := impl.BlastEnv(d, insWanted(d, env)); !slices.Equal(back, env) {
				t.Errorf("BlastEnv(%v) = %v, want %v", ins, back, env)
			}
			if again := impl.BlastIns(d, impl.BlastEnv(d, vals[k])); !slices.Equal(again, vals[k]) {
				t.Errorf("BlastIns of BlastEnv(%v, %v) = %v", d, vals[k], again)
			}
		}
	}
}

// TestBlastInsWrong has numbers that are not ok, and not as many of what comes in.
func TestBlastInsWrong(t *testing.T) {
	for _, d := range allDecls() {
		zeros := make([]int, len(d))
		for i, decl := range d {
			for _, wrong := range []int{-1, power(decl.Wide), power(decl.Wide) + 1, 16, -power(decl.Wide), math.MaxInt, math.MinInt, 1 << 32} {
				env := slices.Clone(zeros)
				env[i] = wrong
				if ins := impl.BlastIns(d, env); len(ins) != 0 {
					t.Errorf("BlastIns(%v, %v) = %v", d, env, ins)
				}
			}
		}
		for size := range 7 {
			if ins := impl.BlastIns(d, make([]int, size)); size != len(d) && len(ins) != 0 {
				t.Errorf("BlastIns(%v) of %d numbers: %v", d, size, ins)
			}
		}
		for _, size := range []int{0, 1, 2, 3, 4, 5, 6, 7, 8, 9, 10, 16, 63, 64, 65, 1000} {
			ins := slices.Repeat([]bool{true}, size)
			if env := impl.BlastEnv(d, ins); size != declBits(d) && len(env) != 0 || size == declBits(d) && len(env) != len(d) {
				t.Errorf("BlastEnv(%v) of %d: %v", d, size, env)
			}
		}
	}
}

// TestBlastWrongDecls asks all functions of names that are not ok.
func TestBlastWrongDecls(t *testing.T) {
	for _, d := range wrongDecls() {
		if ins := impl.BlastIns(d, make([]int, len(d))); len(ins) != 0 {
			t.Errorf("BlastIns(%v) = %v", d, ins)
		}
		for size := range 12 {
			if env := impl.BlastEnv(d, make([]bool, size)); len(env) != 0 {
				t.Errorf("BlastEnv(%v) of %d: %v", d, size, env)
			}
		}
		noBlastCnf(t, d, nil, "no terms of names that are not ok")
		noBlastCnf(t, d, []impl.Term{}, "an empty list of terms of names that are not ok")
		noBlast(t, d, impl.Term{Op: 24}, "true")
		noBlast(t, d, plain(25, impl.Term{Op: 24}), "not true")
		noBlast(t, d, impl.Term{Op: 20, A: 1}, "#0")
		for _, decl := range d {
			noBlast(t, d, impl.Term{Op: 21, Name: decl.Name}, "a name among such as are not ok")
		}
	}
}

// TestBlastWritten has nets that were reckoned by hand from the document's words.
func TestBlastWritten(t *testing.T) {
	one, two, odd := twoNames(1), twoNames(2), []impl.Decl{{Name: "b", Wide: 3}, {Name: "a", Wide: 1}, {Name: "not", Wide: 4}}
	x, a := xorGate(2, 3), andGate(2, 3)
	for _, c := range []struct {
		d     []impl.Decl
		text  string
		gates []impl.Gate
		marks []int
	}{
		{one, "x", nil, []int{2}}, {one, "y", nil, []int{3}}, {two, "x", nil, []int{3, 2}}, {two, "y", nil, []int{5, 4}}, {twoNames(4), "x", nil, []int{5, 4, 3, 2}}, {twoNames(4), "y", nil, []int{9, 8, 7, 6}},
		{odd, "b", nil, []int{4, 3, 2}}, {odd, "a", nil, []int{5}}, {odd, "not", nil, []int{9, 8, 7, 6}}, {odd, "(not not)", nil, []int{-9, -8, -7, -6}}, {odd, "(not a)", nil, []int{-5}},
		{nil, "true", nil, []int{1}}, {nil, "(no true)", nil, []int{-1}}, {one, "true", nil, []int{1}}, {nil, "#1", nil, []int{1}}, {nil, "#0", nil, []int{-1}}, {nil, "#01", nil, []int{1, -1}}, {odd, "#1000", nil, []int{-1, -1, -1, 1}}, {odd, "#0010", nil, []int{-1, 1, -1, -1}}, {nil, "#110", nil, []int{-1, 1, 1}},
		{odd, "(cut 2 1 b)", nil, []int{3, 2}}, {odd, "(cut 0 0 b)", nil, []int{4}}, {odd, "(cut 2 2 b)", nil, []int{2}}, {odd, "(cut 3 0 not)", nil, []int{9, 8, 7, 6}}, {odd, "(cut 2 1 not)", nil, []int{8, 7}}, {odd, "(cut 0 0 a)", nil, []int{5}},
		{odd, "(cat a b)", nil, []int{4, 3, 2, 5}}, {odd, "(cat b a)", nil, []int{5, 4, 3, 2}}, {odd, "(cat a (cat #01 a))", nil, []int{5, 1, -1, 5}}, {odd, "(cat (cut 3 2 not) (cut 1 0 not))", nil, []int{9, 8, 7, 6}},
		{one, "(neg x)", nil, []int{2}}, {two, "(neg y)", []impl.Gate{xorGate(4, 5), andGate(-4, -5)}, []int{5, 6}},
		{one, "(and x y)", []impl.Gate{a}, []int{4}}, {one, "(or x y)", []impl.Gate{andGate(-2, -3)}, []int{-4}}, {one, "(xor y x)", []impl.Gate{x}, []int{4}}, {one, "(xor (not x) y)", []impl.Gate{x}, []int{-4}},
		{two, "(add x y)", []impl.Gate{xorGate(3, 5), andGate(3, 5), xorGate(2, 4), xorGate(7, 8), andGate(2, 4), andGate(7, 8), andGate(-10, -11)}, []int{6, 9}},
		{two, "(same x y)", []impl.Gate{xorGate(3, 5), xorGate(2, 4), andGate(-6, -7)}, []int{8}},
		{two, "(less x #01)", []impl.Gate{andGate(-2, -3)}, []int{6}},
		{one, "(same x #1)", nil, []int{2}}, {one, "(same #0 y)", nil, []int{-3}}, {one, "(less x #1)", nil, []int{-2}}, {one, "(under x #0)", nil, []int{2}}, {one, "(less #1 x)", nil, []int{-1}},
		{one, "(same x x)", nil, []int{1}}, {one, "(less x x)", nil, []int{-1}}, {one, "(no (less x x))", nil, []int{1}}, {twoNames(4), "(same (mul x #0000) #0000)", nil, []int{1}},
		{one, "(less x y)", []impl.Gate{x, andGate(3, 4)}, []int{5}}, {one, "(no (less x y))", []impl.Gate{x, andGate(3, 4)}, []int{-5}}, {one, "(no (no (less x y)))", []impl.Gate{x, andGate(3, 4)}, []int{5}},
		{one, "(both (same x #1) (same y #1))", []impl.Gate{a}, []int{4}}, {one, "(any (same x #1) (same y #1))", []impl.Gate{andGate(-2, -3)}, []int{-4}}, {one, "(both (same x #0) (same y #1))", []impl.Gate{andGate(-2, 3)}, []int{4}}, {one, "(any (same x #0) (same y #1))", []impl.Gate{andGate(2, -3)}, []int{-4}},
		{one, "(both true (same x #1))", nil, []int{2}}, {one, "(both (same x #1) (no true))", nil, []int{-1}}, {one, "(any (same x #1) true)", nil, []int{1}}, {one, "(any (no true) (same x #1))", nil, []int{2}}, {one, "(any (same x #1) (same x #0))", nil, []int{1}}, {one, "(both (same x #1) (same x #0))", nil, []int{-1}},
		{one, "(both (less x y) (under x y))", []impl.Gate{x, andGate(3, 4), andGate(2, 4), andGate(5, 6)}, []int{7}}, {one, "(both (under x y) (less x y))", []impl.Gate{x, andGate(2, 4), andGate(3, 4), andGate(5, 6)}, []int{7}},
		{one, "(any (less x y) (no (less x y)))", []impl.Gate{x, andGate(3, 4)}, []int{1}},
		{one, "(if (same x y) x y)", []impl.Gate{x, andGate(2, -4), andGate(3, 4), andGate(-5, -6)}, []int{-7}}, {one, "(if (same x #1) x y)", []impl.Gate{andGate(-2, 3), andGate(-2, -4)}, []int{-5}},
		{one, "(if (less x y) (and x y) (or x y))", []impl.Gate{x, andGate(3, 4), a, andGate(-2, -3), andGate(5, 6), andGate(-5, -7), andGate(-8, -9)}, []int{-10}},
		{one, "(if (same x #1) (same y #1) true)", []impl.Gate{a, andGate(2, -4)}, []int{-5}}, {one, "(if true x y)", nil, []int{2}}, {one, "(if (no true) x y)", nil, []int{3}}, {one, "(if (same x y) true true)", []impl.Gate{x}, []int{1}},
		{two, "(if (same (cut 0 0 x) #1) x y)", []impl.Gate{andGate(-3, 5), andGate(-3, -6), andGate(2, 3), andGate(-3, 4), andGate(-8, -9)}, []int{-7, -10}},
		{one, "(xor (and x y) (and x y))", []impl.Gate{a}, []int{-1}}, {one, "(cat (and x y) (and y x))", []impl.Gate{a}, []int{4, 4}}, {one, "(cat (xor x y) (not (xor y x)))", []impl.Gate{x}, []int{-4, 4}}, {two, "(cut 1 1 (xor x y))", []impl.Gate{xorGate(3, 5), xorGate(2, 4)}, []int{7}},
	} {
		s := sampleOf(t, c.d, c.text)
		net, marks := impl.Blast(c.d, s.t)
		if !sameNet(net, netOf(declBits(c.d), c.gates...)) || !slices.Equal(marks, c.marks) {
			t.Errorf("Blast(%s) = %v, %v, want %v, %v", c.text, net.Gates, marks, c.gates, c.marks)
		}
		blasts(t, c.d, s)
	}
}

// TestBlastLeaves has all numbers, names and `true`, with all names that there may be.
func TestBlastLeaves(t *testing.T) {
	for _, d := range allDecls() {
		list := []sample{trueSample()}
		for i := range d {
			list = append(list, nameSample(d, i))
		}
		if len(d) < 2 {
			for _, a := range allVecs() {
				list = append(list, vecSample(a))
			}
		}
		for _, s := range list {
			blasts(t, d, s)
			if net, _ := impl.Blast(d, s.t); len(net.Gates) != 0 {
				t.Errorf("Blast(%s) has gates: %v", s.text, net)
			}
		}
	}
}

// eachKind calls with each kind of what is done to two numbers of as many bits, or to the first of them, or asked of them.
func eachKind(x sample, y sample, do func(sample)) {
	for op := impl.OpNot; op <= impl.OpUnder; op++ {
		switch {
		case op <= impl.OpNeg:
			do(unSample(op, x))
		case op != impl.OpCat:
			do(pairSample(op, x, y))
		case 2*x.sort <= 4:
			do(pairSample(op, x, y))
		}
	}
	for _, c := range []sample{trueSample(), noSample(trueSample()), pairSample(impl.OpLess, x, y), noSample(pairSample(impl.OpSame, y, x))} {
		do(ifSample(c, x, y))
	}
	for hi := range x.sort {
		for lo := range hi + 1 {
			do(cutSample(hi, lo, x))
			do(cutSample(hi, lo, pairSample(impl.OpXor, x, y)))
		}
	}
}

// TestBlastKinds has each kind of two names of 1 to 4 bits, in the one order and in the other, of one name twice, and of a name and each number.
func TestBlastKinds(t *testing.T) {
	for wide := 1; wide <= 4; wide++ {
		d := twoNames(wide)
		x, y := nameSample(d, 0), nameSample(d, 1)
		for _, pair := range [][2]sample{{x, y}, {y, x}, {x, x}, {x, unSample(impl.OpNot, x)}} {
			eachKind(pair[0], pair[1], func(s sample) { blasts(t, d, s) })
		}
		for n := range power(wide) {
			one := d[:1]
			a := vecSample(impl.Vec{Wide: wide, N: n})
			eachKind(x, a, func(s sample) { blasts(t, one, s) })
			eachKind(a, x, func(s sample) { blasts(t, one, s) })
			eachKind(a, vecSample(impl.Vec{Wide: wide, N: power(wide) - 1 - n}), func(s sample) { blasts(t, one, s) })
		}
	}
}

// TestBlastCat has two names of all sizes that fit together.
func TestBlastCat(t *testing.T) {
	for first := 1; first <= 3; first++ {
		for second := 1; first+second <= 4; second++ {
			d := []impl.Decl{{Name: "x", Wide: first}, {Name: "y", Wide: second}}
			x, y := nameSample(d, 0), nameSample(d, 1)
			blasts(t, d, pairSample(impl.OpCat, x, y))
			blasts(t, d, pairSample(impl.OpCat, y, x))
			blasts(t, d, pairSample(impl.OpCat, unSample(impl.OpNeg, x), unSample(impl.OpNot, y)))
		}
	}
}

// TestBlastTruths has each kind that is of truths, of all truths, fixed ones and such as hang on names.
func TestBlastTruths(t *testing.T) {
	d := twoNames(2)
	x, y := nameSample(d, 0), nameSample(d, 1)
	list := []sample{trueSample(), noSample(trueSample()), pairSample(impl.OpLess, x, y), noSample(pairSample(impl.OpLess, x, y)), pairSample(impl.OpSame, x, y), pairSample(impl.OpUnder, y, x)}
	for _, a := range list {
		blasts(t, d, noSample(a))
		for _, b := range list {
			blasts(t, d, pairSample(impl.TermBoth, a, b))
			blasts(t, d, pairSample(impl.TermAny, a, b))
			for _, c := range list {
				blasts(t, d, ifSample(a, b, c))
				blasts(t, d, pairSample(impl.TermAny, a, pairSample(impl.TermBoth, b, noSample(c))))
			}
			blasts(t, d, ifSample(pairSample(impl.TermBoth, a, b), x, y))
		}
	}
}

// TestBlastMade has terms of several levels.
func TestBlastMade(t *testing.T) {
	deep, big, gates := 0, 0, 0
	ops := map[int]int{}
	eachSample(1000, func(d []impl.Decl, s sample) {
		parts, levels := counted(s.t)
		if parts > impl.TermMost {
			noBlast(t, d, s.t, s.text)
			return
		}
		if _, marks := blastWanted(d, s.t); len(marks) == 0 {
			noBlast(t, d, s.t, s.text)
			return
		}
		blasts(t, d, s)
		net, _ := impl.Blast(d, s.t)
		deep, big, gates = max(deep, levels), max(big, parts), max(gates, len(net.Gates))
		ops[s.t.Op]++
	})
	if deep != impl.TermDeep || big < impl.TermMost-1 || gates < 200 {
		t.Error("no sample is as great as can be:", deep, big, gates)
	}
	for op := 1; op <= 27; op++ {
		if (op < 18 || op > 19) && ops[op] == 0 {
			t.Error("no sample of kind", op)
		}
	}
}

// TestBlastTwice has parts that stand twice in a term, or more often: they need no gate more.
func TestBlastTwice(t *testing.T) {
	d := twoNames(4)
	for _, c := range [][2]string{
		{"(mul x y)", "(xor (mul x y) (mul x y))"}, {"(mul x y)", "(and (mul x y) (mul x y))"}, {"(div x y)", "(or (div x y) (div x y))"}, {"(div x y)", "(cat (cut 1 0 (div x y)) (cut 3 2 (div x y)))"}, {"(rem x y)", "(and (not (div x y)) (not (div x y)))"}, {"(less x y)", "(both (less x y) (less x y))"}, {"(less x y)", "(any (less x y) (no (less x y)))"},
		{"(same (add x y) x)", "(both (same (add x y) x) (both (same (add x y) x) (no (no (same (add x y) x)))))"}, {"(add x (mul y y))", "(if (same #1 #1) (add x (mul y y)) (add x (mul y y)))"}, {"x", "(and x (or x (and x x)))"}, {"(and x y)", "(or (and x y) (and y x))"}, {"(same x y)", "(no (same x y))"}, {"(under x y)", "(no (under x y))"}, {"(add x y)", "(same (add x y) (add y x))"}, {"(add x y)", "(under (add x y) (add y x))"},
	} {
		once, _ := impl.Blast(d, termOf(t, d, c[0]))
		twice, _ := impl.Blast(d, termOf(t, d, c[1]))
		if !sameNet(once, twice) {
			t.Errorf("%s has %d gates, %s has %d", c[0], len(once.Gates), c[1], len(twice.Gates))
		}
		blasts(t, d, sampleOf(t, d, c[1]))
	}
	for _, text := range []string{"(add (mul x y) (add (mul x y) (mul y x)))", "(if (less (add x y) x) (add x y) (sub (add x y) x))", "(sub (rem x y) (neg (rem x y)))", "(if (same (div x y) (rem x y)) (div x y) (rem x y))", "(xor (shl x y) (xor (shr x y) (shl x y)))", "(cat (cut 1 0 (add x y)) (cut 2 1 (add x y)))", "(cat (cut 1 0 (add x y)) (cut 1 0 (add y x)))", "(both (less x y) (any (less y x) (no (less x y))))"} {
		blasts(t, d, sampleOf(t, d, text))
	}
}

// TestBlastNameIsWord has names that are words of a text, with parts that are written nearly as they are.
func TestBlastNameIsWord(t *testing.T) {
	d := []impl.Decl{{Name: "no", Wide: 1}, {Name: "not", Wide: 2}, {Name: "cut", Wide: 3}, {Name: "tru", Wide: 2}}
	for _, text := range []string{"(not not)", "(not no)", "(not (not not))", "(cut 1 0 cut)", "(cat no cut)", "(cat not tru)", "(cat tru not)", "(if (no (same no #1)) not tru)", "(both (same no no) true)", "(same (cut 1 1 not) no)", "(add not tru)", "(sub tru not)", "(sub not tru)"} {
		blasts(t, d, sampleOf(t, d, text))
	}
	// Names that begin as others do, so that two terms differ in where the space is alone.
	d = []impl.Decl{{Name: "x", Wide: 2}, {Name: "xx", Wide: 2}, {Name: "xxx", Wide: 2}, {Name: "xxxx", Wide: 2}}
	for _, text := range []string{"(xor (sub x xx) (sub xx x))", "(cat (sub xx x) (sub x xx))", "(both (less x xxx) (less xx xx))", "(cat (div x xxxx) (div xxxx x))", "(any (less xx xxx) (less xxx xx))", "(if (same x xxx) (sub xxxx xx) (sub xxx xxx))", "(cat (cut 0 0 x) (cut 1 1 x))", "(cat (cut 1 0 xx) (cut 1 0 xxx))"} {
		blasts(t, d, sampleOf(t, d, text))
	}
}

// TestBlastAlways has terms that are true, or a number, whatever their names are, and such as never are true.
func TestBlastAlways(t *testing.T) {
	d := twoNames(2)
	for text, marks := range map[string][]int{
		"true": {1}, "(no (no true))": {1}, "(same x x)": {1}, "(no (less x x))": {1}, "(any true (less x y))": {1}, "(any (less x y) (no (less x y)))": {1}, "(same (add x y) (add y x))": {1}, "(same (xor x x) #00)": {1}, "(if true (same y y) (less x x))": {1},
		"(no true)": {-1}, "(less y y)": {-1}, "(both (same x y) (no (same x y)))": {-1}, "(under x x)": {-1}, "(less x #00)": {-1}, "(same (not x) x)": {-1},
		"(sub x x)": {-1, -1}, "(xor x (not x))": {1, 1}, "(div y #00)": {1, 1}, "(mul #00 y)": {-1, -1}, "(and x #10)": {-1, 2}, "(cat #1 (xor (cut 0 0 x) (cut 0 0 x)))": {-1, 1},
	} {
		s := sampleOf(t, d, text)
		if _, got := impl.Blast(d, s.t); !slices.Equal(got, marks) {
			t.Errorf("Blast(%s) = %v, want %v", text, got, marks)
		}
		blasts(t, d, s)
	}
	// That these are always so their marks do not tell by themselves, but all that may come in does.
	for _, text := range []string{"(no (both (less x y) (less y x)))", "(any (same x y) (any (less x y) (less y x)))", "(same (sub x y) (neg (sub y x)))", "(same (add (mul (div x y) y) (rem x y)) x)", "(no (less (add x (not x)) #11))"} {
		s := sampleOf(t, d, text)
		blasts(t, d, s)
		c, ways := blastCnfs(t, d, s)
		never, none := blastCnfs(t, d, noSample(s))
		if len(ways) != 16 || len(none) != 0 || impl.SatRun(c, impl.SatFuel).Code != impl.SatYes || impl.SatRun(never, impl.SatFuel).Code != impl.SatNo {
			t.Errorf("%s is true of %d ways, not true of %d", text, len(ways), len(none))
		}
	}
}

// TestBlastCnfWritten has clauses that were written by hand.
func TestBlastCnfWritten(t *testing.T) {
	d := twoNames(1)
	xor, less := [][]int{{2, 3, -4}, {-2, -3, -4}, {-2, 3, 4}, {2, -3, 4}}, [][]int{{3, -5}, {4, -5}, {-3, -4, 5}}
	for _, c := range []struct {
		texts []string
		many  int
		list  [][]int
	}{
		{nil, 3, [][]int{{1}}}, {[]string{"true"}, 3, [][]int{{1}, {1}}}, {[]string{"(no true)"}, 3, [][]int{{1}, {-1}}}, {[]string{"(same x x)", "(less x x)", "true"}, 3, [][]int{{1}, {1}, {-1}, {1}}},
		{[]string{"(same x #1)"}, 3, [][]int{{1}, {2}}}, {[]string{"(same y #0)", "(same x #1)"}, 3, [][]int{{1}, {-3}, {2}}}, {[]string{"(same x #1)", "(same x #0)", "(same x #1)"}, 3, [][]int{{1}, {2}, {-2}, {2}}},
		{[]string{"(same x y)"}, 4, slices.Concat([][]int{{1}}, xor, [][]int{{-4}})}, {[]string{"(no (same x y))"}, 4, slices.Concat([][]int{{1}}, xor, [][]int{{4}})}, {[]string{"(less x y)"}, 5, slices.Concat([][]int{{1}}, xor, less, [][]int{{5}})},
		{[]string{"(same x y)", "(less x y)", "(no (same x y))"}, 5, slices.Concat([][]int{{1}}, xor, less, [][]int{{-4}, {5}, {4}})}, {[]string{"(less x y)", "(same x y)"}, 5, slices.Concat([][]int{{1}}, xor, less, [][]int{{5}, {-4}})},
	} {
		samples := []sample{}
		for _, text := range c.texts {
			samples = append(samples, sampleOf(t, d, text))
		}
		want := impl.Cnf{Many: c.many, List: c.list}
		if got, _ := blastCnfs(t, d, samples...); !impl.CnfSame(got, want) {
			t.Errorf("BlastCnf(%v) = %v, want %v", c.texts, got, want)
		}
	}
	for _, names := range allDecls() {
		c, ok := impl.BlastCnf(names, nil)
		if other, too := impl.BlastCnf(names, []impl.Term{}); !ok || !too || !impl.CnfSame(c, impl.Cnf{Many: 1 + declBits(names), List: [][]int{{1}}}) || !impl.CnfSame(c, other) {
			t.Errorf("BlastCnf(%v) of no terms: %v, %v", names, c, ok)
		}
	}
}

// TestBlastCnfMany has up to as many terms as there may be, and more.
func TestBlastCnfMany(t *testing.T) {
	d := twoNames(4)
	all := []sample{}
	for _, text := range []string{"(less x y)", "(no (same x #0000))", "(same (rem y x) #0000)", "(under y #0000)", "(less x y)", "(same (mul x (div y x)) y)", "true", "(any (less x #0011) (same x #0101))", "(same y y)", "(no true)"} {
		all = append(all, sampleOf(t, d, text))
	}
	for many := range 9 {
		c, ways := blastCnfs(t, d, all[:many]...)
		if len(ways) == 0 || c.Many < 9 {
			t.Errorf("%d terms: %s, %v", many, brief(c), ways)
		}
		blastCnfs(t, d, slices.Repeat(all[:1], many)...)
		blastCnfs(t, d, all[10-many:]...)
	}
	for _, many := range []int{9, 10, 16, 1000, 1000000} {
		noBlastCnf(t, d, slices.Repeat([]impl.Term{all[0].t}, many), "so many terms")
		noBlastCnf(t, d, slices.Repeat([]impl.Term{{Op: 24}}, many), "so many that are true")
	}
	list := []impl.Term{}
	for _, s := range all[:9] {
		list = append(list, s.t)
	}
	noBlastCnf(t, d, list, "one more than there may be")
}

// TestBlastCnfShared has terms that share parts: these are in the one net once.
func TestBlastCnfShared(t *testing.T) {
	d := twoNames(4)
	for _, c := range []struct {
		texts []string
		like  string
	}{
		{[]string{"(same (mul x y) #1100)", "(same (mul x y) #1100)"}, "(same (mul x y) #1100)"}, {[]string{"(same (mul x y) #1100)", "(no (same (mul x y) #1100))", "(no (no (same (mul x y) #1100)))"}, "(same (mul x y) #1100)"},
		{[]string{"(less (div x y) #0100)", "(less (rem x y) #0010)"}, "(both (less (div x y) #0100) (less (rem x y) #0010))"}, {[]string{"(less x y)", "(no (less x y))", "(less x y)"}, "(less x y)"}, {[]string{"(same x y)", "(same y x)"}, "(same x y)"}, {[]string{"(same (add x y) x)", "(same (add y x) x)"}, "(same (add x y) x)"},
	} {
		samples := []sample{}
		for _, text := range c.texts {
			samples = append(samples, sampleOf(t, d, text))
		}
		got, _ := blastCnfs(t, d, samples...)
		net, _ := impl.Blast(d, termOf(t, d, c.like))
		if strings.HasPrefix(c.like, "(both") { // its own gate is the last one
			net.Gates = net.Gates[:len(net.Gates)-1]
		}
		if gates := impl.NetCnf(net).List; got.Many != netMarks(net) || len(got.List) != len(gates)+len(samples) || !slices.EqualFunc(got.List[:len(gates)], gates, slices.Equal) {
			t.Errorf("BlastCnf(%v) has %d marks, %s has %d", c.texts, got.Many, c.like, netMarks(net))
		}
	}
}

// TestBlastCnfMade has any terms, in lists of up to as many as there may be. What a search finds is the first way in which all are true, and it finds none just if there is none.
func TestBlastCnfMade(t *testing.T) {
	found, none, full := 0, 0, 0
	for i, d := range someDecls() {
		m := maker{seed: uint64(90 + i), d: d}
		for round := range 200 {
			samples := []sample{}
			for range round % 9 {
				m.left = 10
				samples = append(samples, m.make(0, 2+m.below(4)))
			}
			c, ways := blastCnfs(t, d, samples...)
			if c.Many == 0 {
				full++
				continue
			}
			s := impl.SatRun(c, impl.SatFuel)
			switch {
			case len(ways) == 0 && s.Code == impl.SatNo:
				none++
			case len(ways) > 0 && s.Code == impl.SatYes && slices.Equal(impl.BlastEnv(d, impl.SatVals(c, s)[1:1+declBits(d)]), ways[0]):
				found++
			case s.Code != impl.SatMuch:
				t.Errorf("%d ways, but the search ends with %d: %s", len(ways), s.Code, brief(c))
			}
		}
	}
	if found < 200 || none < 200 {
		t.Error("too few:", found, none, full)
	}
}

// TestBlastCnfLeast has terms of so few marks that all ways of all marks can be asked: what is not so in the net is no way.
func TestBlastCnfLeast(t *testing.T) {
	d := []impl.Decl{{Name: "x", Wide: 1}, {Name: "y", Wide: 2}}
	texts := []string{"(same x #1)", "(same (cat x x) y)", "(less y #10)", "(same (cut 1 1 y) x)", "(no (same (xor x (cut 0 0 y)) #0))", "(if (same x #1) (less y #01) (same y y))", "(less y (cat #0 x))", "(under y (cat x #0))"}
	for _, one := range texts {
		for _, two := range texts {
			samples := []sample{sampleOf(t, d, one), sampleOf(t, d, two)}
			c, ways := blastCnfs(t, d, samples...)
			if c.Many > impl.LeastMost {
				continue
			}
			vals, ok := impl.CnfLeast(c)
			if ok != (len(ways) > 0) || ok && !slices.Equal(impl.BlastEnv(d, vals[1:4]), ways[0]) {
				t.Errorf("%s and %s: %v, %v, want %v", one, two, vals, ok, ways)
			}
			many := 0
			for _, vals := range allVals(c.Many) {
				if impl.CnfHas(c, vals) {
					many++
				}
			}
			if many != len(ways) {
				t.Errorf("%s and %s have %d ways, the clauses have %d", one, two, len(ways), many)
			}
		}
	}
}

// TestBlastRoom has terms with as many gates as there may be, and with one more.
func TestBlastRoom(t *testing.T) {
	d := twoNames(4)
	for text, gates := range map[string]int{gates599: 599, gates600: 600, bits600: 600} {
		s := sampleOf(t, d, text)
		if net, _ := impl.Blast(d, s.t); len(net.Gates) != gates {
			t.Errorf("%s has %d gates", text, len(net.Gates))
		}
		blasts(t, d, s)
	}
	for _, text := range []string{gates601, bits601, tooMuch} {
		noBlast(t, d, termOf(t, d, text), text)
	}
	// A full net has what needs no gate, and what is there already; what needs another has no room.
	for _, text := range []string{"(no _)", "(both _ (same x x))", "(any (less y y) _)", "(both _ (no (less y y)))", "(if _ (no true) (no true))", "(if (same y y) _ true)"} {
		x := termOf(t, d, strings.ReplaceAll(text, "_", gates600))
		if net, marks := blastTells(t, d, x); len(net.Gates) != 600 || len(marks) != 1 {
			t.Errorf("%s of 600 gates has %d, %v", text, len(net.Gates), marks)
		}
	}
	for _, text := range []string{"(both _ (less x y))", "(any (same x #1111) _)", "(if (less x y) _ true)"} {
		noBlast(t, d, termOf(t, d, strings.ReplaceAll(text, "_", gates600)), text+" of 600 gates")
	}
}

// TestBlastNoRoomBelow has no room for a gate of a Kid, in each kind of term, at each place.
func TestBlastNoRoomBelow(t *testing.T) {
	d := twoNames(4)
	texts := []string{"(not _)", "(neg _)", "(cut 3 0 _)", "(cut 3 3 _)", "(cut 0 0 _)", "(cat (cut 1 0 _) (cut 1 0 x))", "(cat (cut 0 0 x) (cut 2 0 _))", "(if true _ x)", "(if true x _)", "(if (no true) x _)", "(if (same _ x) x y)", "(if (less x _) x y)", "(if (same _ x) true (no true))",
		"(no (same _ x))", "(both true (same x _))", "(both (less _ x) true)", "(any (no true) (under x _))", "(any (under _ x) (less x y))", "(both (no true) (less _ y))", "(any true (less _ y))", "(and _ #0000)", "(mul #0000 _)", "(same _ _)", "(xor _ _)"}
	for op := impl.OpAnd; op <= impl.OpUnder; op++ {
		if op != impl.OpCat {
			texts = append(texts, "("+opWord(op)+" _ x)", "("+opWord(op)+" x _)")
		}
	}
	for _, text := range texts {
		noBlast(t, d, termOf(t, d, strings.ReplaceAll(text, "_", tooMuch)), text)
	}
}

// TestBlastCnfRoom has no room for a gate of the first term, or of a later one, that has room by itself.
func TestBlastCnfRoom(t *testing.T) {
	d := twoNames(4)
	one, two, three := "(same (div (div x y) x) y)", "(less (div (div y x) (add x x)) y)", "(same (cut 0 0 x) (cut 2 2 x))"
	more := "(less x y)"
	for _, c := range []struct {
		texts []string
		gates int // 0, if there is no room; -1, if there is more than enough
	}{
		{[]string{gates599}, 599}, {[]string{gates600}, 600}, {[]string{gates601}, 0}, {[]string{gates600, "true", "(same x x)"}, 600}, {[]string{gates600, gates600, "(no " + gates600 + ")"}, 600}, {[]string{"true", gates600}, 600}, {[]string{"(same (div x y) (div x y))", gates600}, 600},
		{[]string{gates599, three}, 600}, {[]string{three, gates599}, 600}, {[]string{gates599, "(no " + three + ")", three}, 600}, {[]string{gates599, three, "(same (cut 1 1 x) (cut 3 3 x))"}, 0}, {[]string{gates600, three}, 600}, {[]string{gates600, more}, 0}, {[]string{more, gates600}, 0}, {[]string{gates600, "true", more, "true"}, 0},
		{[]string{gates601, "true"}, 0}, {[]string{"true", gates601}, 0}, {[]string{"true", "true", "true", "true", "true", "true", "true", gates601}, 0}, {[]string{"true", "true", "true", "true", "true", "true", "true", gates600}, 600}, {[]string{gates601, "(no true)", gates600}, 0}, {[]string{"(less x y)", "(same " + tooMuch + " x)", "(less x y)"}, 0}, {[]string{"(no true)", gates601}, 0},
		{[]string{one}, -1}, {[]string{two}, -1}, {[]string{one, two}, 0}, {[]string{two, one}, 0}, {[]string{one, "(less (div x y) y)", "(no " + one + ")"}, -1}, {[]string{one, two, "(no " + two + ")", "(less (div (rem x x) (neg y)) y)"}, 0},
	} {
		list := termsOf(t, d, c.texts...)
		net, want, room := blastCnfWanted(d, list)
		got, ok := impl.BlastCnf(d, list)
		if ok != room || !impl.CnfSame(got, want) {
			t.Errorf("BlastCnf(%v): %d marks, %v, want %d, %v", c.texts, got.Many, ok, want.Many, room)
		}
		if ok != (c.gates != 0) || c.gates > 0 && (len(net.Gates) != c.gates || got.Many != 9+c.gates) {
			t.Errorf("BlastCnf(%v): %d gates, want %d", c.texts, len(net.Gates), c.gates)
		}
		if ok && !impl.CnfOk(got) {
			t.Errorf("BlastCnf(%v) is not ok", c.texts)
		}
	}
}

// TestBlastWrongTerm has terms that are right but for one thing, and such as are right still.
func TestBlastWrongTerm(t *testing.T) {
	still, not := 0, 0
	eachSample(40, func(d []impl.Decl, s sample) {
		if parts, _ := counted(s.t); parts > 18 {
			return
		}
		eachChange(s.t, func(x impl.Term) {
			_, levels := counted(x)
			sort := sortWanted(d, x)
			if sort == -1 || levels > impl.TermDeep {
				not++
				noBlast(t, d, x, "changed")
				return
			}
			still++
			blastTells(t, d, x)
			if sort > 0 {
				noBlastCnf(t, d, []impl.Term{x}, "of bits")
			}
		})
	})
	if still < 300 || not < 3000 {
		t.Error("too few:", still, not)
	}
}

// TestBlastOtherNames has terms of names that are there, but not these, or not of as many bits.
func TestBlastOtherNames(t *testing.T) {
	d := twoNames(4)
	for _, text := range []string{"x", "(add x y)", "(same x #0000)", "(cut 3 2 x)", "(cat (cut 1 1 x) (cut 2 0 y))"} {
		x := termOf(t, d, text)
		blastTells(t, d, x)
		noBlast(t, nil, x, text+" of no names")
		noBlast(t, []impl.Decl{{Name: "z", Wide: 4}, {Name: "w", Wide: 4}}, x, text+" of other names")
	}
	noBlast(t, twoNames(3), termOf(t, d, "(add x #0000)"), "of names of less bits")
	noBlast(t, twoNames(2), termOf(t, d, "(cut 3 2 x)"), "of names of less bits")
	noBlast(t, d, termOf(t, twoNames(2), "(cat x y)"), "of names of more bits")
	blastTells(t, twoNames(2), termOf(t, d, "(add x y)"))
}

// TestBlastCnfSort has a term of bits at each place among terms that are true or not.
func TestBlastCnfSort(t *testing.T) {
	d := twoNames(4)
	for _, wrong := range append(termsOf(t, d, "x", "#0", "#1", "#0000", "(add x y)", "(cut 0 0 x)", "(if (same x y) x y)", bits600, bits601), impl.Term{}, impl.Term{Op: 21, Name: "z"}, plain(15, impl.Term{Op: 24}, impl.Term{Op: 24}), plain(25, impl.Term{Op: 20, A: 1})) {
		for many := 1; many <= 8; many++ {
			for place := range many {
				list := slices.Repeat([]impl.Term{{Op: 24}}, many)
				list[place] = wrong
				noBlastCnf(t, d, list, "a term that is not of sort 0")
				list[(place+1)%many] = termOf(t, d, "(less x y)")
				list[place] = wrong
				noBlastCnf(t, d, list, "a term that is not of sort 0")
			}
		}
	}
}

// TestBlastEndless has terms that no walk through all parts would end of.
func TestBlastEndless(t *testing.T) {
	late := time.AfterFunc(time.Minute, func() { panic("a walk does not end") })
	defer late.Stop()
	for _, x := range []impl.Term{looped(25, 1), looped(1, 1), looped(26, 2), looped(23, 3), looped(6, 2), shared(60), plain(0, make([]impl.Term, 1000000)...), plain(26, make([]impl.Term, 1000000)...)} {
		noBlast(t, nil, x, "a term without end")
		noBlast(t, twoNames(4), x, "a term without end")
		noBlastCnf(t, nil, slices.Repeat([]impl.Term{x}, 8), "terms without end")
	}
}

// TestBlastDeepAndMany has terms of as many parts and levels as there may be.
func TestBlastDeepAndMany(t *testing.T) {
	for parts := 1; parts <= 24; parts++ {
		s := manyTruth(parts)
		if parts <= 20 {
			blasts(t, nil, s)
		} else {
			noBlast(t, nil, s.t, "so many parts")
		}
	}
	for levels := 1; levels <= 10; levels++ {
		s := chain(levels)
		if levels <= 7 {
			blasts(t, twoNames(1), s)
		} else {
			noBlast(t, twoNames(1), s.t, "so many levels")
		}
	}
	// Parts are counted term by term: a list may have more of them together.
	c, ways := blastCnfs(t, nil, manyTruth(20), manyTruth(20), manyTruth(19), manyTruth(20))
	if len(c.List) != 5 {
		t.Error("four terms of many parts:", c, ways)
	}
}

// TestBlastEmptyKids has empty lists of Kids where there are none.
func TestBlastEmptyKids(t *testing.T) {
	d, none := twoNames(2), []impl.Term{}
	for _, x := range []impl.Term{{Op: 20, A: 2, B: 1, Kids: none}, {Op: 21, Name: "y", Kids: none}, {Op: 24, Kids: none}} {
		got, marks := impl.Blast(d, x)
		x.Kids = nil
		want, wantMarks := impl.Blast(d, x)
		if !sameNet(got, want) || !slices.Equal(marks, wantMarks) || len(marks) == 0 {
			t.Error("an empty list is no other than none:", x)
		}
	}
}

// roomyDecls is names that are the same, with room behind their end, and something there.
func roomyDecls(d []impl.Decl) []impl.Decl {
	return append(slices.Clone(d), impl.Decl{Name: "spare", Wide: 99})[:len(d)]
}

// TestBlastArgumentsStay asks that nothing is written into an argument, or behind its end.
func TestBlastArgumentsStay(t *testing.T) {
	wrong := []impl.Decl{{Name: "x", Wide: 4}, {Name: "x", Wide: 9}}
	m := maker{seed: 91, d: twoNames(4)}
	big := sample{t: termOf(t, m.d, gates601)}
	ask := func(was []impl.Decl, s sample) {
		t.Helper()
		d, x := roomyDecls(was), spacious(s.t)
		env, ins := append(make([]int, len(was)), 777), append(make([]bool, 9), true)
		list := append(slices.Repeat([]impl.Term{x}, 3), impl.Term{Op: 777})
		impl.BlastIns(d, env[:len(was)])
		for size := range 10 {
			impl.BlastEnv(d, ins[:size])
		}
		impl.Blast(d, x)
		impl.BlastCnf(d, list[:3])
		if !slices.Equal(d[:len(was)+1], append(slices.Clone(was), impl.Decl{Name: "spare", Wide: 99})) || !stayedList(make([]int, len(was)), env[:len(was)]) || slices.Index(ins, true) != 9 || list[3].Op != 777 || !alike(list[0], s.t) || !alike(x, s.t) {
			t.Error("an argument was written into:", s.text)
		}
		lists(x, func(list []impl.Term) {
			if len(list) == 0 || list[len(list)-1].Op != 777 {
				t.Error("written behind the end of a list:", s.text)
			}
		})
	}
	eachSample(40, func(d []impl.Decl, s sample) {
		ask(d, s)
		ask(wrong, s)
	})
	ask(m.d, big)
	ask(wrong, big)
}

// TestBlastIsNew writes over all that an answer has memory for, and asks that nothing else has turned.
func TestBlastIsNew(t *testing.T) {
	d := twoNames(4)
	for _, text := range []string{"x", "(not y)", "#0110", "true", "(cut 2 1 x)", "(cut 2 1 (add x y))", "(cat (cut 1 0 x) (cut 3 2 x))", "(if (less x y) x y)", "(and (add x y) (add x y))", "(same (mul x y) #0110)", "(no (less x y))", gates600} {
		x := termOf(t, d, text)
		want, wantMarks := impl.Blast(d, x)
		want, wantMarks = copyNet(want), slices.Clone(wantMarks)
		got, marks := impl.Blast(d, x)
		other, otherMarks := impl.Blast(d, x)
		gates, marks := got.Gates[:cap(got.Gates)], marks[:cap(marks)]
		for i := range gates {
			gates[i] = xorGate(99, 99)
		}
		for i := range marks {
			marks[i] = 99
		}
		again, againMarks := impl.Blast(d, x)
		if !sameNet(other, want) || !sameNet(again, want) || !slices.Equal(otherMarks, wantMarks) || !slices.Equal(againMarks, wantMarks) {
			t.Errorf("an answer shares memory with another, or with what is kept: %s", text)
		}
	}
}

// TestBlastCnfIsNew writes over each clause of an answer, and asks that nothing else has turned.
func TestBlastCnfIsNew(t *testing.T) {
	d := twoNames(4)
	for _, texts := range [][]string{nil, {"true", "true"}, {"(less x y)", "(less x y)", "(no (less x y))"}, {"(same (mul x y) #0110)", "(less x y)", "(same x x)", "(no true)", "(less x y)", "true", "(under x y)", "(less y x)"}} {
		list := termsOf(t, d, texts...)
		_, want, _ := blastCnfWanted(d, list)
		got, _ := impl.BlastCnf(d, list)
		other, _ := impl.BlastCnf(d, list)
		for i, clause := range got.List {
			whole := clause[:cap(clause)]
			for k := range whole {
				whole[k] = 99
			}
			if !slices.EqualFunc(got.List[i+1:], want.List[i+1:], slices.Equal) {
				t.Fatalf("two clauses of one answer share memory: %d of %v", i, texts)
			}
		}
		whole := got.List[:cap(got.List)]
		for i := range whole {
			whole[i] = []int{98}
		}
		if again, ok := impl.BlastCnf(d, list); !ok || !impl.CnfSame(other, want) || !impl.CnfSame(again, want) {
			t.Errorf("an answer shares memory with something else: %v", texts)
		}
	}
}

// TestBlastInsIsNew writes over what comes in, and over the numbers that come in.
func TestBlastInsIsNew(t *testing.T) {
	for _, d := range allDecls() {
		env, ins := make([]int, len(d)), make([]bool, declBits(d))
		got, numbers := impl.BlastIns(d, env), impl.BlastEnv(d, ins)
		other, others := impl.BlastIns(d, env), impl.BlastEnv(d, ins)
		for i := range got[:cap(got)] {
			got[:cap(got)][i] = true
		}
		for i := range numbers[:cap(numbers)] {
			numbers[:cap(numbers)][i] = 99
		}
		if slices.Contains(ins, true) || slices.Contains(env, 99) || slices.Contains(other, true) || slices.Contains(others, 99) || slices.Contains(impl.BlastIns(d, env), true) || slices.Contains(impl.BlastEnv(d, ins), 99) {
			t.Error("an answer shares memory with something else:", d)
		}
	}
}

// TestBlastAgain asks that nothing is kept from call to call: one name has other marks with other names, and what had no room leaves nothing behind.
func TestBlastAgain(t *testing.T) {
	d := twoNames(4)
	for range 3 {
		for _, c := range []struct {
			d     []impl.Decl
			marks []int
		}{{twoNames(1), []int{3}}, {twoNames(2), []int{5, 4}}, {d, []int{9, 8, 7, 6}}, {[]impl.Decl{{Name: "y", Wide: 2}, {Name: "x", Wide: 2}}, []int{3, 2}}, {[]impl.Decl{{Name: "y", Wide: 1}}, []int{2}}} {
			if net, marks := impl.Blast(c.d, impl.Term{Op: 21, Name: "y"}); !slices.Equal(marks, c.marks) || len(net.Gates) != 0 {
				t.Errorf("Blast of y among %v: %v", c.d, marks)
			}
			noBlast(t, d, termOf(t, d, gates601), "no room")
			blastTells(t, d, termOf(t, d, "(add x (mul y y))"))
			blastCnfs(t, twoNames(1), sampleOf(t, twoNames(1), "(less x y)"), sampleOf(t, twoNames(1), "(same x y)"))
			noBlastCnf(t, d, []impl.Term{{Op: 24}, {Op: 21, Name: "y"}}, "of bits")
		}
	}
}
