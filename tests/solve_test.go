package tests

import (
	"math"
	"slices"
	"strings"
	"testing"
	"time"

	"loop.example/seedlip/impl"
)

// Terms of two names of 4 bits, x and y, of which a search does not come to an end: one that is true, and one that has no way.
const (
	slowYes = "(both (less #0000 y) (less y (rem (div x y) x)))"
	slowNo  = "(no (same (mul (add x y) (sub x y)) (sub (mul x x) (mul y y))))"
)

// askable says whether terms can be asked of: the names are ok, and there are no more terms than there may be, all of them right, and true or not.
func askable(d []impl.Decl, list []impl.Term) bool {
	if !impl.DeclOk(d) || len(list) > 8 {
		return false
	}
	for _, x := range list {
		if parts, levels := counted(x); parts > 20 || levels > 7 || sortWanted(d, x) != 0 {
			return false
		}
	}
	return true
}

// putNumbers is the numbers of names whose bits were put, name by name, each name's highest bit first.
func putNumbers(d []impl.Decl, put []int) []int {
	env, m := []int{}, 2
	for _, decl := range d {
		n := 0
		for range decl.Wide {
			n *= 2
			if slices.Contains(put, m) {
				n++
			}
			m++
		}
		env = append(env, n)
	}
	return env
}

// solveWanted is what is told of terms, as the document has it: all are made shorter and turned into clauses, and these are searched, with some more behind them.
func solveWanted(d []impl.Decl, list []impl.Term, more ...[]int) ([]int, int) {
	if !askable(d, list) {
		return nil, 4
	}
	short := []impl.Term{}
	for _, x := range list {
		short = append(short, foldWanted(d, x))
	}
	_, c, room := blastCnfWanted(d, short)
	if !room {
		return nil, 3
	}
	c.List = append(c.List, more...)
	s := impl.SatRun(c, 4000)
	switch s.Code {
	case impl.SatYes:
		return putNumbers(d, s.Put), 1
	case impl.SatNo:
		return nil, 2
	}
	return nil, 3
}

// behind is terms, and one behind them, of their own memory.
func behind(list []impl.Term, x impl.Term) []impl.Term { return append(slices.Clone(list), x) }

// proveWanted is what is told of terms and one that is not to be true.
func proveWanted(d []impl.Decl, list []impl.Term, x impl.Term) ([]int, int) {
	return solveWanted(d, behind(list, plain(25, x)))
}

// coreWanted leaves out place by place what can be.
func coreWanted(d []impl.Decl, list []impl.Term) ([]int, int) {
	if _, code := solveWanted(d, list); code != 2 {
		return nil, code
	}
	out := map[int]bool{}
	rest := func() ([]impl.Term, []int) {
		some, places := []impl.Term{}, []int{}
		for i, x := range list {
			if !out[i] {
				some, places = append(some, x), append(places, i)
			}
		}
		return some, places
	}
	for i := range list {
		out[i] = true
		some, _ := rest()
		_, code := solveWanted(d, some)
		out[i] = code == 2
	}
	_, places := rest()
	return places, 2
}

// waysWanted is the ways that are told, one by one, each of them barred by a clause of all bits that come in.
func waysWanted(d []impl.Decl, list []impl.Term, most int) ([][]int, int) {
	if most < 0 || most > 20 || !askable(d, list) {
		return nil, 4
	}
	ways, more := [][]int{}, [][]int{}
	for len(ways) < most {
		env, code := solveWanted(d, list, more...)
		if code != 1 {
			return ways, code
		}
		clause := []int{}
		for i, so := range insWanted(d, env) {
			clause = append(clause, (i+2)*map[bool]int{true: -1, false: 1}[so])
		}
		ways, more = append(ways, env), append(more, clause)
	}
	return ways, 1
}

// leastNumber asks for one number after the other.
func leastNumber(d []impl.Decl, list []impl.Term, x impl.Term) (int, int) {
	if parts, levels := counted(x); !impl.DeclOk(d) || parts > 20 || levels > 7 || sortWanted(d, x) < 1 {
		return 0, 4
	}
	wide := sortWanted(d, x)
	for n := range power(wide) {
		_, code := solveWanted(d, behind(list, plain(15, x, impl.Term{Op: 20, A: wide, B: n})))
		if code == 1 {
			return n, 1
		}
		if code != 2 {
			return 0, code
		}
	}
	return 0, 2
}

// termsIn is the terms of samples.
func termsIn(samples []sample) []impl.Term {
	list := []impl.Term{}
	for _, s := range samples {
		list = append(list, s.t)
	}
	return list
}

// textsIn is the texts of samples.
func textsIn(samples []sample) string {
	text := "of"
	for _, s := range samples {
		text += " " + s.text
	}
	return text
}

// samplesOf is samples that are read.
func samplesOf(t *testing.T, d []impl.Decl, texts ...string) []sample {
	t.Helper()
	list := []sample{}
	for _, text := range texts {
		list = append(list, sampleOf(t, d, text))
	}
	return list
}

// trueWays is all numbers for names that make all samples true, in order, by what the samples are.
func trueWays(d []impl.Decl, samples []sample) [][]int {
	ways := [][]int{}
	for _, env := range envsWanted(d) {
		if !slices.ContainsFunc(samples, func(s sample) bool { return s.is(env) != yes(true) }) {
			ways = append(ways, env)
		}
	}
	return ways
}

// allTrue asks that numbers make all terms true.
func allTrue(t *testing.T, d []impl.Decl, list []impl.Term, env []int) {
	t.Helper()
	for _, x := range list {
		if n, ok := impl.TermEval(d, x, env); !ok || n != 1 {
			t.Fatalf("%s is %d, %v at %v", impl.TermText(d, x), n, ok, env)
		}
	}
}

// toldIsFirst asks that what was told, with a code, is so: the first of these ways, or that there is none.
func toldIsFirst(t *testing.T, what string, env []int, code int, ways [][]int) {
	t.Helper()
	switch {
	case code == impl.SolveYes && len(ways) > 0 && slices.Equal(env, ways[0]):
	case code == impl.SolveNo && len(ways) == 0 && len(env) == 0:
	case code == impl.SolveMuch && len(env) == 0:
	default:
		t.Fatalf("%s: %v, %d, but the ways are %s", what, env, code, brief(ways))
	}
}

// solves asks all that promise 9 says of what Solve tells of samples; it is the code that was told.
func solves(t *testing.T, d []impl.Decl, samples ...sample) int {
	t.Helper()
	list, what := termsIn(samples), "Solve "+textsIn(samples)
	env, code := impl.Solve(d, list)
	if want, wantCode := solveWanted(d, list); code != wantCode || !slices.Equal(env, want) {
		t.Fatalf("%s: %v, %d, want %v, %d", what, env, code, want, wantCode)
	}
	toldIsFirst(t, what, env, code, trueWays(d, samples))
	if code == impl.SolveYes {
		allTrue(t, d, list, env)
	}
	return code
}

// proves asks all that promise 9 says of what SolveProve tells of samples and one more; it is the code that was told.
func proves(t *testing.T, d []impl.Decl, samples []sample, s sample) int {
	t.Helper()
	list, what := termsIn(samples), "SolveProve "+textsIn(samples)+", "+s.text
	env, code := impl.SolveProve(d, list, s.t)
	if want, wantCode := proveWanted(d, list, s.t); code != wantCode || !slices.Equal(env, want) {
		t.Fatalf("%s: %v, %d, want %v, %d", what, env, code, want, wantCode)
	}
	ways := slices.DeleteFunc(trueWays(d, samples), func(env []int) bool { return s.is(env) == yes(true) })
	toldIsFirst(t, what, env, code, ways)
	if code == impl.SolveYes {
		allTrue(t, d, list, env)
		if n, ok := impl.TermEval(d, s.t, env); !ok || n != 0 {
			t.Fatalf("%s: it is %d, %v at %v", what, n, ok, env)
		}
	}
	return code
}

// cores asks all that promise 10 says of what SolveCore tells of samples; it is the places and the code that were told.
func cores(t *testing.T, d []impl.Decl, samples ...sample) ([]int, int) {
	t.Helper()
	list, what := termsIn(samples), "SolveCore "+textsIn(samples)
	left, code := impl.SolveCore(d, list)
	if want, wantCode := coreWanted(d, list); code != wantCode || !slices.Equal(left, want) {
		t.Fatalf("%s: %v, %d, want %v, %d", what, left, code, want, wantCode)
	}
	if _, all := impl.Solve(d, list); all != code || code != impl.SolveNo && len(left) != 0 {
		t.Fatalf("%s: %v, %d, but Solve tells %d", what, left, code, all)
	}
	if code == impl.SolveNo {
		some := []sample{}
		for i, place := range left {
			if i > 0 && place <= left[i-1] {
				t.Fatalf("%s: %v does not ascend", what, left)
			}
			some = append(some, samples[place])
		}
		if ways := trueWays(d, some); len(ways) != 0 || len(left) == 0 {
			t.Fatalf("%s: %v can be true: %s", what, left, brief(ways))
		}
	}
	return left, code
}

// tellsWays asks all that promise 9 says of the ways that SolveWays tells of samples; it is how many there are, and the code that was told.
func tellsWays(t *testing.T, d []impl.Decl, most int, samples ...sample) (int, int) {
	t.Helper()
	list, what, all := termsIn(samples), "SolveWays "+textsIn(samples), trueWays(d, samples)
	ways, code := impl.SolveWays(d, list, most)
	if want, wantCode := waysWanted(d, list, most); code != wantCode || !slices.EqualFunc(ways, want, slices.Equal) {
		t.Fatalf("%s, %d: %v, %d, want %v, %d", what, most, ways, code, want, wantCode)
	}
	if len(ways) > len(all) || len(ways) > max(0, most) || !slices.EqualFunc(ways, all[:len(ways)], slices.Equal) {
		t.Fatalf("%s, %d: %v, %d, but the ways are %s", what, most, ways, code, brief(all))
	}
	if (code == impl.SolveYes) != (len(ways) == most) || code == impl.SolveNo && len(ways) != len(all) {
		t.Fatalf("%s, %d: %v, %d, but there are %d ways", what, most, ways, code, len(all))
	}
	for _, env := range ways {
		allTrue(t, d, list, env)
	}
	return len(ways), code
}

// leasts asks all that promise 9 says of the least number that SolveLeast tells of samples and one of bits; it is that, and the code that was told.
func leasts(t *testing.T, d []impl.Decl, samples []sample, s sample) (int, int) {
	t.Helper()
	list, what := termsIn(samples), "SolveLeast "+textsIn(samples)+", "+s.text
	n, code := impl.SolveLeast(d, list, s.t)
	if want, wantCode := leastNumber(d, list, s.t); code != wantCode || n != want {
		t.Fatalf("%s: %d, %d, want %d, %d", what, n, code, want, wantCode)
	}
	least, none := power(s.sort), true
	for _, env := range trueWays(d, samples) {
		least, none = min(least, s.is(env).N), false
	}
	switch {
	case code == impl.SolveYes && n == least && !none:
	case code == impl.SolveNo && n == 0 && none:
	case code == impl.SolveMuch && n == 0:
	default:
		t.Fatalf("%s: %d, %d, but the least is %d, %v", what, n, code, least, none)
	}
	return n, code
}

// eachTold calls with what each of the functions tells of terms, with one term more for those that ask for one; all are none, if so told.
func eachTold(d []impl.Decl, list []impl.Term, x impl.Term, do func(word string, none bool, code int)) {
	env, code := impl.Solve(d, list)
	do("Solve", len(env) == 0, code)
	left, code := impl.SolveCore(d, list)
	do("SolveCore", len(left) == 0, code)
	for _, most := range []int{0, 1, 20, 21} {
		ways, code := impl.SolveWays(d, list, most)
		do("SolveWays", len(ways) == 0, code)
	}
	env, code = impl.SolveProve(d, list, x)
	do("SolveProve", len(env) == 0, code)
	n, code := impl.SolveLeast(d, list, x)
	do("SolveLeast", n == 0, code)
}

// noForm asks that nothing is told of terms, whatever is asked of them.
func noForm(t *testing.T, d []impl.Decl, list []impl.Term, why string) {
	t.Helper()
	for _, x := range []impl.Term{{Op: 24}, plain(25, impl.Term{Op: 24}), {Op: 20, A: 1}, {Op: 20, A: 4, B: 15}, {}} {
		eachTold(d, list, x, func(word string, none bool, code int) {
			t.Helper()
			if code != impl.SolveForm || !none {
				t.Errorf("%s, %s: %d, nothing: %v", word, why, code, none)
			}
		})
	}
}

// noProve asks that nothing is told of a term that is asked of.
func noProve(t *testing.T, d []impl.Decl, list []impl.Term, x impl.Term, why string) {
	t.Helper()
	if env, code := impl.SolveProve(d, list, x); len(env) != 0 || code != impl.SolveForm {
		t.Errorf("SolveProve, %s: %v, %d", why, env, code)
	}
}

// noNumber asks that nothing is told of a term whose least number is asked for.
func noNumber(t *testing.T, d []impl.Decl, list []impl.Term, x impl.Term, why string) {
	t.Helper()
	if n, code := impl.SolveLeast(d, list, x); n != 0 || code != impl.SolveForm {
		t.Errorf("SolveLeast, %s: %d, %d", why, n, code)
	}
}

func TestSolveConstants(t *testing.T) {
	if impl.SolveYes != 1 || impl.SolveNo != 2 || impl.SolveMuch != 3 || impl.SolveForm != 4 || impl.WaysMost != 20 {
		t.Error(impl.SolveYes, impl.SolveNo, impl.SolveMuch, impl.SolveForm, impl.WaysMost)
	}
}

// TestSolveWritten has what is told written by hand.
func TestSolveWritten(t *testing.T) {
	one, two, four := twoNames(1), twoNames(2), twoNames(4)
	odd := []impl.Decl{{Name: "b", Wide: 3}, {Name: "a", Wide: 1}, {Name: "not", Wide: 4}}
	for _, c := range []struct {
		d     []impl.Decl
		texts []string
		env   []int
		code  int
	}{
		{nil, nil, nil, 1}, {nil, []string{"true"}, nil, 1}, {nil, []string{"(no true)"}, nil, 2}, {nil, []string{"true", "(no true)", "true"}, nil, 2}, {nil, []string{"(less #01 #10)", "(same #1 #1)"}, nil, 1}, {nil, []string{"(less #10 #01)"}, nil, 2}, {nil, []string{"(under #10 #01)"}, nil, 1},
		{one, nil, []int{0, 0}, 1}, {two, nil, []int{0, 0}, 1}, {four, nil, []int{0, 0}, 1}, {odd, nil, []int{0, 0, 0}, 1}, {odd, []string{"true", "true"}, []int{0, 0, 0}, 1}, {odd, []string{"true", "(no true)"}, nil, 2},
		{one, []string{"(same x y)"}, []int{0, 0}, 1}, {one, []string{"(no (same x y))"}, []int{0, 1}, 1}, {one, []string{"(less x y)"}, []int{0, 1}, 1}, {one, []string{"(less y x)"}, []int{1, 0}, 1}, {one, []string{"(under x y)"}, []int{1, 0}, 1}, {one, []string{"(less x y)", "(less y x)"}, nil, 2},
		{two, []string{"(same (add x y) #11)"}, []int{0, 3}, 1}, {two, []string{"(same (add x y) #11)", "(less y x)"}, []int{2, 1}, 1}, {two, []string{"(same (mul x y) #11)"}, []int{1, 3}, 1}, {two, []string{"(same (mul x x) #10)"}, nil, 2}, {two, []string{"(same (sub x y) #01)"}, []int{0, 3}, 1}, {two, []string{"(same (cat (cut 0 0 x) (cut 1 1 y)) #10)"}, []int{1, 0}, 1},
		{four, []string{"(same (mul x y) #1100)", "(less x y)"}, []int{1, 12}, 1}, {four, []string{"(same (mul x y) #1100)", "(less x y)", "(same (rem y x) #0001)"}, []int{3, 4}, 1}, {four, []string{"(same (div x y) #0011)"}, []int{3, 1}, 1}, {four, []string{"(same (div x y) #1111)"}, []int{0, 0}, 1}, {four, []string{"(same (div x y) #1111)", "(no (same y #0000))"}, []int{15, 1}, 1},
		{four, []string{"(same (shl x y) #1000)"}, []int{1, 3}, 1}, {four, []string{"(same (sar x y) #1110)"}, []int{8, 2}, 1}, {four, []string{"(same (shr x y) #1110)", "(less #0000 y)"}, nil, 2}, {four, []string{"(under x y)", "(less y x)"}, []int{8, 0}, 1}, {four, []string{"(if (same x #1111) (same y #0001) (less #1101 x))"}, []int{14, 0}, 1}, {four, []string{"(any (both (same x #1001) (same y #0110)) (same x #1111))"}, []int{9, 6}, 1},
		{odd, []string{"(same b #101)", "(same a #1)", "(same not #0110)"}, []int{5, 1, 6}, 1}, {odd, []string{"(same (cat b a) not)", "(less #0110 not)"}, []int{3, 1, 7}, 1}, {odd, []string{"(less (cut 2 0 not) b)"}, []int{1, 0, 0}, 1}, {odd, []string{"(same (cat a b) (not not))", "(same not #0011)"}, []int{4, 1, 3}, 1}, {odd, []string{"(same a (not a))"}, nil, 2},
		{four, []string{slowYes}, nil, 3}, {four, []string{slowNo}, nil, 3}, {four, []string{gates601}, nil, 3}, {four, []string{"true", gates601}, nil, 3},
	} {
		list := termsOf(t, c.d, c.texts...)
		if env, code := impl.Solve(c.d, list); code != c.code || !slices.Equal(env, c.env) {
			t.Errorf("Solve(%v) = %v, %d, want %v, %d", c.texts, env, code, c.env, c.code)
		}
		solves(t, c.d, samplesOf(t, c.d, c.texts...)...)
	}
}

// TestSolveNoTerms has no terms at all, of all names that there may be.
func TestSolveNoTerms(t *testing.T) {
	for _, d := range allDecls() {
		zeros := make([]int, len(d))
		for _, list := range [][]impl.Term{nil, {}} {
			if env, code := impl.Solve(d, list); code != 1 || !slices.Equal(env, zeros) {
				t.Errorf("Solve(%v) of no terms: %v, %d", d, env, code)
			}
			if left, code := impl.SolveCore(d, list); code != 1 || len(left) != 0 {
				t.Errorf("SolveCore(%v) of no terms: %v, %d", d, left, code)
			}
			if env, code := impl.SolveProve(d, list, impl.Term{Op: 24}); code != 2 || len(env) != 0 {
				t.Errorf("SolveProve(%v) of no terms, true: %v, %d", d, env, code)
			}
			if env, code := impl.SolveProve(d, list, plain(25, impl.Term{Op: 24})); code != 1 || !slices.Equal(env, zeros) {
				t.Errorf("SolveProve(%v) of no terms, not true: %v, %d", d, env, code)
			}
			all := envsWanted(d)
			some, want := all[:min(20, len(all))], 2
			if len(all) >= 20 {
				want = 1
			}
			if ways, code := impl.SolveWays(d, list, 20); code != want || !slices.EqualFunc(ways, some, slices.Equal) {
				t.Errorf("SolveWays(%v) of no terms: %v, %d", d, ways, code)
			}
			for i := range d {
				if n, code := impl.SolveLeast(d, list, nameSample(d, i).t); code != 1 || n != 0 {
					t.Errorf("SolveLeast(%v) of no terms: %d, %d", d, n, code)
				}
				if n, code := impl.SolveLeast(d, list, unSample(impl.OpNot, nameSample(d, i)).t); code != 1 || n != 0 {
					t.Errorf("SolveLeast(%v) of no terms, turned: %d, %d", d, n, code)
				}
			}
		}
	}
}

// truthsOf is samples that are true or not: a sample itself, and not, or what it may be of bits.
func truthsOf(s sample) []sample {
	if s.sort == 0 {
		return []sample{s, noSample(s)}
	}
	list := []sample{}
	for n := range power(s.sort) {
		number := vecSample(impl.Vec{Wide: s.sort, N: n})
		switch {
		case n%3 == 0:
			list = append(list, pairSample(impl.OpSame, s, number))
		case n%6 == 1:
			list = append(list, pairSample(impl.OpLess, number, s))
		case n%6 == 4:
			list = append(list, pairSample(impl.OpUnder, s, number))
		}
	}
	return list
}

// TestSolveKinds has each kind of term, of two names of 1 to 4 bits, of one twice, and of a name and a number.
func TestSolveKinds(t *testing.T) {
	codes := map[int]int{}
	for wide := 1; wide <= 4; wide++ {
		d := twoNames(wide)
		x, y := nameSample(d, 0), nameSample(d, 1)
		a, b := vecSample(impl.Vec{Wide: wide, N: wide}), vecSample(impl.Vec{Wide: wide, N: power(wide) - 1})
		for i, pair := range [][2]sample{{x, y}, {y, x}, {x, x}, {x, a}, {b, y}, {a, b}} {
			eachKind(pair[0], pair[1], func(s sample) {
				for k, truth := range truthsOf(s) {
					if wide < 4 || i == 0 || (i+k)%3 == 0 {
						codes[solves(t, d, truth)]++
					}
				}
			})
		}
		for _, truth := range []sample{trueSample(), pairSample(impl.OpLess, x, y), pairSample(impl.OpUnder, y, x)} {
			for _, other := range []sample{noSample(trueSample()), pairSample(impl.OpSame, x, a), noSample(pairSample(impl.OpUnder, y, x))} {
				for _, s := range []sample{noSample(truth), pairSample(impl.TermBoth, truth, other), pairSample(impl.TermAny, truth, other), pairSample(impl.TermAny, other, noSample(truth)), ifSample(truth, other, noSample(other)), ifSample(other, truth, other)} {
					codes[solves(t, d, s)]++
					codes[solves(t, d, s, other)]++
					codes[solves(t, d, truth, s)]++
				}
			}
		}
	}
	if codes[1] < 300 || codes[2] < 100 {
		t.Error("too few:", codes)
	}
}

// someSamples is up to so many samples that are true or not, of some parts each.
func (m *maker) someSamples(many int, parts int) []sample {
	list := []sample{}
	for range many {
		m.left = parts
		list = append(list, m.make(0, 2+m.below(5)))
	}
	return list
}

// TestSolveNames has terms of all names that there may be, of 1 to 8 bits together.
func TestSolveNames(t *testing.T) {
	codes := map[[2]int]int{}
	for i, d := range allDecls() {
		m := maker{seed: uint64(900 + i), d: d}
		for round := range 6 {
			list := m.someSamples(1+round%3, 6+round)
			for k := range d {
				if (round+k)%3 == 0 {
					list = append(list, pairSample(impl.OpLess, vecSample(impl.Vec{Wide: d[k].Wide, N: m.below(power(d[k].Wide))}), nameSample(d, k)))
				}
			}
			codes[[2]int{declBits(d), solves(t, d, list...)}]++
		}
	}
	for bits := 1; bits <= 8; bits++ {
		if codes[[2]int{bits, 1}] < 2 || codes[[2]int{bits, 2}] < 2 {
			t.Error("too few of", bits, "bits:", codes)
		}
	}
}

// TestSolveMade has any terms, in lists of up to as many as there may be.
func TestSolveMade(t *testing.T) {
	codes := map[int]int{}
	for i, d := range someDecls() {
		m := maker{seed: uint64(70 + i), d: d}
		for round := range 250 {
			list := m.someSamples(round%9, 4+m.below(17))
			if len(list) > 3 && round%2 == 0 { // else most lists can not be true
				for k := range list {
					list[k] = pairSample(impl.TermAny, list[k], list[(k+1)%len(list)])
				}
			}
			if !askable(d, termsIn(list)) {
				continue
			}
			codes[solves(t, d, list...)]++
		}
	}
	if codes[1] < 200 || codes[2] < 200 {
		t.Error("too few:", codes)
	}
}

// TestSolveMost has as many terms as there may be, none of which follows from the others.
func TestSolveMost(t *testing.T) {
	d := twoNames(4)
	texts := []string{"(less #0001 x)", "(no (same x #0011))", "(no (same x #0111))", "(same (and x #0001) #0001)", "(less #0010 y)", "(no (same y #0100))", "(same (and y #0001) #0000)", "(no (same (add x y) #1011))"}
	all := samplesOf(t, d, texts...)
	if env, code := impl.Solve(d, termsIn(all)); code != 1 || !slices.Equal(env, []int{5, 8}) {
		t.Error("eight terms:", env, code)
	}
	solves(t, d, all...)
	for i := range all {
		some := slices.Delete(slices.Clone(all), i, i+1)
		if code := solves(t, d, some...); code != 1 {
			t.Error("seven terms:", code)
		}
		if code := solves(t, d, append(some, noSample(trueSample()))...); code != 2 {
			t.Error("seven terms, and one that is not true:", code)
		}
		if code := proves(t, d, some, all[i]); code != 1 {
			t.Errorf("%s of the seven others: %d", texts[i], code)
		}
	}
	for many := range 9 {
		solves(t, d, all[:many]...)
		solves(t, d, all[8-many:]...)
		solves(t, d, slices.Repeat(all[3:4], many)...)
	}
}

// TestSolveOrder has terms in each order: what they tell is the same, if the search comes to an end.
func TestSolveOrder(t *testing.T) {
	d := twoNames(4)
	for _, texts := range [][]string{{"(same (mul x y) #1100)", "(less x y)", "(same (rem y x) #0001)"}, {"(less x y)", "(less y x)", "true"}, {"(under x y)", "(no (less x y))", "(same (xor x y) #1111)"}} {
		one := samplesOf(t, d, texts...)
		env, code := impl.Solve(d, termsIn(one))
		for _, order := range [][]int{{0, 2, 1}, {1, 0, 2}, {1, 2, 0}, {2, 0, 1}, {2, 1, 0}} {
			list := []sample{one[order[0]], one[order[1]], one[order[2]]}
			other, otherCode := impl.Solve(d, termsIn(list))
			if code != otherCode || !slices.Equal(env, other) {
				t.Errorf("%v in the order %v: %v, %d, want %v, %d", texts, order, other, otherCode, env, code)
			}
			solves(t, d, list...)
		}
	}
}

// TestSolveMuch has searches that do not come to an end, and terms without room for a gate.
func TestSolveMuch(t *testing.T) {
	d := twoNames(4)
	for _, texts := range [][]string{
		{slowYes}, {slowNo}, {"true", slowYes}, {slowYes, slowYes}, {"(less #0000 y)", "(less y (rem (div x y) x))"}, {"(no (same (add (mul (div x y) y) (rem x y)) x))"}, {slowNo, slowYes},
		{gates601}, {"(no " + gates601 + ")"}, {gates600, "(less x y)"}, {"(less x y)", gates600}, {"(no true)", gates601}, {gates601, "(no true)"}, {"(less x x)", gates601}, {"(same " + bits601 + " x)"}, {gates600, gates601}, {"(less " + tooMuch + " x)", "(same x y)"},
	} {
		list := samplesOf(t, d, texts...)
		if code := solves(t, d, list...); code != 3 {
			t.Errorf("Solve(%v) tells %d", texts, code)
		}
		if _, code := cores(t, d, list...); code != 3 {
			t.Errorf("SolveCore(%v) tells %d", texts, code)
		}
		if many, code := tellsWays(t, d, 1, list...); code != 3 || many != 0 {
			t.Errorf("SolveWays(%v) tells %d ways, %d", texts, many, code)
		}
		// No way is asked for, so that none is missing.
		if many, code := tellsWays(t, d, 0, list...); code != 1 || many != 0 {
			t.Errorf("SolveWays(%v) at most 0 tells %d ways, %d", texts, many, code)
		}
	}
	// As many gates as there may be are no hindrance.
	for _, text := range []string{gates599, gates600, "(same " + bits600 + " x)"} {
		if text == gates599 || text == gates600 {
			if code := solves(t, d, sampleOf(t, d, text)); code != 1 {
				t.Errorf("%s tells %d", text, code)
			}
		}
		solves(t, d, sampleOf(t, d, text))
	}
}

// TestSolveShort has terms that have no room for a gate, but for what is left of them when they are made shorter.
func TestSolveShort(t *testing.T) {
	d := twoNames(4)
	big := "(under (div (div x y) (neg x)) (div (div y x) (neg y)))"
	for text, code := range map[string]int{
		"(both (no true) _)": 2, "(both _ (no true))": 2, "(any true _)": 1, "(any _ true)": 1, "(if true (less x y) _)": 1, "(if (no true) _ (less x y))": 1, "(if (less #01 #10) (less y y) _)": 2, "(both (less x x) _)": 2, "(no (any _ (same x x)))": 2, "(both (no (no (no true))) _)": 2, "(if _ true true)": 1,
		"_": 3, "(both true _)": 3, "(any (no true) _)": 3, "(no (no _))": 3, "(any (less x y) _)": 3, "(both _ (less x y))": 3,
	} {
		s := sampleOf(t, d, strings.ReplaceAll(text, "_", big))
		if got := solves(t, d, s); got != code {
			t.Errorf("%s tells %d, want %d", text, got, code)
		}
		if got := solves(t, d, sampleOf(t, d, "(less x y)"), s); got != code {
			t.Errorf("%s behind another tells %d, want %d", text, got, code)
		}
		if many, got := tellsWays(t, d, 3, s); got != code || many != map[int]int{1: 3}[code] {
			t.Errorf("%s tells %d ways, %d", text, many, got)
		}
		cores(t, d, sampleOf(t, d, "(less x y)"), s)
	}
	for text, code := range map[string]int{"(any true _)": 2, "(both (no true) _)": 1, "(both _ (no true))": 1, "(no (no _))": 3, "_": 3} {
		if got := proves(t, d, nil, sampleOf(t, d, strings.ReplaceAll(text, "_", big))); got != code {
			t.Errorf("SolveProve of %s tells %d, want %d", text, got, code)
		}
	}
	for _, c := range []struct {
		text    string
		n, code int
	}{{"(and #0000 _)", 0, 1}, {"(if true (or x #0110) _)", 6, 1}, {"(mul _ #0001)", 0, 3}, {"_", 0, 3}} {
		if n, code := leasts(t, d, nil, sampleOf(t, d, strings.ReplaceAll(c.text, "_", tooMuch))); n != c.n || code != c.code {
			t.Errorf("SolveLeast of %s tells %d, %d, want %d, %d", c.text, n, code, c.n, c.code)
		}
	}
}

// TestSolveProveWritten has terms that follow from others, and such as do not, by hand.
func TestSolveProveWritten(t *testing.T) {
	one, two, four := twoNames(1), twoNames(2), twoNames(4)
	for _, c := range []struct {
		d     []impl.Decl
		texts []string
		text  string
		env   []int
		code  int
	}{
		{nil, nil, "true", nil, 2}, {nil, nil, "(no true)", nil, 1}, {nil, []string{"(no true)"}, "(no true)", nil, 2}, {nil, []string{"true"}, "(less #01 #10)", nil, 2},
		{one, nil, "(same x y)", []int{0, 1}, 1}, {one, nil, "(any (same x y) (same x (not y)))", nil, 2}, {one, []string{"(same x #1)"}, "(same y #1)", []int{1, 0}, 1}, {one, []string{"(less x y)"}, "(same y #1)", nil, 2}, {one, []string{"(less x y)"}, "(same x #1)", []int{0, 1}, 1},
		{two, []string{"(less x y)", "(less y x)"}, "(same x y)", nil, 2}, {two, []string{"(no (less x y))", "(no (less y x))"}, "(same x y)", nil, 2}, {two, []string{"(no (less x y))"}, "(same x y)", []int{1, 0}, 1}, {two, nil, "(no (same x #10))", []int{2, 0}, 1}, {two, []string{"(same y #11)"}, "(less x #10)", []int{2, 3}, 1},
		{four, nil, "(same (add x y) (add y x))", nil, 2}, {four, nil, "(same (sub x y) (sub y x))", []int{0, 1}, 1}, {four, []string{"(less x y)"}, "(under x y)", []int{0, 8}, 1}, {four, []string{"(less x y)", "(less y #1000)"}, "(under x y)", nil, 2}, {four, []string{"(less #0000 x)"}, "(less #0001 x)", []int{1, 0}, 1}, {four, []string{"(same (mul x y) #1100)", "(less x y)"}, "(less #0001 x)", []int{1, 12}, 1},
		{four, nil, slowNo, []int{0, 0}, 1}, {four, nil, "(no " + slowNo + ")", nil, 3}, {four, nil, "(same (mul (add x y) (sub x y)) (sub (mul x x) (mul y y)))", nil, 3}, {four, []string{gates601}, "true", nil, 3}, {four, nil, gates601, nil, 3}, {four, []string{"(no true)"}, gates601, nil, 3},
		// In another order these searches would end otherwise.
		{four, []string{"(less (mul x #0011) (rem x y))"}, "(under (mul (neg x) y) (add #0011 x))", nil, 3}, {four, []string{"(same (div (neg x) y) y)"}, "(less (rem (not y) y) (rem x (neg x)))", []int{11, 2}, 1}, {four, []string{"(less (mul (not y) y) x)"}, "(less (rem y x) (add y (not y)))", nil, 3}, {four, []string{"(same (div x (not y)) (add (not y) x))"}, "(same (rem (not y) x) (rem y y))", []int{3, 2}, 1},
	} {
		list := termsOf(t, c.d, c.texts...)
		if env, code := impl.SolveProve(c.d, list, termOf(t, c.d, c.text)); code != c.code || !slices.Equal(env, c.env) {
			t.Errorf("SolveProve(%v, %s) = %v, %d, want %v, %d", c.texts, c.text, env, code, c.env, c.code)
		}
		proves(t, c.d, samplesOf(t, c.d, c.texts...), sampleOf(t, c.d, c.text))
	}
}

// TestSolveProveMade has any terms, and one more, which follows from them at times. What is among them always does.
func TestSolveProveMade(t *testing.T) {
	codes := map[int]int{}
	for i, d := range someDecls() {
		m := maker{seed: uint64(170 + i), d: d}
		for round := range 150 {
			list := m.someSamples(1+round%8, 4+m.below(12))
			if !askable(d, termsIn(list)) || partsOf(list[0]) > 19 || levelsOf(list[0]) > 6 {
				continue
			}
			codes[proves(t, d, list[1:], list[0])]++
			codes[proves(t, d, list[1:min(2, len(list))], list[0])]++
			if len(list) < 8 {
				if code := proves(t, d, list, list[0]); code == 1 {
					t.Error("a term does not follow from itself:", list[0].text)
				}
			}
		}
	}
	if codes[1] < 150 || codes[2] < 150 {
		t.Error("too few:", codes)
	}
}

// TestSolveProveSize has a term whose `no` is as great, as deep or as much behind others as there may be, and one more.
func TestSolveProveSize(t *testing.T) {
	d := twoNames(4)
	for parts := 1; parts <= 23; parts++ {
		s := manyTruth(parts)
		if parts <= 19 {
			proves(t, nil, nil, s)
			proves(t, d, []sample{s}, s)
		} else {
			noProve(t, nil, nil, s.t, "so many parts")
			noProve(t, d, []impl.Term{{Op: 24}}, s.t, "so many parts")
		}
	}
	for levels := 1; levels <= 10; levels++ {
		s := chain(levels)
		if levels <= 6 {
			proves(t, nil, nil, s)
			proves(t, d, []sample{s}, s)
		} else {
			noProve(t, nil, nil, s.t, "so many levels")
			noProve(t, d, []impl.Term{{Op: 24}}, s.t, "so many levels")
		}
	}
	less := sampleOf(t, d, "(less x y)")
	for many := range 8 {
		proves(t, d, slices.Repeat([]sample{less}, many), sampleOf(t, d, "(under x y)"))
	}
	for _, many := range []int{8, 9, 16, 1000, 1000000} {
		list := slices.Repeat([]impl.Term{less.t}, many)
		noProve(t, d, list, less.t, "one term too many")
		noProve(t, d, list, impl.Term{Op: 24}, "one term too many, which is true")
		noProve(t, d, list, plain(25, impl.Term{Op: 24}), "one term too many, which is not true")
	}
}

// TestSolveProveWrong has a term that is of bits, or is not right.
func TestSolveProveWrong(t *testing.T) {
	d := twoNames(4)
	for _, x := range []impl.Term{{}, {Op: 18}, {Op: 28}, {Op: 20, A: 1}, {Op: 20, A: 5}, {Op: 20, A: 4, B: 15}, {Op: 21, Name: "x"}, {Op: 21, Name: "z"}, {Op: 21}, {Op: 24, A: 1}, {Op: 24, Name: "x"}, plain(25), plain(25, impl.Term{Op: 20, A: 1}), plain(15, impl.Term{Op: 24}, impl.Term{Op: 24}), plain(6, impl.Term{Op: 20, A: 1}, impl.Term{Op: 20, A: 1}), termOf(t, d, bits601)} {
		for _, texts := range [][]string{nil, {"true"}, {"(no true)"}, {"(less x y)", "(less y x)"}, {slowYes}, {gates601}} {
			noProve(t, d, termsOf(t, d, texts...), x, "a term that is not true or not")
		}
	}
}

// TestSolveCoreWritten has what is left of terms, by hand.
func TestSolveCoreWritten(t *testing.T) {
	one, two, four := twoNames(1), twoNames(2), twoNames(4)
	three := append(twoNames(2), impl.Decl{Name: "z", Wide: 2})
	for _, c := range []struct {
		d     []impl.Decl
		texts []string
		left  []int
		code  int
	}{
		{nil, nil, nil, 1}, {nil, []string{"true"}, nil, 1}, {nil, []string{"(no true)"}, []int{0}, 2}, {nil, []string{"(no true)", "(no true)"}, []int{1}, 2}, {nil, []string{"true", "(no true)", "true"}, []int{1}, 2}, {nil, []string{"(no true)", "true", "(less #1 #1)", "true"}, []int{2}, 2},
		{one, []string{"(same x #0)", "(same y #1)"}, nil, 1}, {one, []string{"(same x #0)", "(same x #1)"}, []int{0, 1}, 2}, {one, []string{"(same x #0)", "(same x #1)", "(same x #0)"}, []int{1, 2}, 2}, {one, []string{"(same x #0)", "(same x #1)", "(same x #0)", "(same x #1)"}, []int{2, 3}, 2}, {one, []string{"(same x #0)", "(same x #0)", "(same x #1)", "(same x #1)"}, []int{1, 3}, 2},
		{one, []string{"(same x #0)", "(same x #1)", "(same y #0)", "(same y #1)"}, []int{2, 3}, 2}, {one, []string{"(same x #0)", "(same y #0)", "(same x #1)", "(same y #1)"}, []int{1, 3}, 2}, {one, []string{"(same x #0)", "(same y #0)", "(same y #1)", "(same x #1)"}, []int{1, 2}, 2}, {one, []string{"(no true)", "(same x #0)", "(same x #1)"}, []int{1, 2}, 2}, {one, []string{"(same x #0)", "(no true)", "(same x #1)"}, []int{1}, 2}, {one, []string{"(same x #0)", "(same x #1)", "(no true)"}, []int{2}, 2},
		{two, []string{"(no (same x #00))", "(no (same x #01))", "(no (same x #10))", "(no (same x #11))"}, []int{0, 1, 2, 3}, 2}, {two, []string{"(no (same x #00))", "(no (same x #01))", "(same y x)", "(no (same y #10))", "(no (same y #11))"}, []int{0, 1, 2, 3, 4}, 2}, {two, []string{"(less x y)", "(no (same x #00))", "(same y #01)", "true", "(less x #10)"}, []int{0, 1, 2}, 2}, {two, []string{"(less x y)", "(less y #01)", "(less x #10)", "(less y #10)", "(less #00 x)"}, []int{0, 3, 4}, 2},
		{three, []string{"(less x y)", "(less y z)", "(less z x)"}, []int{0, 1, 2}, 2}, {three, []string{"(less x y)", "(less y z)", "(same x #10)", "(less z x)"}, []int{0, 1, 3}, 2}, {three, []string{"(less x y)", "(less y z)", "(less z #10)"}, []int{0, 1, 2}, 2}, {three, []string{"(same x y)", "(same y z)", "(less x z)", "(less z x)"}, []int{2, 3}, 2}, {three, []string{"(less z x)", "(less x z)", "(same x y)", "(same y z)"}, []int{1, 2, 3}, 2},
		{four, []string{"(less x y)", "(same x #0001)", "(less y x)", "(same y #0000)"}, []int{0, 3}, 2}, {four, []string{"(same (mul x y) #1100)", "(less x y)", "(same (rem y x) #0001)"}, nil, 1}, {four, []string{"(same (mul x y) #1100)", "(same (and x y) #0001)", "(less x y)", "(same (mul x x) #0010)"}, []int{3}, 2}, {four, []string{"(same (mul x y) #1101)", "(less x y)", "(same (and x #0001) #0000)"}, []int{0, 2}, 2},
		{four, []string{slowNo}, nil, 3}, {four, []string{slowYes}, nil, 3}, {four, []string{slowNo, "(no true)"}, []int{1}, 2}, {four, []string{"(no true)", slowNo}, []int{0}, 2}, {four, []string{"(less x y)", slowNo, "(less y x)"}, []int{0, 2}, 2}, {four, []string{slowYes, "(same y #0000)"}, []int{0, 1}, 2}, {four, []string{gates601}, nil, 3}, {four, []string{"(no true)", gates601}, nil, 3}, {four, []string{gates600, "(no " + gates600 + ")"}, []int{0, 1}, 2}, {four, []string{"(no true)", "(both (no true) " + gates601 + ")"}, []int{1}, 2},
	} {
		list := termsOf(t, c.d, c.texts...)
		if left, code := impl.SolveCore(c.d, list); code != c.code || !slices.Equal(left, c.left) {
			t.Errorf("SolveCore(%v) = %v, %d, want %v, %d", c.texts, left, code, c.left, c.code)
		}
		cores(t, c.d, samplesOf(t, c.d, c.texts...)...)
	}
}

// TestSolveCoreAll has as many terms as there may be, all of which are needed, and then others in their places.
func TestSolveCoreAll(t *testing.T) {
	d := []impl.Decl{{Name: "x", Wide: 3}, {Name: "y", Wide: 4}}
	all, none := []sample{}, sampleOf(t, d, "(same y y)")
	for n := range 8 {
		all = append(all, noSample(pairSample(impl.OpSame, nameSample(d, 0), vecSample(impl.Vec{Wide: 3, N: n}))))
	}
	if left, code := cores(t, d, all...); code != 2 || !slices.Equal(left, []int{0, 1, 2, 3, 4, 5, 6, 7}) {
		t.Error("all of eight:", left, code)
	}
	for i := range all {
		some := slices.Clone(all)
		some[i] = none
		if left, code := cores(t, d, some...); code != 1 {
			t.Error("seven of eight:", left, code)
		}
		for k := range all {
			some[i] = sampleOf(t, d, "(less y y)")
			some[k] = noSample(trueSample())
			if left, code := cores(t, d, some...); code != 2 || !slices.Equal(left, []int{max(i, k)}) {
				t.Error("one by itself:", i, k, left, code)
			}
			some[k] = all[k]
		}
	}
}

// TestSolveCoreMade has any terms that can not all be true. Of few bits each that is left is needed.
func TestSolveCoreMade(t *testing.T) {
	sizes, codes := map[int]int{}, map[int]int{}
	for i, d := range [][]impl.Decl{{{Name: "x", Wide: 1}, {Name: "y", Wide: 2}, {Name: "z", Wide: 1}}, twoNames(2), twoNames(3), twoNames(4)} {
		m := maker{seed: uint64(270 + i), d: d}
		for round := range 150 {
			list := m.someSamples(2+round%7, 12)
			if round%3 > 0 {
				for k := range list { // else most terms can not be true by themselves
					wide := d[k%len(d)].Wide
					list[k] = pairSample(15+m.below(3), nameSample(d, k%len(d)), m.make(wide, 1+m.below(2)))
				}
			}
			left, code := cores(t, d, list...)
			codes[code]++
			if code != impl.SolveNo {
				continue
			}
			sizes[len(left)]++
			for k := range left {
				some := []sample{}
				for _, place := range slices.Delete(slices.Clone(left), k, k+1) {
					some = append(some, list[place])
				}
				if i < 3 && len(trueWays(d, some)) == 0 {
					t.Errorf("SolveCore %s: %v is left, and needs no %d", textsIn(list), left, left[k])
				}
			}
		}
	}
	if codes[1] < 30 || codes[2] < 100 || sizes[1] < 20 || sizes[2] < 20 || sizes[3] < 5 {
		t.Error("too few:", codes, sizes)
	}
}

// TestSolveWaysWritten has all ways of some terms, by hand.
func TestSolveWaysWritten(t *testing.T) {
	one, two, four := twoNames(1), twoNames(2), twoNames(4)
	odd := []impl.Decl{{Name: "b", Wide: 3}, {Name: "a", Wide: 1}}
	for _, c := range []struct {
		d     []impl.Decl
		texts []string
		most  int
		ways  [][]int
		code  int
	}{
		{nil, nil, 0, nil, 1}, {nil, nil, 1, [][]int{{}}, 1}, {nil, nil, 2, [][]int{{}}, 2}, {nil, nil, 20, [][]int{{}}, 2}, {nil, []string{"true"}, 3, [][]int{{}}, 2}, {nil, []string{"(no true)"}, 3, nil, 2}, {nil, []string{"(no true)"}, 0, nil, 1},
		{one, nil, 3, [][]int{{0, 0}, {0, 1}, {1, 0}}, 1}, {one, nil, 4, [][]int{{0, 0}, {0, 1}, {1, 0}, {1, 1}}, 1}, {one, nil, 5, [][]int{{0, 0}, {0, 1}, {1, 0}, {1, 1}}, 2}, {one, []string{"(less x y)"}, 20, [][]int{{0, 1}}, 2}, {one, []string{"(less x y)"}, 1, [][]int{{0, 1}}, 1}, {one, []string{"(same x #1)"}, 20, [][]int{{1, 0}, {1, 1}}, 2}, {one, []string{"(same y #1)"}, 20, [][]int{{0, 1}, {1, 1}}, 2},
		{two, []string{"(same (add x y) #00)"}, 20, [][]int{{0, 0}, {1, 3}, {2, 2}, {3, 1}}, 2}, {two, []string{"(under x y)", "(less y x)"}, 20, [][]int{{2, 0}, {2, 1}, {3, 0}, {3, 1}}, 2}, {two, []string{"(less x y)", "(less y x)"}, 20, nil, 2}, {two, []string{"(same (cut 0 0 x) #1)", "(same (cut 1 1 y) #0)"}, 3, [][]int{{1, 0}, {1, 1}, {3, 0}}, 1},
		{four, []string{"(same (mul x y) #1100)", "(less x y)"}, 3, [][]int{{1, 12}, {2, 6}, {2, 14}}, 1}, {four, []string{"(same (and x #0111) #0011)", "(same y #0001)"}, 5, [][]int{{3, 1}, {11, 1}}, 2}, {four, []string{"(same x #1111)", "(less #1101 y)"}, 20, [][]int{{15, 14}, {15, 15}}, 2}, {four, []string{"(same (mul (mul x x) (mul x x)) #0000)", "(same y #1000)"}, 20, [][]int{{0, 8}, {2, 8}, {4, 8}, {6, 8}, {8, 8}, {10, 8}, {12, 8}, {14, 8}}, 2},
		{odd, []string{"(same (cat b a) #1011)"}, 2, [][]int{{5, 1}}, 2}, {odd, []string{"(less #101 b)"}, 20, [][]int{{6, 0}, {6, 1}, {7, 0}, {7, 1}}, 2},
		{four, []string{slowYes}, 20, nil, 3}, {four, []string{slowNo}, 20, nil, 3}, {four, []string{gates601}, 1, nil, 3}, {four, []string{slowYes}, 0, nil, 1}, {four, []string{gates601}, 0, nil, 1}, {four, []string{"(less y (rem (div x y) x))"}, 20, [][]int{{0, 0}, {2, 0}}, 3},
	} {
		list := termsOf(t, c.d, c.texts...)
		ways, code := impl.SolveWays(c.d, list, c.most)
		if code != c.code || !slices.EqualFunc(ways, c.ways, slices.Equal) {
			t.Errorf("SolveWays(%v, %d) = %v, %d, want %v, %d", c.texts, c.most, ways, code, c.ways, c.code)
		}
		tellsWays(t, c.d, c.most, samplesOf(t, c.d, c.texts...)...)
	}
}

// TestSolveWaysEachMost has terms of 0 to 22 ways and of all, each with every most that there may be, and one less and one more.
func TestSolveWaysEachMost(t *testing.T) {
	for bits := 3; bits <= 8; bits++ {
		d := []impl.Decl{{Name: "x", Wide: bits / 2}, {Name: "y", Wide: bits - bits/2}}
		x, y := nameSample(d, 0), nameSample(d, 1)
		low := power(d[1].Wide)
		for n := range min(23, power(bits)+1) {
			list := []sample{} // x and y, one behind the other, are less than n
			if n < power(bits) {
				high, rest := vecSample(impl.Vec{Wide: d[0].Wide, N: n / low}), vecSample(impl.Vec{Wide: d[1].Wide, N: n % low})
				list = append(list, pairSample(impl.TermAny, pairSample(impl.OpLess, x, high), pairSample(impl.TermBoth, pairSample(impl.OpSame, x, high), pairSample(impl.OpLess, y, rest))))
			}
			if len(trueWays(d, list)) != n {
				t.Fatal("the test itself is not sure of", textsIn(list))
			}
			for most := -1; most <= 21; most++ {
				if bits > 3 && bits < 8 && (most+n)%5 > 0 {
					continue
				}
				many, code := tellsWaysOrForm(t, d, most, list)
				want := map[bool]int{true: 1, false: 2}[n >= most]
				if most < 0 || most > 20 {
					want = 4
				}
				if code != want || want != 4 && many != min(n, most) {
					t.Errorf("%d of %d ways: %d, %d", most, n, many, code)
				}
			}
		}
	}
}

// tellsWaysOrForm is tellsWays, but of a most that there may not be asks that nothing is told.
func tellsWaysOrForm(t *testing.T, d []impl.Decl, most int, samples []sample) (int, int) {
	t.Helper()
	if most >= 0 && most <= 20 {
		return tellsWays(t, d, most, samples...)
	}
	ways, code := impl.SolveWays(d, termsIn(samples), most)
	if len(ways) != 0 || code != impl.SolveForm {
		t.Errorf("SolveWays %s, %d: %v, %d", textsIn(samples), most, ways, code)
	}
	return len(ways), code
}

// TestSolveWaysMade has any terms.
func TestSolveWaysMade(t *testing.T) {
	codes := map[int]int{}
	for i, d := range append(someDecls(), allDecls()[1:20]...) {
		m := maker{seed: uint64(370 + i), d: d}
		for round := range 24 {
			list := m.someSamples(1+round%4, 4+m.below(14))
			if askable(d, termsIn(list)) {
				_, code := tellsWays(t, d, round%21, list...)
				codes[code]++
			}
		}
	}
	if codes[1] < 100 || codes[2] < 100 {
		t.Error("too few:", codes)
	}
}

// TestSolveWaysMuch has terms of which some ways are told, and then a search does not come to an end: so it is told, but for those who ask for no more.
func TestSolveWaysMuch(t *testing.T) {
	d := twoNames(4)
	for text, many := range map[string]int{"(no (less (rem x y) y))": 8, "(same (rem x y) (rem y x))": 3, "(less (mul x x) (rem x y))": 13, "(same (rem x y) #0111)": 5, "(under (rem y x) (and (rem x x) x))": 8, gates600: 18} {
		s := sampleOf(t, d, text)
		for most := range 21 {
			got, code := tellsWays(t, d, most, s)
			if want := map[bool]int{true: 1, false: 3}[most <= many]; code != want || got != min(most, many) {
				t.Errorf("%s, %d ways at most: %d, %d", text, most, got, code)
			}
		}
	}
}

// TestSolveWaysBehind has terms of which all ways are told, but would not be, if the clauses that are more stood elsewhere.
func TestSolveWaysBehind(t *testing.T) {
	d := twoNames(4)
	for most := range 21 {
		many, code := tellsWays(t, d, most, sampleOf(t, d, "(same (not (rem y x)) x)"))
		if want := map[bool]int{true: 1, false: 2}[most <= 17]; code != want || many != min(most, 17) {
			t.Errorf("%d ways at most: %d, %d", most, many, code)
		}
	}
}

// TestSolveWaysFree has names that no term asks of: each of their numbers is another way.
func TestSolveWaysFree(t *testing.T) {
	d := []impl.Decl{{Name: "a", Wide: 1}, {Name: "x", Wide: 2}, {Name: "b", Wide: 2}, {Name: "y", Wide: 2}}
	for _, texts := range [][]string{{"(less x y)", "(same x #10)"}, {"(same x y)", "(same a #1)"}, {"(less y #01)", "(less x #01)"}, {"(same b #11)"}, {"true"}} {
		for most := range 21 {
			tellsWays(t, d, most, samplesOf(t, d, texts...)...)
		}
	}
}

// TestSolveWaysMost has a most that there may not be, of terms that are right.
func TestSolveWaysMost(t *testing.T) {
	d := twoNames(4)
	for _, most := range []int{-1, -2, -20, -21, 21, 22, 256, 1000, 1 << 32, 1<<32 + 1, -1 << 32, math.MaxInt, math.MinInt, math.MaxInt - 1, math.MinInt + 1} {
		for _, texts := range [][]string{nil, {"true"}, {"(no true)"}, {"(less x y)"}, {slowYes}, {gates601}} {
			tellsWaysOrForm(t, d, most, samplesOf(t, d, texts...))
			tellsWaysOrForm(t, nil, most, nil)
		}
	}
}

// TestSolveLeastWritten has least numbers, by hand.
func TestSolveLeastWritten(t *testing.T) {
	one, two, four := twoNames(1), twoNames(2), twoNames(4)
	odd := []impl.Decl{{Name: "b", Wide: 3}, {Name: "a", Wide: 1}, {Name: "not", Wide: 4}}
	for _, c := range []struct {
		d       []impl.Decl
		texts   []string
		text    string
		n, code int
	}{
		{nil, nil, "#0", 0, 1}, {nil, nil, "#1", 1, 1}, {nil, nil, "#1101", 13, 1}, {nil, []string{"true"}, "#10", 2, 1}, {nil, []string{"(no true)"}, "#10", 0, 2}, {nil, []string{"(no true)"}, "#0", 0, 2}, {nil, nil, "(add #0111 #0001)", 8, 1}, {nil, nil, "(if (less #01 #10) #011 #000)", 3, 1},
		{one, nil, "x", 0, 1}, {one, []string{"(less x y)"}, "y", 1, 1}, {one, []string{"(less x y)"}, "x", 0, 1}, {one, nil, "(cat x (not x))", 1, 1}, {one, []string{"(same y #1)"}, "(cat y x)", 2, 1}, {one, []string{"(less x y)", "(less y x)"}, "x", 0, 2},
		{two, []string{"(less x y)"}, "y", 1, 1}, {two, []string{"(less x y)"}, "(add x y)", 0, 1}, {two, []string{"(less x y)", "(less y #11)"}, "(add x y)", 1, 1}, {two, nil, "(cat x (not x))", 3, 1}, {two, []string{"(same x #11)"}, "x", 3, 1}, {two, []string{"(no (same x #00))"}, "(div x #01)", 1, 1}, {two, nil, "(div x #00)", 3, 1},
		{odd, []string{"(less #011 b)"}, "b", 4, 1}, {odd, []string{"(same a #1)"}, "a", 1, 1}, {odd, []string{"(same a #1)", "(less not #0011)"}, "(cat b a)", 1, 1}, {odd, []string{"(less not #0011)"}, "(not not)", 13, 1}, {odd, []string{"(same (cut 3 1 not) b)", "(under b #000)"}, "not", 8, 1}, {odd, []string{"(less (cut 3 1 not) b)", "(less b (cut 2 0 not))"}, "b", 2, 1},
		{four, []string{"(less #0100 x)"}, "(mul x #0011)", 1, 1}, {four, []string{"(same (mul x y) #1100)", "(less x y)"}, "(add x y)", 0, 1}, {four, []string{"(same x #1111)"}, "x", 15, 1}, {four, []string{"(same x #1111)"}, "(cut 2 0 x)", 7, 1}, {four, []string{"(less #0100 x)", "(less x #0101)"}, "x", 0, 2}, {four, []string{"(less #0100 x)", "(less x y)"}, "(sub y x)", 1, 1}, {four, []string{"(same (mul x y) #1100)", "(less x y)"}, "y", 4, 1}, {four, []string{"(no (same x #0000))"}, "(or x y)", 1, 1},
		{four, []string{gates601}, "x", 0, 3}, {four, nil, tooMuch, 0, 3}, {four, []string{"(no true)"}, tooMuch, 0, 3}, {four, []string{gates600}, "(sub y x)", 0, 3}, {four, []string{"(no true)", "(both (no true) " + gates601 + ")"}, "x", 0, 2},
		{four, []string{slowNo}, "(or #1110 (and x #0001))", 0, 3}, {four, []string{slowNo}, "(or x #0001)", 0, 2}, {four, []string{slowNo}, "#0011", 0, 3},
		// In another order these searches would end otherwise.
		{four, []string{"(same (mul x y) (rem x y))"}, "(div y x)", 0, 1}, {four, []string{"(less (add x y) (rem (neg x) y))"}, "(div y y)", 1, 1}, {four, []string{"(under (mul y x) (mul x y))"}, "(div x (not y))", 0, 2}, {four, []string{"(under (sub y y) (rem y y))"}, "(rem (neg x) y)", 0, 2},
	} {
		list := termsOf(t, c.d, c.texts...)
		if n, code := impl.SolveLeast(c.d, list, termOf(t, c.d, c.text)); n != c.n || code != c.code {
			t.Errorf("SolveLeast(%v, %s) = %d, %d, want %d, %d", c.texts, c.text, n, code, c.n, c.code)
		}
		leasts(t, c.d, samplesOf(t, c.d, c.texts...), sampleOf(t, c.d, c.text))
	}
}

// TestSolveLeastNumbers has each number of each size as the least, or as the only one.
func TestSolveLeastNumbers(t *testing.T) {
	for wide := 1; wide <= 4; wide++ {
		d := twoNames(wide)
		x, y := nameSample(d, 0), nameSample(d, 1)
		for n := range power(wide) {
			number := vecSample(impl.Vec{Wide: wide, N: n})
			for _, list := range [][]sample{{pairSample(impl.OpSame, x, number)}, {noSample(pairSample(impl.OpLess, x, number))}, {pairSample(impl.OpLess, number, x)}, {pairSample(impl.OpUnder, number, x)}, {pairSample(impl.OpSame, x, number), pairSample(impl.OpLess, y, x)}} {
				leasts(t, d, list, x)
				leasts(t, d, list, unSample(impl.OpNeg, x))
				leasts(t, d, list, y)
				leasts(t, d, list, cutSample(wide-1, wide/2, x))
			}
			leasts(t, d, nil, number)
			if least, code := leasts(t, d, []sample{noSample(pairSample(impl.OpLess, x, number))}, x); least != n || code != 1 {
				t.Errorf("%d of %d bits: %d, %d", n, wide, least, code)
			}
		}
	}
}

// TestSolveLeastMade has any terms, and one of bits.
func TestSolveLeastMade(t *testing.T) {
	codes, found := map[int]int{}, map[int]int{}
	for i, d := range someDecls() {
		m := maker{seed: uint64(470 + i), d: d}
		for round := range 60 {
			list := m.someSamples(round%4, 4+m.below(10))
			m.left = 3 + m.below(14)
			s := m.make(1+round%4, 2+m.below(5))
			if !askable(d, termsIn(list)) || partsOf(s) > 18 || levelsOf(s) > 6 {
				continue
			}
			n, code := leasts(t, d, list, s)
			codes[code]++
			if code == 1 {
				found[n]++
			}
		}
	}
	if codes[1] < 100 || codes[2] < 20 || len(found) < 8 {
		t.Error("too few:", codes, found)
	}
}

// manyBits is a term of 3 bits that has so many parts, at least 4.
func manyBits(parts int) sample {
	return ifSample(manyTruth(parts-3), vecSample(impl.Vec{Wide: 3, N: 5}), vecSample(impl.Vec{Wide: 3, N: 6}))
}

// chainBits is a term of 2 bits that has so many levels, one part a level.
func chainBits(levels int) sample {
	s := vecSample(impl.Vec{Wide: 2, N: 2})
	for range levels - 1 {
		s = unSample(impl.OpNot, s)
	}
	return s
}

// TestSolveLeastSize has a term whose `same` is as great, as deep or as much behind others as there may be, and one more.
func TestSolveLeastSize(t *testing.T) {
	d := twoNames(4)
	for parts := 4; parts <= 23; parts++ {
		s := manyBits(parts)
		if parts <= 18 {
			leasts(t, nil, nil, s)
			leasts(t, d, []sample{trueSample()}, s)
		} else {
			noNumber(t, nil, nil, s.t, "so many parts")
			noNumber(t, d, []impl.Term{{Op: 24}}, s.t, "so many parts")
		}
	}
	for levels := 1; levels <= 10; levels++ {
		s := chainBits(levels)
		if levels <= 6 {
			leasts(t, nil, nil, s)
			leasts(t, d, []sample{trueSample()}, s)
		} else {
			noNumber(t, nil, nil, s.t, "so many levels")
			noNumber(t, d, []impl.Term{{Op: 24}}, s.t, "so many levels")
		}
	}
	less := sampleOf(t, d, "(less #0010 x)")
	for many := range 8 {
		if n, code := leasts(t, d, slices.Repeat([]sample{less}, many), sampleOf(t, d, "x")); code != 1 || n != map[bool]int{true: 3, false: 0}[many > 0] {
			t.Error("so many terms:", many, n, code)
		}
	}
	for _, many := range []int{8, 9, 16, 1000, 1000000} {
		for _, x := range []impl.Term{less.t, {Op: 24}, plain(25, impl.Term{Op: 24})} {
			noNumber(t, d, slices.Repeat([]impl.Term{x}, many), termOf(t, d, "x"), "one term too many")
			noNumber(t, d, slices.Repeat([]impl.Term{x}, many), impl.Term{Op: 20, A: 1}, "one term too many")
		}
	}
}

// TestSolveLeastWrong has a term that is true or not, or is not right.
func TestSolveLeastWrong(t *testing.T) {
	d := twoNames(4)
	for _, x := range []impl.Term{{}, {Op: 18}, {Op: 28}, {Op: 24}, {Op: 20, A: 5}, {Op: 20}, {Op: 20, A: 1, B: 2}, {Op: 21, Name: "z"}, {Op: 21}, {Op: 21, A: 1, Name: "x"}, plain(1), plain(25, impl.Term{Op: 24}), plain(1, impl.Term{Op: 24}), plain(6, impl.Term{Op: 20, A: 1}, impl.Term{Op: 20, A: 2}), termOf(t, d, "(less x y)"), termOf(t, d, "(same x x)"), termOf(t, d, gates600), termOf(t, d, gates601)} {
		for _, texts := range [][]string{nil, {"true"}, {"(no true)"}, {"(less x y)", "(less y x)"}, {slowYes}, {gates601}} {
			noNumber(t, d, termsOf(t, d, texts...), x, "a term that is not of bits")
		}
	}
}

// TestSolveWrongDecls asks all functions of names that are not ok.
func TestSolveWrongDecls(t *testing.T) {
	for _, d := range wrongDecls() {
		noForm(t, d, nil, "no terms of names that are not ok")
		noForm(t, d, []impl.Term{{Op: 24}}, "true")
		noForm(t, d, []impl.Term{plain(25, impl.Term{Op: 24})}, "not true")
		for _, decl := range d[:min(8, len(d))] {
			x := impl.Term{Op: 21, Name: decl.Name}
			noForm(t, d, []impl.Term{plain(15, x, x)}, "a name among such as are not ok")
			noProve(t, d, nil, plain(15, x, x), "a name among such as are not ok")
			noNumber(t, d, nil, x, "a name among such as are not ok")
		}
	}
}

// TestSolveWrongTerm has a term of bits, or one that is not right, at each place among terms that are true or not.
func TestSolveWrongTerm(t *testing.T) {
	d := twoNames(4)
	for _, wrong := range append(termsOf(t, d, "x", "#0", "#1", "#0000", "(add x y)", "(if (same x y) x y)", bits600, bits601), impl.Term{}, impl.Term{Op: 18}, impl.Term{Op: 21, Name: "z"}, plain(15, impl.Term{Op: 24}, impl.Term{Op: 24}), plain(25, impl.Term{Op: 20, A: 1}), plain(26, impl.Term{Op: 24}, impl.Term{}), plain(27, impl.Term{Op: 24}, impl.Term{Op: 20, A: 1}), manyTruth(21).t, chain(8).t) {
		for many := 1; many <= 9; many++ {
			for place := range many {
				for _, other := range []string{"true", "(no true)", "(less x y)", gates601} {
					list := slices.Repeat(termsOf(t, d, other), many)
					list[place] = wrong
					eachTold(d, list, impl.Term{Op: 24}, func(word string, none bool, code int) {
						if code != impl.SolveForm || !none {
							t.Errorf("%s of a term that is wrong at %d of %d: %d", word, place, many, code)
						}
					})
				}
			}
		}
	}
	for _, other := range []string{"true", "(no true)", "(less x y)", gates601} {
		for _, many := range []int{9, 10, 16, 1000, 100000} {
			noForm(t, d, slices.Repeat(termsOf(t, d, other), many), "so many terms")
		}
	}
}

// TestSolveChanged has terms that are right but for one thing, and such as are right still.
func TestSolveChanged(t *testing.T) {
	still, not := 0, 0
	eachSample(60, func(d []impl.Decl, s sample) {
		if parts, _ := counted(s.t); s.sort != 0 || parts > 10 {
			return
		}
		eachChange(s.t, func(x impl.Term) {
			if askable(d, []impl.Term{x}) {
				still++
				env, code := impl.Solve(d, []impl.Term{x})
				if want, wantCode := solveWanted(d, []impl.Term{x}); code != wantCode || !slices.Equal(env, want) {
					t.Errorf("Solve %s: %v, %d, want %v, %d", impl.TermText(d, x), env, code, want, wantCode)
				}
				return
			}
			not++
			noForm(t, d, []impl.Term{x}, "changed")
			noProve(t, d, nil, x, "changed")
		})
	})
	if still < 20 || not < 300 {
		t.Error("too few:", still, not)
	}
}

// TestSolveEndless has terms that no walk through all parts would end of.
func TestSolveEndless(t *testing.T) {
	late := time.AfterFunc(time.Minute, func() { panic("a walk does not end") })
	defer late.Stop()
	for _, x := range []impl.Term{looped(25, 1), looped(1, 1), looped(26, 2), looped(23, 3), looped(6, 2), shared(60), plain(0, make([]impl.Term, 1000000)...), plain(26, make([]impl.Term, 1000000)...)} {
		for _, d := range [][]impl.Decl{nil, twoNames(4)} {
			noForm(t, d, []impl.Term{x}, "a term without end")
			noForm(t, d, slices.Repeat([]impl.Term{x}, 8), "terms without end")
			noProve(t, d, nil, x, "a term without end")
			noNumber(t, d, nil, x, "a term without end")
		}
	}
}

// TestSolveExample has the terms of the document's example of a script.
func TestSolveExample(t *testing.T) {
	d := twoNames(4)
	list := termsOf(t, d, "(same (mul x y) #1100)", "(less x y)")
	if ways, code := impl.SolveWays(d, list, 3); code != 1 || !slices.EqualFunc(ways, [][]int{{1, 12}, {2, 6}, {2, 14}}, slices.Equal) {
		t.Error(ways, code)
	}
	if env, code := impl.Solve(d, behind(list, termOf(t, d, "(same (rem y x) #0001)"))); code != 1 || !slices.Equal(env, []int{3, 4}) {
		t.Error(env, code)
	}
	if left, code := impl.SolveCore(d, behind(list, termOf(t, d, "(same (rem y x) #0001)"))); code != 1 || len(left) != 0 {
		t.Error(left, code)
	}
	if env, code := impl.SolveProve(d, list, termOf(t, d, "(less #0001 x)")); code != 1 || !slices.Equal(env, []int{1, 12}) {
		t.Error(env, code)
	}
	if n, code := impl.SolveLeast(d, list, termOf(t, d, "(add x y)")); code != 1 || n != 0 {
		t.Error(n, code)
	}
}

// TestSolveArgumentsStay asks that nothing is written into an argument, or behind its end.
func TestSolveArgumentsStay(t *testing.T) {
	ask := func(was []impl.Decl, samples []sample, s sample) {
		t.Helper()
		d, x, list := roomyDecls(was), spacious(s.t), []impl.Term{}
		for _, one := range samples {
			list = append(list, spacious(one.t))
		}
		list = append(list, impl.Term{Op: 777}, impl.Term{Op: 778})
		given := list[:len(samples)]
		eachTold(d, given, x, func(string, bool, int) {})
		impl.SolveWays(d, given, 3)
		if !slices.Equal(d[:len(was)+1], append(slices.Clone(was), impl.Decl{Name: "spare", Wide: 99})) || list[len(samples)].Op != 777 || list[len(samples)+1].Op != 778 || !slices.EqualFunc(given, termsIn(samples), alike) || !alike(x, s.t) {
			t.Error("an argument was written into:", textsIn(samples), s.text)
		}
		for _, one := range append(slices.Clone(given), x) {
			lists(one, func(kids []impl.Term) {
				if len(kids) == 0 || kids[len(kids)-1].Op != 777 {
					t.Error("written behind the end of a list:", textsIn(samples), s.text)
				}
			})
		}
	}
	wrong := []impl.Decl{{Name: "x", Wide: 4}, {Name: "x", Wide: 9}}
	for i, d := range someDecls() {
		m := maker{seed: uint64(570 + i), d: d}
		for round := range 40 {
			list := m.someSamples(round%9, 12)
			m.left = 12
			s := m.make(round%5, 4)
			ask(d, list, s)
			ask(wrong, list, s)
		}
	}
	d := twoNames(4)
	for _, texts := range [][]string{{gates601}, {slowYes, "(no true)"}, {"(if true (less x y) (less x x))", "(any true " + gates601 + ")"}} {
		for _, text := range []string{"true", "x", "(and x #0000)", tooMuch, gates601, "(no (no (less x y)))"} {
			ask(d, samplesOf(t, d, texts...), sampleOf(t, d, text))
		}
	}
}

// TestSolveIsNew writes over all that an answer has memory for, and asks that nothing else has turned.
func TestSolveIsNew(t *testing.T) {
	d := twoNames(4)
	for _, texts := range [][]string{nil, {"(less #0010 x)"}, {"(less x y)", "(less #1100 x)"}, {"(less x y)", "(same x #0001)", "(less y x)", "(same y #0000)"}} {
		list := termsOf(t, d, texts...)
		fill := func(numbers []int) {
			for i := range numbers[:cap(numbers)] {
				numbers[:cap(numbers)][i] = 99
			}
		}
		tell := func() [][]int {
			env, _ := impl.Solve(d, list)
			proved, _ := impl.SolveProve(d, list, termOf(t, d, "(less y x)"))
			left, _ := impl.SolveCore(d, list)
			return [][]int{env, proved, left}
		}
		ways, _ := impl.SolveWays(d, list, 20)
		others, _ := impl.SolveWays(d, list, 20)
		want, _ := waysWanted(d, list, 20)
		one, two, numbers := tell(), tell(), []int{}
		for _, told := range two {
			numbers = append(numbers, told...)
		}
		for i, told := range one {
			fill(told)
			if i < len(one)-1 && slices.Contains(one[i+1], 99) {
				t.Error("two answers share memory:", texts)
			}
		}
		for i, env := range ways {
			fill(env)
			if !slices.EqualFunc(ways[i+1:], want[i+1:], slices.Equal) {
				t.Error("two ways of one answer share memory:", texts)
			}
		}
		whole := ways[:cap(ways)]
		for i := range whole {
			whole[i] = []int{98}
		}
		again, _ := impl.SolveWays(d, list, 20)
		if !slices.Equal(slices.Concat(two...), numbers) || !slices.Equal(slices.Concat(tell()...), numbers) || !slices.EqualFunc(others, want, slices.Equal) || !slices.EqualFunc(again, want, slices.Equal) {
			t.Error("an answer shares memory with something else:", texts)
		}
	}
}

// TestSolveAgain asks that nothing is kept from call to call: one term has other ways with other names, and what was no question leaves nothing behind.
func TestSolveAgain(t *testing.T) {
	four, turned := twoNames(4), []impl.Decl{{Name: "y", Wide: 4}, {Name: "x", Wide: 4}}
	less := termsOf(t, four, "(less x y)")
	for range 3 {
		for _, c := range []struct {
			d    []impl.Decl
			env  []int
			code int
		}{{four, []int{0, 1}, 1}, {turned, []int{1, 0}, 1}, {twoNames(1), []int{0, 1}, 1}, {nil, nil, 4}, {four[:1], nil, 4}, {append(slices.Clone(four[:1]), impl.Decl{Name: "y", Wide: 3}), nil, 4}} {
			if env, code := impl.Solve(c.d, less); code != c.code || !slices.Equal(env, c.env) {
				t.Errorf("Solve(%v) = %v, %d", c.d, env, code)
			}
			if ways, code := impl.SolveWays(c.d, less, 1); code != c.code || len(ways) != c.code%4 || code == 1 && !slices.Equal(ways[0], c.env) {
				t.Errorf("SolveWays(%v) = %v, %d", c.d, ways, code)
			}
			impl.SolveWays(four, nil, 20)
			solves(t, four, sampleOf(t, four, gates601))
			if left, code := impl.SolveCore(four, termsOf(t, four, "(less y x)", "(less x y)")); code != 2 || !slices.Equal(left, []int{0, 1}) {
				t.Error("SolveCore:", left, code)
			}
			if n, code := impl.SolveLeast(four, less, termOf(t, four, "y")); code != 1 || n != 1 {
				t.Error("SolveLeast:", n, code)
			}
			if env, code := impl.SolveProve(four, less, less[0]); code != 2 || len(env) != 0 {
				t.Error("SolveProve:", env, code)
			}
		}
	}
}
