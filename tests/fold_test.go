package tests

import (
	"math"
	"slices"
	"strconv"
	"strings"
	"testing"
	"time"

	"loop.example/seedlip/impl"
)

// ruled is a rule of TermOne, and the text of what it tells.
type ruled struct {
	rule int
	text string
}

// fixedText is what the text of a term that is fixed says, or -1.
func fixedText(text string) int {
	switch {
	case text == "true":
		return 1
	case text == "(no true)":
		return 0
	case strings.HasPrefix(text, "#"):
		n, _ := strconv.ParseInt(text[1:], 2, 8)
		return int(n)
	}
	return -1
}

// worthText is the text of a number or a truth.
func worthText(sort int, n int) string {
	if sort > 0 {
		return vecSample(impl.Vec{Wide: sort, N: n}).text
	}
	return []string{"(no true)", "true"}[n]
}

// among says whether a word is one of these.
func among(word string, words string) bool { return slices.Contains(strings.Fields(words), word) }

// rulesOf is what each rule that applies to a right term tells, in order, made from the texts of its Kids alone.
func rulesOf(d []impl.Decl, x impl.Term) []ruled {
	list, kids, n := []ruled{}, []string{}, []int{}
	tell := func(rule int, applies bool, text string) {
		if applies {
			list = append(list, ruled{rule, text})
		}
	}
	for _, kid := range x.Kids {
		text := impl.TermText(d, kid)
		kids, n = append(kids, text), append(n, fixedText(text))
	}
	if len(n) > 0 {
		is, _ := impl.TermEval(d, x, make([]int, len(d)))
		tell(1, slices.Min(n) >= 0, worthText(sortWanted(d, x), is))
	}
	word := opWord(x.Op)
	if among(word, "no not neg") {
		inner, twice := strings.CutPrefix(kids[0], "("+word+" ")
		tell(map[bool]int{true: 2, false: 4}[word == "no"], twice, strings.TrimSuffix(inner, ")"))
	}
	switch word {
	case "if":
		tell(2, n[0] == 1, kids[1])
		tell(2, n[0] == 0, kids[2])
		tell(2, kids[1] == kids[2], kids[1])
	case "both":
		tell(3, n[0] == 1 || kids[0] == kids[1], kids[1])
		tell(3, n[1] == 1, kids[0])
		tell(3, n[0] == 0 || n[1] == 0, "(no true)")
	case "any":
		tell(3, n[0] == 0 || kids[0] == kids[1], kids[1])
		tell(3, n[1] == 0, kids[0])
		tell(3, n[0] == 1 || n[1] == 1, "true")
	case "cut":
		tell(4, x.B == 0 && x.A+1 == sortWanted(d, x.Kids[0]), kids[0])
	}
	if len(kids) == 2 && kids[0] == kids[1] {
		tell(5, among(word, "and or"), kids[0])
		tell(5, among(word, "xor sub"), worthText(sortWanted(d, x.Kids[0]), 0))
		tell(5, word == "same", "true")
		tell(5, among(word, "less under"), "(no true)")
	}
	if len(kids) == 2 {
		tell(6, n[1] == 0 && among(word, "or xor add sub shl shr sar"), kids[0])
		tell(6, n[1] == 0 && among(word, "and mul"), kids[1])
		tell(6, n[1] == 1 && word == "mul", kids[0])
		tell(7, n[0] == 0 && among(word, "or xor add"), kids[1])
		tell(7, n[0] == 0 && among(word, "and mul"), kids[0])
		tell(7, n[0] == 1 && word == "mul", kids[1])
	}
	tell(8, true, impl.TermText(d, x))
	return list
}

// foldWanted is what a right term is made, from its last levels up.
func foldWanted(d []impl.Decl, x impl.Term) impl.Term {
	x = copied(x)
	for i, kid := range x.Kids {
		x.Kids[i] = foldWanted(d, kid)
	}
	short, _ := impl.TermRead(d, rulesOf(d, x)[0].text)
	return short
}

// envsWanted is all numbers for names, those of the first name going up last.
func envsWanted(d []impl.Decl) [][]int {
	if len(d) == 0 {
		return [][]int{{}}
	}
	list := [][]int{}
	for n := range power(d[0].Wide) {
		for _, rest := range envsWanted(d[1:]) {
			list = append(list, append([]int{n}, rest...))
		}
	}
	return list
}

// shorter asks that a term is the same, of the same sort and no greater than a sample, for all these numbers for the names.
func shorter(t *testing.T, d []impl.Decl, short impl.Term, s sample, envs [][]int) {
	t.Helper()
	if sort := impl.TermSort(d, short); sort != s.sort {
		t.Errorf("%s is of sort %d, but is made %v of sort %d", s.text, s.sort, short, sort)
		return
	}
	parts, levels := counted(s.t)
	if p, l := counted(short); p > parts || l > levels {
		t.Errorf("%s of %d parts and %d levels is made %s of %d and %d", s.text, parts, levels, impl.TermText(d, short), p, l)
	}
	for _, env := range envs {
		if n, ok := impl.TermEval(d, short, env); !ok || n != s.is(env).N {
			t.Errorf("%s is %v with %v, but is made %s, which is %d, %v", s.text, s.is(env), env, impl.TermText(d, short), n, ok)
		}
	}
}

// shortest asks that no part of a term can be made shorter once more.
func shortest(t *testing.T, d []impl.Decl, x impl.Term) {
	t.Helper()
	if one, all := impl.TermOne(d, x), impl.TermFold(d, x); !alike(one, x) || !alike(all, x) {
		t.Errorf("%s is made once more %s, %s", impl.TermText(d, x), impl.TermText(d, one), impl.TermText(d, all))
	}
	for _, kid := range x.Kids {
		shortest(t, d, kid)
	}
}

// folds asks all that promise 3 says of a sample, and that it is made what the rules say.
func folds(t *testing.T, d []impl.Decl, s sample, envs [][]int) {
	t.Helper()
	one, all := impl.TermOne(d, s.t), impl.TermFold(d, s.t)
	if want := rulesOf(d, s.t)[0]; impl.TermText(d, one) != want.text {
		t.Errorf("TermOne(%s) = %q, want %q by rule %d", s.text, impl.TermText(d, one), want.text, want.rule)
	}
	if want := foldWanted(d, s.t); !alike(all, want) {
		t.Errorf("TermFold(%s) = %q, want %q", s.text, impl.TermText(d, all), impl.TermText(d, want))
	}
	shorter(t, d, one, s, envs)
	shorter(t, d, all, s, envs)
	shortest(t, d, all)
}

// fixedWanted is what TermFixed tells.
func fixedWanted(x impl.Term) (int, bool) {
	switch {
	case alike(x, impl.Term{Op: 24}):
		return 1, true
	case alike(x, plain(25, impl.Term{Op: 24})):
		return 0, true
	case alike(x, impl.Term{Op: 20, A: x.A, B: x.B}) && x.A >= 1 && x.A <= 4 && x.B >= 0 && x.B < power(x.A):
		return x.B, true
	}
	return 0, false
}

// isFixed asks that TermFixed tells that.
func isFixed(t *testing.T, x impl.Term, n int, fixed bool) {
	t.Helper()
	if got, ok := impl.TermFixed(x); got != n || ok != fixed {
		t.Errorf("TermFixed(%v) = %d, %v, want %d, %v", x, got, ok, n, fixed)
	}
}

func TestTermFixed(t *testing.T) {
	one := impl.Term{Op: 24}
	list := []impl.Term{one, plain(25, one)}
	isFixed(t, one, 1, true)
	isFixed(t, plain(25, one), 0, true)
	for _, a := range allVecs() {
		isFixed(t, vecSample(a).t, a.N, true)
		list = append(list, vecSample(a).t)
	}
	for _, a := range wrongVecs() {
		isFixed(t, impl.Term{Op: 20, A: a.Wide, B: a.N}, 0, false)
	}
	// An empty list of Kids is no other than none.
	none := []impl.Term{}
	isFixed(t, impl.Term{Op: 24, Kids: none}, 1, true)
	isFixed(t, plain(25, impl.Term{Op: 24, Kids: none}), 0, true)
	isFixed(t, impl.Term{Op: 20, A: 4, B: 9, Kids: none}, 9, true)
	for _, x := range list {
		eachChange(x, func(changed impl.Term) {
			n, fixed := fixedWanted(changed)
			isFixed(t, changed, n, fixed)
		})
	}
	eachSample(100, func(_ []impl.Decl, s sample) {
		n, fixed := fixedWanted(s.t)
		isFixed(t, s.t, n, fixed)
	})
}

// TestTermFixedNot has terms that nearly are fixed, or are always one number, but not written as that.
func TestTermFixedNot(t *testing.T) {
	one, zero, x := impl.Term{Op: 24}, impl.Term{Op: 20, A: 1}, impl.Term{Op: 21, Name: "x"}
	never := plain(25, one)
	for _, w := range []impl.Term{
		{}, x, {Op: 21, Name: "true"}, {Op: 21}, plain(25), plain(25, never), plain(25, one, one), plain(25, zero), plain(25, x), plain(25, impl.Term{}), plain(26, one, one), plain(27, never, never), plain(23, one, one, one), plain(24, one), plain(24, never),
		{Op: 24, A: 1}, {Op: 24, B: 1}, {Op: 24, Name: "x"}, {Op: 24, Name: "true"}, {Op: 25, A: 1, Kids: []impl.Term{one}}, {Op: 25, B: 1, Kids: []impl.Term{one}}, {Op: 25, Name: "x", Kids: []impl.Term{one}},
		plain(25, impl.Term{Op: 24, A: 1}), plain(25, impl.Term{Op: 24, B: 1}), plain(25, impl.Term{Op: 24, Name: "x"}), plain(25, plain(24, one)),
		{Op: 20}, {Op: 20, A: 5}, {Op: 20, A: 1, B: 2}, {Op: 20, A: 4, B: 16}, {Op: 20, A: 4, B: -1}, {Op: 20, A: -1}, {Op: 20, A: 4, Name: "x"}, {Op: 20, A: 4, Kids: []impl.Term{one}}, {Op: 20, A: 4, Kids: []impl.Term{{}}},
		plain(1, zero), plain(2, zero), {Op: 22, Kids: []impl.Term{zero}}, plain(14, zero, zero), plain(15, zero, zero), plain(5, x, x), looped(25, 1), looped(26, 2), looped(20, 1), looped(24, 1), shared(60),
	} {
		isFixed(t, w, 0, false)
	}
}

// TestFoldRules has for each rule, and each thing it tells, a term that it alone applies to.
func TestFoldRules(t *testing.T) {
	d := []impl.Decl{{Name: "x", Wide: 3}, {Name: "y", Wide: 3}, {Name: "a", Wide: 1}}
	for _, c := range []struct {
		rule    int
		in, out string
	}{
		{1, "(not #010)", "#101"}, {1, "(neg #011)", "#101"}, {1, "(and #110 #011)", "#010"}, {1, "(or #110 #011)", "#111"}, {1, "(xor #110 #011)", "#101"}, {1, "(add #111 #011)", "#010"}, {1, "(sub #010 #011)", "#111"}, {1, "(mul #011 #011)", "#001"},
		{1, "(div #111 #010)", "#011"}, {1, "(rem #111 #100)", "#011"}, {1, "(div #101 #000)", "#111"}, {1, "(rem #101 #000)", "#101"}, {1, "(div #101 #101)", "#001"}, {1, "(rem #101 #101)", "#000"}, {1, "(div #000 #000)", "#111"}, {1, "(div #0 #0)", "#1"},
		{1, "(shl #011 #001)", "#110"}, {1, "(shr #110 #001)", "#011"}, {1, "(sar #100 #001)", "#110"}, {1, "(sar #1000 #1111)", "#1111"}, {1, "(cat #10 #01)", "#1001"}, {1, "(same #10 #01)", "(no true)"}, {1, "(less #01 #10)", "true"}, {1, "(under #01 #10)", "(no true)"}, {1, "(under #10 #01)", "true"},
		{1, "(cut 2 1 #1101)", "#10"}, {1, "(cut 0 0 #10)", "#0"}, {1, "(no true)", "(no true)"}, {1, "(mul #010 #100)", "#000"}, {1, "(add #1 #1)", "#0"},
		{2, "(no (no (same x y)))", "(same x y)"}, {2, "(no (no (no (same x y))))", "(no (same x y))"}, {2, "(no (no (both true true)))", "(both true true)"}, {2, "(if true x y)", "x"}, {2, "(if (no true) x y)", "y"}, {2, "(if (same x y) y y)", "y"}, {2, "(if true #010 x)", "#010"}, {2, "(if (less x y) true true)", "true"},
		{2, "(if (less x y) #000 #000)", "#000"}, {2, "(if true (same x y) true)", "(same x y)"}, {2, "(if (no true) (same x y) (no true))", "(no true)"}, {2, "(if (less x y) (add x y) (add x y))", "(add x y)"},
		{3, "(both true (same x y))", "(same x y)"}, {3, "(both (same x y) true)", "(same x y)"}, {3, "(both (same x y) (same x y))", "(same x y)"}, {3, "(both (no true) (same x y))", "(no true)"}, {3, "(both (same x y) (no true))", "(no true)"},
		{3, "(any (no true) (same x y))", "(same x y)"}, {3, "(any (same x y) (no true))", "(same x y)"}, {3, "(any (same x y) (same x y))", "(same x y)"}, {3, "(any true (same x y))", "true"}, {3, "(any (same x y) true)", "true"}, {3, "(both true (no (no true)))", "(no (no true))"},
		{4, "(cut 2 0 x)", "x"}, {4, "(cut 0 0 a)", "a"}, {4, "(cut 3 0 (cat x a))", "(cat x a)"}, {4, "(cut 1 0 (cut 2 1 x))", "(cut 2 1 x)"}, {4, "(not (not x))", "x"}, {4, "(neg (neg x))", "x"}, {4, "(not (not (not x)))", "(not x)"}, {4, "(not (not #010))", "#010"}, {4, "(neg (neg #010))", "#010"}, {4, "(neg (neg (not x)))", "(not x)"},
		{5, "(and x x)", "x"}, {5, "(or x x)", "x"}, {5, "(xor x x)", "#000"}, {5, "(sub x x)", "#000"}, {5, "(xor a a)", "#0"}, {5, "(sub (cat x a) (cat x a))", "#0000"}, {5, "(same x x)", "true"}, {5, "(less x x)", "(no true)"}, {5, "(under x x)", "(no true)"}, {5, "(and (not #010) (not #010))", "(not #010)"}, {5, "(same (add x y) (add x y))", "true"},
		{6, "(or x #000)", "x"}, {6, "(xor x #000)", "x"}, {6, "(add x #000)", "x"}, {6, "(sub x #000)", "x"}, {6, "(shl x #000)", "x"}, {6, "(shr x #000)", "x"}, {6, "(sar x #000)", "x"}, {6, "(and x #000)", "#000"}, {6, "(mul x #000)", "#000"}, {6, "(mul x #001)", "x"}, {6, "(mul a #1)", "a"}, {6, "(mul a #0)", "#0"}, {6, "(add (not #000) #000)", "(not #000)"},
		{7, "(or #000 x)", "x"}, {7, "(xor #000 x)", "x"}, {7, "(add #000 x)", "x"}, {7, "(and #000 x)", "#000"}, {7, "(mul #000 x)", "#000"}, {7, "(mul #001 x)", "x"}, {7, "(mul #1 a)", "a"}, {7, "(mul #0 a)", "#0"}, {7, "(mul #001 (neg #000))", "(neg #000)"},
	} {
		x, ok := impl.TermRead(d, c.in)
		if list := rulesOf(d, x); !ok || list[0].rule != c.rule || list[1].rule != 8 {
			t.Errorf("%s: rule %d alone does not apply: %v", c.in, c.rule, list)
		}
		if got := impl.TermText(d, impl.TermOne(d, x)); got != c.out {
			t.Errorf("TermOne(%s) = %q, want %q by rule %d", c.in, got, c.out, c.rule)
		}
	}
}

// TestFoldStays has terms that no rule makes shorter, though some of them could be.
func TestFoldStays(t *testing.T) {
	d := []impl.Decl{{Name: "x", Wide: 3}, {Name: "y", Wide: 3}, {Name: "a", Wide: 1}}
	for _, text := range []string{
		"x", "a", "#000", "#1", "true", "(no true)", "(not x)", "(neg x)", "(not (neg x))", "(neg (not x))", "(no (same x y))",
		"(div x x)", "(rem x x)", "(div x #001)", "(rem x #001)", "(div x #000)", "(rem x #000)", "(div #000 x)", "(rem #000 x)", "(div #001 x)", "(div a a)", "(rem a a)", "(div (add x y) (add x y))",
		"(sub #000 x)", "(shl #000 x)", "(shr #000 x)", "(sar #000 x)", "(sub #001 x)", "(shl x x)", "(shr x x)", "(sar x x)", "(add x x)", "(mul x x)", "(cat a a)", "(cat a #0)", "(cat #0 a)", "(cat #0 x)",
		"(and x #111)", "(or x #111)", "(xor x #111)", "(and #111 x)", "(or #111 x)", "(and x #001)", "(and #001 x)", "(or x #001)", "(or #001 x)", "(xor #001 x)", "(add x #001)", "(add #001 x)", "(sub x #001)", "(shl x #001)", "(shl x #111)", "(mul x #010)", "(mul #111 x)", "(and a #1)", "(or #1 a)",
		"(and x y)", "(or x y)", "(xor x y)", "(sub x y)", "(same x y)", "(less x y)", "(under x y)", "(same x #000)", "(same #000 x)", "(less x #000)", "(less #000 x)", "(under x #000)", "(same a #1)", "(less x #001)",
		"(cut 1 0 x)", "(cut 2 1 x)", "(cut 0 0 x)", "(cut 2 2 x)", "(cut 0 0 (cut 2 1 x))", "(cat (cut 2 1 x) (cut 0 0 x))",
		"(both (same x y) (less x y))", "(any (same x y) (less x y))", "(both (same x y) (same y x))", "(any (same x y) (no (same x y)))", "(both (no (same x y)) (same x y))",
		"(if (same x y) x y)", "(if (same x y) true (no true))", "(if (same x y) (no true) true)", "(if (same x y) #000 #001)", "(if (same x y) (same x y) true)", "(if (same x y) a #1)", "(if (no (same x y)) x y)",
		"(add (add x #001) #111)", "(sub (add x y) y)", "(add x (neg x))", "(xor (xor x y) y)", "(same (not x) (not y))",
	} {
		x, ok := impl.TermRead(d, text)
		if !ok {
			t.Fatal("not read:", text)
		}
		for _, got := range []impl.Term{impl.TermOne(d, x), impl.TermFold(d, x)} {
			if !alike(got, x) {
				t.Errorf("%s is made %q", text, impl.TermText(d, got))
			}
		}
	}
}

// TestFoldOneLevel has terms whose Kids TermOne leaves as they are, and TermFold does not.
func TestFoldOneLevel(t *testing.T) {
	d := []impl.Decl{{Name: "x", Wide: 4}, {Name: "y", Wide: 4}}
	for _, c := range []struct{ in, one, all string }{
		{"(no (less x x))", "(no (less x x))", "true"}, {"(no (same x x))", "(no (same x x))", "(no true)"}, {"(add x (sub y y))", "(add x (sub y y))", "x"}, {"(not (neg (neg (not x))))", "(not (neg (neg (not x))))", "x"},
		{"(not (not (add x #0000)))", "(add x #0000)", "x"}, {"(no (no (no (less x x))))", "(no (less x x))", "true"}, {"(no (no (no (no true))))", "(no (no true))", "true"}, {"(not (not (not (not x))))", "(not (not x))", "x"}, {"(neg (neg (neg x)))", "(neg x)", "(neg x)"}, {"(no (no (no (no (no true)))))", "(no (no (no true)))", "(no true)"},
		{"(if (same x x) (and x x) y)", "(if (same x x) (and x x) y)", "x"}, {"(if (less x x) y (or x x))", "(if (less x x) y (or x x))", "x"}, {"(if (same x y) (or x x) (and x x))", "(if (same x y) (or x x) (and x x))", "x"}, {"(same (add x #0000) (sub x #0000))", "(same (add x #0000) (sub x #0000))", "true"},
		{"(both (same x x) (no (less x x)))", "(both (same x x) (no (less x x)))", "true"}, {"(any (less x x) (under y y))", "(any (less x x) (under y y))", "(no true)"}, {"(both (no (no true)) true)", "(no (no true))", "true"}, {"(both (less x y) (less y y))", "(both (less x y) (less y y))", "(no true)"},
		{"(mul (div #0011 #0011) x)", "(mul (div #0011 #0011) x)", "x"}, {"(mul x (div x x))", "(mul x (div x x))", "(mul x (div x x))"}, {"(div (sub x x) (sub x x))", "(div (sub x x) (sub x x))", "#1111"}, {"(rem (xor y y) (xor x x))", "(rem (xor y y) (xor x x))", "#0000"},
		{"(cut 3 0 (cat (cut 1 0 #0110) (cut 3 2 #0110)))", "(cat (cut 1 0 #0110) (cut 3 2 #0110))", "#1001"}, {"(cut 1 0 (add #0101 #0001))", "(cut 1 0 (add #0101 #0001))", "#10"}, {"(and (not #1111) x)", "(and (not #1111) x)", "#0000"}, {"(not (not (not (not (not (not x))))))", "(not (not (not (not x))))", "x"},
	} {
		x, ok := impl.TermRead(d, c.in)
		one, all := impl.TermText(d, impl.TermOne(d, x)), impl.TermText(d, impl.TermFold(d, x))
		if !ok || one != c.one || all != c.all {
			t.Errorf("%s is made %q and %q, want %q and %q", c.in, one, all, c.one, c.all)
		}
	}
}

// foldKids is samples of one sort that rules ask of: names, numbers, and such as are not yet as short as they get.
func foldKids(d []impl.Decl, wide int) []sample {
	list := []sample{}
	for n := range power(wide) {
		list = append(list, vecSample(impl.Vec{Wide: wide, N: n}))
	}
	for i := range d {
		if d[i].Wide == wide {
			x := nameSample(d, i)
			list = append(list, x, unSample(1, x), unSample(2, x), unSample(1, unSample(1, x)), unSample(2, unSample(2, x)), pairSample(7, x, x))
		}
	}
	return append(list, unSample(1, list[0]), unSample(2, list[1]))
}

// foldTruths is samples of truths that rules ask of.
func foldTruths(d []impl.Decl) []sample {
	x, y := nameSample(d, 0), nameSample(d, 1)
	never := noSample(trueSample())
	list := []sample{trueSample(), never, noSample(never), noSample(noSample(never))}
	for _, s := range []sample{pairSample(15, x, y), pairSample(15, y, x), pairSample(16, x, x)} {
		list = append(list, s, noSample(s), noSample(noSample(s)))
	}
	return list
}

// eachTwoLevels calls with each kind of each of the Kids that rules ask of.
func eachTwoLevels(d []impl.Decl, wide int, do func(sample)) {
	truths, kids := foldTruths(d), foldKids(d, wide)
	for _, x := range kids {
		do(x)
		do(unSample(1, x))
		do(unSample(2, x))
		for hi := range wide {
			for lo := range hi + 1 {
				do(cutSample(hi, lo, x))
			}
		}
		for _, y := range kids {
			for op := 3; op <= 17; op++ {
				if op != 14 || wide <= 2 {
					do(pairSample(op, x, y))
				}
			}
			for _, c := range truths {
				do(ifSample(c, x, y))
			}
		}
	}
	for _, x := range truths {
		do(x)
		do(noSample(x))
		for _, y := range truths {
			do(pairSample(26, x, y))
			do(pairSample(27, x, y))
			for _, c := range truths {
				do(ifSample(c, x, y))
			}
		}
	}
}

// TestFoldTwoLevels holds every kind of Kids of every kind against the rules, with all numbers for the names.
func TestFoldTwoLevels(t *testing.T) {
	alone, first := map[int]int{}, map[[2]int]int{}
	for _, d := range [][]impl.Decl{{{Name: "x", Wide: 1}, {Name: "y", Wide: 1}}, {{Name: "x", Wide: 2}, {Name: "y", Wide: 2}}} {
		envs := envsWanted(d)
		eachTwoLevels(d, d[0].Wide, func(s sample) {
			folds(t, d, s, envs)
			list := rulesOf(d, s.t)
			if len(list) == 2 {
				alone[list[0].rule]++
			}
			for _, next := range list[1:] {
				first[[2]int{list[0].rule, next.rule}]++
			}
		})
	}
	for rule := 1; rule <= 7; rule++ {
		if alone[rule] < 10 {
			t.Errorf("rule %d alone applies %d times", rule, alone[rule])
		}
	}
	for _, pair := range [][2]int{{1, 2}, {1, 3}, {1, 4}, {1, 5}, {1, 6}, {1, 7}, {2, 2}} {
		if first[pair] == 0 {
			t.Errorf("rules %d and %d never apply both", pair[0], pair[1])
		}
	}
}

// TestFoldFirstRule has terms to which two rules apply, or one in two ways.
func TestFoldFirstRule(t *testing.T) {
	d := []impl.Decl{{Name: "x", Wide: 2}, {Name: "y", Wide: 2}}
	for _, c := range []struct {
		first, second int
		in, out       string
	}{
		{1, 2, "(no (no true))", "true"}, {1, 2, "(if true #01 #10)", "#01"}, {1, 2, "(if (no true) #01 #10)", "#10"}, {1, 2, "(if true #01 #01)", "#01"}, {1, 2, "(if (no true) true (no true))", "(no true)"},
		{1, 3, "(both true true)", "true"}, {1, 3, "(both true (no true))", "(no true)"}, {1, 3, "(both (no true) true)", "(no true)"}, {1, 3, "(both (no true) (no true))", "(no true)"}, {1, 3, "(any true (no true))", "true"}, {1, 3, "(any (no true) true)", "true"}, {1, 3, "(any (no true) (no true))", "(no true)"}, {1, 3, "(any true true)", "true"},
		{1, 4, "(cut 1 0 #10)", "#10"}, {1, 4, "(cut 3 0 #1010)", "#1010"}, {1, 5, "(and #10 #10)", "#10"}, {1, 5, "(or #01 #01)", "#01"}, {1, 5, "(xor #11 #11)", "#00"}, {1, 5, "(sub #0 #0)", "#0"}, {1, 5, "(same #10 #10)", "true"}, {1, 5, "(less #10 #10)", "(no true)"}, {1, 5, "(under #10 #10)", "(no true)"},
		{1, 6, "(sub #10 #00)", "#10"}, {1, 6, "(mul #10 #01)", "#10"}, {1, 6, "(sar #10 #00)", "#10"}, {1, 7, "(mul #01 #11)", "#11"}, {1, 7, "(and #00 #11)", "#00"}, {1, 7, "(add #00 #11)", "#11"},
		{2, 2, "(if true x x)", "x"}, {2, 2, "(if (no true) y y)", "y"}, {2, 2, "(if true (less x y) (less x y))", "(less x y)"},
	} {
		x, _ := impl.TermRead(d, c.in)
		if c.first == 1 {
			x, _ = impl.TermRead(nil, c.in)
		}
		list := rulesOf(d, x)
		if list[0].rule != c.first || list[1].rule != c.second && !slices.Contains(list, ruled{c.second, c.out}) {
			t.Errorf("%s: not the rules %d and %d: %v", c.in, c.first, c.second, list)
		}
		if got := impl.TermText(d, impl.TermOne(d, x)); got != c.out {
			t.Errorf("TermOne(%s) = %q, want %q", c.in, got, c.out)
		}
	}
}

// TestFoldLevels holds terms of several levels, with all numbers for the names.
func TestFoldLevels(t *testing.T) {
	made, stay := 0, 0
	eachSample(500, func(d []impl.Decl, s sample) {
		if parts, _ := counted(s.t); parts > impl.TermMost {
			refused(t, d, s.t, s.text)
			return
		}
		folds(t, d, s, envsWanted(d))
		if alike(impl.TermFold(d, s.t), s.t) {
			stay++
		} else {
			made++
		}
	})
	if made < 300 || stay < 100 {
		t.Error("too few:", made, stay)
	}
}

// TestFoldChanged asks of terms that are right but for one thing, or just still right.
func TestFoldChanged(t *testing.T) {
	still, not := 0, 0
	eachSample(40, func(d []impl.Decl, s sample) {
		if parts, _ := counted(s.t); parts > 18 {
			return
		}
		eachChange(s.t, func(x impl.Term) {
			one, all := impl.TermOne(d, x), impl.TermFold(d, x)
			if _, levels := counted(x); levels > impl.TermDeep || sortWanted(d, x) == -1 {
				if not++; !alike(one, impl.Term{}) || !alike(all, impl.Term{}) {
					t.Errorf("%v is not right, but is made %v and %v", x, one, all)
				}
				return
			}
			if still++; impl.TermText(d, one) != rulesOf(d, x)[0].text || !alike(all, foldWanted(d, x)) {
				t.Errorf("%s is made %q and %q", impl.TermText(d, x), impl.TermText(d, one), impl.TermText(d, all))
			}
		})
	})
	if still < 300 || not < 3000 {
		t.Error("too few:", still, not)
	}
}

// unmade asks that a term that is not right is made nothing.
func unmade(t *testing.T, d []impl.Decl, x impl.Term, why string) {
	t.Helper()
	for _, made := range []impl.Term{impl.TermOne(d, x), impl.TermFold(d, x)} {
		if !alike(made, impl.Term{}) {
			t.Errorf("%s is made %v", why, made)
		}
	}
}

// TestFoldWrong has terms that are not right where a rule alone would see nothing wrong.
func TestFoldWrong(t *testing.T) {
	d := []impl.Decl{{Name: "x", Wide: 4}, {Name: "y", Wide: 2}}
	x, y, one, zero := impl.Term{Op: 21, Name: "x"}, impl.Term{Op: 21, Name: "y"}, impl.Term{Op: 24}, impl.Term{Op: 20, A: 4}
	z := impl.Term{Op: 21, Name: "z"}
	for why, w := range map[string]impl.Term{
		"nothing": {}, "no such kind": plain(18, x), "a name that is none": z, "not of not of none": plain(1, plain(1, z)), "and of one that is none": plain(3, z, z), "same of one that is none": plain(15, z, z), "same of true": plain(15, one, one),
		"and of 0 and a truth": plain(3, zero, one), "or of other bits": plain(4, y, zero), "mul by 0 of other bits": plain(8, y, zero), "if of other sorts": plain(23, one, x, y), "if of no truth": plain(23, zero, x, x), "both of bits": plain(26, x, x), "both of true and bits": plain(26, one, x), "any of bits and true": plain(27, x, one),
		"no of no of bits": plain(25, plain(25, x)), "not of not of true": plain(1, plain(1, one)), "no with A": {Op: 25, A: 1, Kids: []impl.Term{one}}, "not with a name": {Op: 1, Name: "x", Kids: []impl.Term{zero}}, "cut above": {Op: 22, A: 4, Kids: []impl.Term{x}}, "cut of all bits with a name": {Op: 22, A: 3, Name: "x", Kids: []impl.Term{x}}, "cut of a truth": plain(22, one),
		"Vec of no bits": {Op: 20}, "Vec too great": {Op: 20, A: 4, B: 16}, "add of a Vec too great": plain(6, impl.Term{Op: 20, A: 4, B: 16}, zero), "cat of 5 bits": plain(14, impl.Term{Op: 20, A: 4}, impl.Term{Op: 20, A: 1}), "not of not of two": plain(1, plain(1, x, x)), "sub of three": plain(7, x, x, x), "true with a kid": plain(24, one), "no of none": plain(25), "if of two": plain(23, one, x), "and of none": plain(3),
	} {
		unmade(t, d, w, why)
		unmade(t, d, plain(23, one, one, w), "if of true and "+why)
		unmade(t, d, plain(26, plain(25, one), w), "both of false and "+why)
	}
	for _, wrong := range wrongDecls() {
		for _, text := range []string{"true", "(no true)", "#0", "(not #0)", "(and #0 #0)", "(no (no true))"} {
			w, _ := impl.TermRead(nil, text)
			unmade(t, wrong, w, text+" with names that are not ok")
		}
		for _, decl := range wrong {
			w := impl.Term{Op: 21, Name: decl.Name}
			unmade(t, wrong, w, "a name that is not ok")
			unmade(t, wrong, plain(3, w, w), "and of a name that is not ok")
		}
	}
}

// TestFoldMostAndDeep has terms at the bounds, and just past them.
func TestFoldMostAndDeep(t *testing.T) {
	for parts := 1; parts <= impl.TermMost; parts++ {
		folds(t, nil, manyTruth(parts), [][]int{{}})
	}
	for levels := 1; levels <= impl.TermDeep; levels++ {
		folds(t, nil, chain(levels), [][]int{{}})
	}
	for past := 1; past < 4; past++ {
		unmade(t, nil, manyTruth(impl.TermMost+past).t, "a term of too many parts")
		unmade(t, nil, chain(impl.TermDeep+past).t, "a term of too many levels")
	}
	// Terms that no rule makes shorter, with all levels or all parts that there may be.
	d := []impl.Decl{{Name: "x", Wide: 4}, {Name: "y", Wide: 4}}
	x, y := nameSample(d, 0), nameSample(d, 1)
	deep := x
	for levelsOf(deep) < impl.TermDeep {
		deep = pairSample(6, deep, y)
	}
	four := pairSample(6, pairSample(9, x, x), pairSample(10, y, y))
	wide := unSample(1, pairSample(3, pairSample(8, four, four), pairSample(5, x, y)))
	if levelsOf(deep) != 7 || partsOf(wide) != impl.TermMost {
		t.Error("not at the bounds:", deep.text, wide.text)
	}
	for _, s := range []sample{deep, wide} {
		folds(t, d, s, envsWanted(d))
		if !alike(impl.TermFold(d, s.t), s.t) {
			t.Error("made shorter:", s.text)
		}
		unmade(t, d, unSample(1, s).t, "a term past the bounds")
	}
	// What is false, on the last two levels.
	low := pairSample(16, x, x)
	for levelsOf(low) < impl.TermDeep-1 {
		low = noSample(low)
	}
	low = pairSample(27, pairSample(15, x, y), low)
	folds(t, d, low, envsWanted(d))
	if got := impl.TermText(d, impl.TermFold(d, low.t)); got != "(same x y)" {
		t.Error("any of one and what is false is made", got)
	}
}

// partsOf is how many parts a sample has.
func partsOf(s sample) int {
	parts, _ := counted(s.t)
	return parts
}

// levelsOf is how many levels a sample has.
func levelsOf(s sample) int {
	_, levels := counted(s.t)
	return levels
}

// TestFoldEndless has terms that no walk through all parts would end of.
func TestFoldEndless(t *testing.T) {
	late := time.AfterFunc(time.Minute, func() { panic("a walk does not end") })
	defer late.Stop()
	for _, x := range []impl.Term{looped(25, 1), looped(1, 1), looped(26, 2), looped(23, 3), looped(6, 2), shared(60)} {
		unmade(t, nil, x, "a term without end")
	}
}

func TestEnvMany(t *testing.T) {
	for _, c := range []struct {
		wides []int
		want  int
	}{{nil, 1}, {[]int{1}, 2}, {[]int{4}, 16}, {[]int{1, 1}, 4}, {[]int{4, 4}, 256}, {[]int{4, 3}, 128}, {[]int{1, 2, 3}, 64}, {[]int{2, 2, 2, 2}, 256}, {[]int{1, 1, 1, 1}, 16}, {[]int{4, 2, 1, 1}, 256}} {
		d := []impl.Decl{}
		for i, wide := range c.wides {
			d = append(d, impl.Decl{Name: string(rune('a' + i)), Wide: wide})
		}
		if got := impl.EnvMany(d); got != c.want {
			t.Errorf("EnvMany(%v) = %d, want %d", d, got, c.want)
		}
		everyEnv(t, d)
	}
	for _, d := range wrongDecls() {
		if many := impl.EnvMany(d); many != 0 {
			t.Errorf("EnvMany(%v) = %d", d, many)
		}
		for _, k := range []int{-1, 0, 1, 2, 255, math.MaxInt, math.MinInt} {
			noEnv(t, d, k)
		}
	}
}

// noEnv asks that there are no numbers at a place.
func noEnv(t *testing.T, d []impl.Decl, k int) {
	t.Helper()
	if env, ok := impl.EnvAll(d, k); ok || len(env) != 0 {
		t.Errorf("EnvAll(%v, %d) = %v, %v", d, k, env, ok)
	}
}

// everyEnv asks for the numbers at every place, from below the first to beyond the last.
func everyEnv(t *testing.T, d []impl.Decl) {
	t.Helper()
	want := envsWanted(d)
	if impl.EnvMany(d) != len(want) {
		t.Errorf("EnvMany(%v) = %d, want %d", d, impl.EnvMany(d), len(want))
	}
	for k, env := range want {
		if got, ok := impl.EnvAll(d, k); !ok || !slices.Equal(got, env) || !impl.EnvOk(d, got) {
			t.Errorf("EnvAll(%v, %d) = %v, %v, want %v", d, k, got, ok, env)
		}
	}
	for past := range 20 {
		noEnv(t, d, -1-past)
		noEnv(t, d, len(want)+past)
	}
	for _, k := range []int{math.MinInt, math.MaxInt, -256, 257, 512, 1 << 32, 1<<32 + 1, -1 << 32} {
		noEnv(t, d, k)
	}
}

func TestEnvAll(t *testing.T) {
	for _, d := range someDecls() {
		everyEnv(t, d)
	}
	d := []impl.Decl{{Name: "x", Wide: 2}, {Name: "y", Wide: 1}}
	for k, want := range [][]int{{0, 0}, {0, 1}, {1, 0}, {1, 1}, {2, 0}, {2, 1}, {3, 0}, {3, 1}} {
		if got, ok := impl.EnvAll(d, k); !ok || !slices.Equal(got, want) {
			t.Errorf("EnvAll at %d: %v, %v", k, got, ok)
		}
	}
}

// TestFoldAnswerIsNew asks that what is told shares no memory with an argument, nor with another answer, nor in itself.
func TestFoldAnswerIsNew(t *testing.T) {
	eachSample(100, func(d []impl.Decl, s sample) {
		if parts, _ := counted(s.t); parts > impl.TermMost {
			return
		}
		apart(t, d, spacious(s.t))
	})
	d := []impl.Decl{{Name: "x", Wide: 4}, {Name: "y", Wide: 4}}
	for _, text := range []string{"x", "#0101", "true", "(not (not x))", "(not (not (neg y)))", "(if true (add x y) x)", "(if (no true) x (add x y))", "(and (add x y) (add x y))", "(or (add x y) #0000)", "(both (less x y) true)", "(both (less x y) (less x y))", "(both (no true) (less x y))", "(any (less x y) (no true))", "(mul #0001 (not y))", "(and #0000 (not y))", "(cut 3 0 (not x))", "(no (no (less x y)))", "(no true)", "(if (less x y) (neg x) (neg x))"} {
		x, _ := impl.TermRead(d, text)
		apart(t, d, x)
		apart(t, d, spacious(x))
	}
	// Kids that lie in one list are told in two, and an empty list with room behind it is not handed on.
	kids := make([]impl.Term, 1, 9)
	kids[0] = impl.Term{Op: 21, Name: "x"}
	apart(t, d, plain(6, plain(1, kids...), plain(2, kids...)))
	apart(t, d, plain(23, plain(15, kids[0], plain(1, kids...)), plain(1, kids...), plain(2, plain(1, kids...))))
	apart(t, d, impl.Term{Op: 21, Name: "y", Kids: kids[:0]})
	apart(t, d, plain(1, impl.Term{Op: 21, Name: "y", Kids: kids[:0]}))
	one, _ := impl.EnvAll(d, 35)
	two, _ := impl.EnvAll(d, 35)
	for i := range one[:cap(one)] {
		one[:cap(one)][i] = 99
	}
	if three, ok := impl.EnvAll(d, 35); !ok || !slices.Equal(two, []int{2, 3}) || !slices.Equal(three, []int{2, 3}) {
		t.Error("numbers for names share memory:", two, three)
	}
}

// apart asks that what a right term is made lies in memory of its own.
func apart(t *testing.T, d []impl.Decl, x impl.Term) {
	t.Helper()
	text := impl.TermText(d, x)
	places, given := map[*impl.Term]bool{}, []string{}
	lists(x, func(list []impl.Term) {
		for i := range list {
			places[&list[i]] = true
		}
	})
	names(x, func(name string) { given = append(given, name) })
	for _, decl := range d {
		given = append(given, decl.Name)
	}
	made := []impl.Term{impl.TermOne(d, x), impl.TermOne(d, x), impl.TermFold(d, x), impl.TermFold(d, x)}
	for _, short := range made {
		if impl.TermSort(d, short) < 0 {
			t.Error("made nothing:", text)
		}
		lists(short, func(list []impl.Term) {
			for i := range list {
				if places[&list[i]] {
					t.Error("two lists share a place:", text)
				}
				places[&list[i]] = true
			}
		})
		names(short, func(name string) {
			for _, other := range given {
				if overlap(name, other) {
					t.Error("a name lies in an argument:", text)
				}
			}
		})
	}
}

// TestFoldArgumentsStay asks that nothing is written into an argument, or behind its end.
func TestFoldArgumentsStay(t *testing.T) {
	eachSample(100, func(d []impl.Decl, s sample) {
		roomy := append(slices.Clone(d), impl.Decl{Name: "spare", Wide: 99}, impl.Decl{Name: "room", Wide: 98})
		was := slices.Clone(roomy)
		names, x := roomy[:len(d)], spacious(s.t)
		impl.TermFixed(x)
		impl.TermOne(names, x)
		impl.TermFold(names, x)
		impl.EnvAll(names, 1)
		impl.EnvMany(names)
		if !slices.Equal(roomy, was) || !alike(x, s.t) {
			t.Error("an argument was written into:", s.text)
		}
		lists(x, func(list []impl.Term) {
			if len(list) == 0 || list[len(list)-1].Op != 777 {
				t.Error("written behind the end of a list:", s.text)
			}
		})
	})
}

// TestFoldAgain asks that nothing is kept from call to call.
func TestFoldAgain(t *testing.T) {
	d, other := []impl.Decl{{Name: "x", Wide: 4}}, []impl.Decl{{Name: "x", Wide: 2}}
	x := impl.Term{Op: 21, Name: "x"}
	same, whole := plain(7, x, x), impl.Term{Op: 22, A: 1, Kids: []impl.Term{x}}
	for range 3 {
		if impl.TermText(d, impl.TermFold(d, same)) != "#0000" || impl.TermText(other, impl.TermFold(other, same)) != "#00" || impl.TermText(other, impl.TermFold(other, whole)) != "x" || impl.TermText(d, impl.TermFold(d, whole)) != "(cut 1 0 x)" {
			t.Error("one term with other names")
		}
		unmade(t, nil, same, "a term without its name")
		if impl.EnvMany(d) != 16 || impl.EnvMany(other) != 4 || impl.EnvMany(nil) != 1 {
			t.Error("how many ways there are")
		}
		everyEnv(t, d)
		everyEnv(t, other)
	}
}
