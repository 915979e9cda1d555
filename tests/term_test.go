package tests

import (
	"math"
	"slices"
	"strconv"
	"strings"
	"testing"
	"time"
	"unsafe"

	"loop.example/seedlip/impl"
)

// sample is a term with its text and what it is, put together from its parts by the table of chapter 2.
type sample struct {
	t    impl.Term
	text string
	is   func(env []int) impl.Vec // a truth is a number of no bits
	sort int
}

// plain is a term that has an Op and Kids alone.
func plain(op int, kids ...impl.Term) impl.Term { return impl.Term{Op: op, Kids: kids} }

// yes is a truth as a sample tells it.
func yes(b bool) impl.Vec {
	if b {
		return impl.Vec{N: 1}
	}
	return impl.Vec{}
}

// opWord is the word of an op, as the table has it.
func opWord(op int) string {
	words := strings.Fields("- not neg and or xor add sub mul div rem shl shr sar cat same less under - - - - cut if true no both any")
	return words[op]
}

func vecSample(a impl.Vec) sample {
	text := "#"
	for _, bit := range slices.Backward(digits(a)) {
		text += strconv.Itoa(bit)
	}
	return sample{impl.Term{Op: 20, A: a.Wide, B: a.N}, text, func([]int) impl.Vec { return a }, a.Wide}
}

func nameSample(d []impl.Decl, i int) sample {
	is := func(env []int) impl.Vec { return impl.Vec{Wide: d[i].Wide, N: env[i]} }
	return sample{impl.Term{Op: 21, Name: d[i].Name}, d[i].Name, is, d[i].Wide}
}

func trueSample() sample {
	return sample{impl.Term{Op: 24}, "true", func([]int) impl.Vec { return yes(true) }, 0}
}

// joined is a sample with Kids, whose text begins with these words.
func joined(t impl.Term, words string, sort int, is func(kids []impl.Vec) impl.Vec, kids ...sample) sample {
	for _, kid := range kids {
		t.Kids = append(t.Kids, kid.t)
		words += " " + kid.text
	}
	of := func(env []int) impl.Vec {
		list := []impl.Vec{}
		for _, kid := range kids {
			list = append(list, kid.is(env))
		}
		return is(list)
	}
	return sample{t, "(" + words + ")", of, sort}
}

// unSample is what is done to one number.
func unSample(op int, x sample) sample {
	return joined(plain(op), opWord(op), x.sort, func(k []impl.Vec) impl.Vec {
		if op == impl.OpNeg {
			return sized(-k[0].N, k[0].Wide)
		}
		return bitwise(k[0], k[0], func(x int, _ int) int { return 1 - x })
	}, x)
}

// pairSample is what is done to two numbers, or asked of them.
func pairSample(op int, x sample, y sample) sample {
	sort := x.sort
	is := func(k []impl.Vec) impl.Vec { return wanted(op, k[0], k[1]) }
	switch op {
	case impl.OpCat:
		sort = x.sort + y.sort
		is = func(k []impl.Vec) impl.Vec { return number(append(digits(k[1]), digits(k[0])...)) }
	case impl.OpSame:
		sort = 0
		is = func(k []impl.Vec) impl.Vec { return yes(k[0].N == k[1].N) }
	case impl.OpLess:
		sort = 0
		is = func(k []impl.Vec) impl.Vec { return yes(k[0].N < k[1].N) }
	case impl.OpUnder:
		sort = 0
		is = func(k []impl.Vec) impl.Vec { return yes(signed(k[0]) < signed(k[1])) }
	case impl.TermBoth:
		is = func(k []impl.Vec) impl.Vec { return yes(k[0].N+k[1].N == 2) }
	case impl.TermAny:
		is = func(k []impl.Vec) impl.Vec { return yes(k[0].N+k[1].N > 0) }
	}
	return joined(plain(op), opWord(op), sort, is, x, y)
}

func cutSample(hi int, lo int, x sample) sample {
	words := "cut " + strconv.Itoa(hi) + " " + strconv.Itoa(lo)
	return joined(impl.Term{Op: 22, A: hi, B: lo}, words, hi-lo+1, func(k []impl.Vec) impl.Vec { return number(digits(k[0])[lo : hi+1]) }, x)
}

func ifSample(c sample, x sample, y sample) sample {
	return joined(plain(23), "if", x.sort, func(k []impl.Vec) impl.Vec { return k[2-k[0].N] }, c, x, y)
}

func noSample(x sample) sample {
	return joined(plain(25), "no", 0, func(k []impl.Vec) impl.Vec { return yes(k[0].N == 0) }, x)
}

// maker makes samples, one after the other, always the same ones.
type maker struct {
	seed uint64
	d    []impl.Decl
	left int // parts that may still be made
}

func (m *maker) below(n int) int {
	m.seed = m.seed*6364136223846793005 + 1442695040888963407
	return int(m.seed >> 33 % uint64(n))
}

// leaf is a sample of that sort without Kids, or with one where nothing else is of that sort.
func (m *maker) leaf(sort int) sample {
	m.left--
	if sort == 0 {
		return trueSample()
	}
	for i, decl := range m.d {
		if decl.Wide == sort && m.below(2) == 0 {
			return nameSample(m.d, i)
		}
	}
	return vecSample(impl.Vec{Wide: sort, N: m.below(power(sort))})
}

// make is a sample of that sort with at most so many levels.
func (m *maker) make(sort int, levels int) sample {
	if levels == 1 || m.left < 4 || m.below(8) == 0 {
		return m.leaf(sort)
	}
	m.left--
	if sort == 0 {
		return m.truth(levels - 1)
	}
	return m.bits(sort, levels-1)
}

func (m *maker) truth(levels int) sample {
	wide := 1 + m.below(4)
	switch m.below(5) {
	case 0:
		return noSample(m.make(0, levels))
	case 1:
		return pairSample(26+m.below(2), m.make(0, levels), m.make(0, levels))
	case 2:
		return ifSample(m.make(0, levels), m.make(0, levels), m.make(0, levels))
	}
	return pairSample(15+m.below(3), m.make(wide, levels), m.make(wide, levels))
}

func (m *maker) bits(sort int, levels int) sample {
	switch m.below(6) {
	case 0:
		return unSample(1+m.below(2), m.make(sort, levels))
	case 1:
		return ifSample(m.make(0, levels), m.make(sort, levels), m.make(sort, levels))
	case 2:
		wide := sort + m.below(5-sort)
		lo := m.below(wide - sort + 1)
		return cutSample(lo+sort-1, lo, m.make(wide, levels))
	case 3:
		if sort > 1 {
			low := 1 + m.below(sort-1)
			return pairSample(14, m.make(sort-low, levels), m.make(low, levels))
		}
	}
	return pairSample(3+m.below(11), m.make(sort, levels), m.make(sort, levels))
}

// someDecls is names that are ok, of several sizes, some of them words of a text.
func someDecls() [][]impl.Decl {
	return [][]impl.Decl{
		nil,
		{{Name: "x", Wide: 4}, {Name: "y", Wide: 4}},
		{{Name: "not", Wide: 1}, {Name: "if", Wide: 2}, {Name: "cut", Wide: 3}, {Name: "no", Wide: 2}},
		{{Name: "both", Wide: 4}, {Name: "same", Wide: 2}, {Name: "tru", Wide: 1}, {Name: "zzzz", Wide: 1}},
	}
}

// eachSample calls with many samples, and the names that they are of.
func eachSample(many int, do func(d []impl.Decl, s sample)) {
	for i, d := range someDecls() {
		m := maker{seed: uint64(i + 1), d: d}
		for k := range many {
			m.left = impl.TermMost
			do(d, m.make(k%5, 1+k%impl.TermDeep))
		}
	}
}

// someEnvs is numbers for names: all 0, the greatest, and some between.
func someEnvs(d []impl.Decl) [][]int {
	list := [][]int{}
	for _, way := range []int{0, 15, 1, 8, 5, 10, 14, 7} {
		env := []int{}
		for i, decl := range d {
			env = append(env, (way+i*way*3)%power(decl.Wide))
		}
		list = append(list, env)
	}
	return list
}

// alike says whether two terms are the same, without asking TermSame.
func alike(a impl.Term, b impl.Term) bool {
	return a.Op == b.Op && a.A == b.A && a.B == b.B && a.Name == b.Name && slices.EqualFunc(a.Kids, b.Kids, alike)
}

// copied is a term that shares no list with another.
func copied(t impl.Term) impl.Term {
	kids := t.Kids
	t.Kids = nil
	for _, kid := range kids {
		t.Kids = append(t.Kids, copied(kid))
	}
	return t
}

// counted is how many parts and levels a term has.
func counted(t impl.Term) (int, int) {
	parts, levels := 1, 0
	for _, kid := range t.Kids {
		p, l := counted(kid)
		parts, levels = parts+p, max(levels, l)
	}
	return parts, levels + 1
}

// sortWanted is the sort that the table of chapter 2 gives, or -1; d is ok, and the term within bounds.
func sortWanted(d []impl.Decl, t impl.Term) int {
	k := []int{}
	for _, kid := range t.Kids {
		k = append(k, sortWanted(d, kid))
	}
	if slices.Contains(k, -1) || t.Name != "" && t.Op != 21 || (t.A != 0 || t.B != 0) && t.Op != 20 && t.Op != 22 {
		return -1
	}
	wants := map[bool]int{true: 0, false: -1}
	switch {
	case t.Op == 20 && len(k) == 0 && t.A >= 1 && t.A <= 4 && t.B >= 0 && t.B < power(t.A):
		return t.A
	case t.Op == 21 && len(k) == 0:
		for _, decl := range d {
			if decl.Name == t.Name {
				return decl.Wide
			}
		}
	case t.Op == 24 && len(k) == 0:
		return 0
	case (t.Op == 1 || t.Op == 2) && len(k) == 1 && k[0] > 0:
		return k[0]
	case t.Op >= 3 && t.Op <= 13 && len(k) == 2 && k[0] > 0 && k[0] == k[1]:
		return k[0]
	case t.Op == 14 && len(k) == 2 && k[0] > 0 && k[1] > 0 && k[0]+k[1] <= 4:
		return k[0] + k[1]
	case t.Op >= 15 && t.Op <= 17 && len(k) == 2:
		return wants[k[0] > 0 && k[0] == k[1]]
	case t.Op == 22 && len(k) == 1 && t.B >= 0 && t.A >= t.B && t.A < k[0]:
		return t.A - t.B + 1
	case t.Op == 23 && len(k) == 3 && k[0] == 0 && k[1] == k[2]:
		return k[1]
	case t.Op == 25 && len(k) == 1:
		return wants[k[0] == 0]
	case (t.Op == 26 || t.Op == 27) && len(k) == 2:
		return wants[k[0] == 0 && k[1] == 0]
	}
	return -1
}

// refused asks for the one fixed answer of each function to a term that is not right.
func refused(t *testing.T, d []impl.Decl, x impl.Term, why string) {
	t.Helper()
	if sort := impl.TermSort(d, x); sort != -1 {
		t.Errorf("%s: sort %d", why, sort)
	}
	if text := impl.TermText(d, x); text != "" {
		t.Errorf("%s: text %q", why, text)
	}
	if n, ok := impl.TermEval(d, x, make([]int, len(d))); ok || n != 0 {
		t.Errorf("%s: %d, %v", why, n, ok)
	}
}

// unread asks that a text is not read.
func unread(t *testing.T, d []impl.Decl, text string) {
	t.Helper()
	if x, ok := impl.TermRead(d, text); ok || !alike(x, impl.Term{}) {
		t.Errorf("TermRead(%.60q) = %v, %v", text, x, ok)
	}
}

// holds asks that a sample is told as it is.
func holds(t *testing.T, d []impl.Decl, s sample) {
	t.Helper()
	parts, levels := counted(s.t)
	if p, l := impl.TermMany(s.t); p != parts || l != levels {
		t.Errorf("TermMany(%s) = %d, %d, want %d, %d", s.text, p, l, parts, levels)
	}
	if sort := impl.TermSort(d, s.t); sort != s.sort {
		t.Errorf("TermSort(%s) = %d, want %d", s.text, sort, s.sort)
	}
	if text := impl.TermText(d, s.t); text != s.text {
		t.Errorf("TermText = %q, want %q", text, s.text)
	}
	if x, ok := impl.TermRead(d, s.text); !ok || !alike(x, s.t) {
		t.Errorf("TermRead(%q) = %v, %v", s.text, x, ok)
	}
	for _, env := range someEnvs(d) {
		want := s.is(env)
		if n, ok := impl.TermEval(d, s.t, env); !ok || n != want.N || want.Wide != s.sort {
			t.Errorf("TermEval(%s, %v) = %d, %v, want %v", s.text, env, n, ok, want)
		}
	}
}

func TestTermConstants(t *testing.T) {
	kinds := []int{impl.TermVec, impl.TermName, impl.TermCut, impl.TermIf, impl.TermTrue, impl.TermNo, impl.TermBoth, impl.TermAny}
	for i, op := range kinds {
		if op != 20+i {
			t.Errorf("kind at place %d is %d", i, op)
		}
	}
	if got := [5]int{impl.NameMost, impl.DeclMost, impl.DeclBits, impl.TermMost, impl.TermDeep}; got != [5]int{4, 4, 8, 20, 7} {
		t.Error("bounds", got)
	}
}

func TestDeclOk(t *testing.T) {
	for _, d := range append(someDecls(), []impl.Decl{}, []impl.Decl{{Name: "a", Wide: 1}}, []impl.Decl{{Name: "z", Wide: 4}},
		[]impl.Decl{{Name: "abcd", Wide: 2}, {Name: "dcba", Wide: 2}, {Name: "abc", Wide: 2}, {Name: "az", Wide: 2}},
		[]impl.Decl{{Name: "a", Wide: 4}, {Name: "aa", Wide: 3}, {Name: "aaa", Wide: 1}},
		[]impl.Decl{{Name: "tr", Wide: 1}, {Name: "rue", Wide: 1}, {Name: "eurt", Wide: 1}, {Name: "fals", Wide: 1}},
	) {
		if !impl.DeclOk(d) {
			t.Error("not ok:", d)
		}
	}
	for _, d := range wrongDecls() {
		if impl.DeclOk(d) {
			t.Error("ok:", d)
		}
	}
}

// wrongDecls is names that are not ok, each for one reason.
func wrongDecls() [][]impl.Decl {
	list := [][]impl.Decl{
		{{Name: "a", Wide: 1}, {Name: "b", Wide: 1}, {Name: "c", Wide: 1}, {Name: "d", Wide: 1}, {Name: "e", Wide: 1}},
		{{Name: "a", Wide: 4}, {Name: "b", Wide: 4}, {Name: "c", Wide: 1}},
		{{Name: "a", Wide: 3}, {Name: "b", Wide: 3}, {Name: "c", Wide: 3}},
		{{Name: "x", Wide: 1}, {Name: "x", Wide: 1}},
		{{Name: "x", Wide: 1}, {Name: "y", Wide: 2}, {Name: "x", Wide: 3}},
		{{Name: "x", Wide: 1}, {Name: "a", Wide: 1}, {Name: "b", Wide: 1}, {Name: "x", Wide: 1}},
		{{Name: "x", Wide: 4}, {Name: "true", Wide: 1}},
		{{Name: "x", Wide: 4}, {}},
		make([]impl.Decl, 1000),
	}
	for _, name := range []string{"", "true", "abcde", "under", "A", "aZ", "a1", "1", "a b", " a", "a ", "#", "#1", "(", "a(", "a)", "_", "`", "{", "é", "aé", "ａ", "\x00", "a\n", "\xff", strings.Repeat("a", 100)} {
		list = append(list, []impl.Decl{{Name: name, Wide: 1}})
	}
	for _, wide := range []int{0, -1, 5, 8, math.MaxInt, math.MinInt, 1<<32 + 1} {
		list = append(list, []impl.Decl{{Name: "x", Wide: wide}}, []impl.Decl{{Name: "x", Wide: 4}, {Name: "y", Wide: wide}})
	}
	return append(list, []impl.Decl{{Name: "x", Wide: math.MaxInt}, {Name: "y", Wide: math.MaxInt}, {Name: "z", Wide: 3}})
}

// TestTermWrongDecls asks all functions of names that are not ok.
func TestTermWrongDecls(t *testing.T) {
	for _, d := range wrongDecls() {
		refused(t, d, impl.Term{Op: 24}, "true")
		refused(t, d, impl.Term{Op: 20, A: 1}, "#0")
		unread(t, d, "true")
		unread(t, d, "#0")
		for _, decl := range d {
			refused(t, d, impl.Term{Op: 21, Name: decl.Name}, decl.Name)
			unread(t, d, decl.Name)
		}
		if impl.EnvOk(d, make([]int, len(d))) {
			t.Error("EnvOk:", d)
		}
	}
}

// TestTermKinds holds each kind of the table against its sort, what it is and its text, at every number.
func TestTermKinds(t *testing.T) {
	for _, a := range allVecs() {
		x := vecSample(a)
		holds(t, nil, x)
		holds(t, nil, unSample(1, x))
		holds(t, nil, unSample(2, x))
		for hi := range a.Wide {
			for lo := range hi + 1 {
				holds(t, nil, cutSample(hi, lo, x))
			}
		}
		for _, b := range allVecs() {
			y := vecSample(b)
			for op := 3; op <= 17; op++ {
				if op != 14 && a.Wide == b.Wide || op == 14 && a.Wide+b.Wide <= 4 {
					holds(t, nil, pairSample(op, x, y))
				} else {
					refused(t, nil, plain(op, x.t, y.t), opWord(op))
					unread(t, nil, "("+opWord(op)+" "+x.text+" "+y.text+")")
				}
			}
			for _, c := range []sample{trueSample(), noSample(trueSample())} {
				if a.Wide == b.Wide {
					holds(t, nil, ifSample(c, x, y))
				}
			}
		}
	}
}

// TestTermTruths holds each kind that is of truths against all of these.
func TestTermTruths(t *testing.T) {
	truths := []sample{noSample(trueSample()), trueSample()}
	for i, x := range truths {
		holds(t, nil, x)
		if n, ok := impl.TermEval(nil, x.t, nil); !ok || n != i {
			t.Error(x.text, n, ok)
		}
		holds(t, nil, noSample(x))
		for _, y := range truths {
			holds(t, nil, pairSample(26, x, y))
			holds(t, nil, pairSample(27, x, y))
			for _, z := range truths {
				holds(t, nil, ifSample(x, y, z))
			}
		}
	}
}

// TestTermWritten has texts whose sort and number are written here by hand.
func TestTermWritten(t *testing.T) {
	d := []impl.Decl{{Name: "x", Wide: 4}, {Name: "y", Wide: 3}, {Name: "if", Wide: 1}}
	for _, c := range []struct {
		text    string
		sort, n int
	}{
		{"x", 4, 13}, {"y", 3, 3}, {"if", 1, 1}, {"true", 0, 1}, {"#0110", 4, 6}, {"(not x)", 4, 2}, {"(neg x)", 4, 3}, {"(neg y)", 3, 5},
		{"(and x #0111)", 4, 5}, {"(or x #0010)", 4, 15}, {"(xor x #1111)", 4, 2}, {"(add x #0101)", 4, 2}, {"(sub y #100)", 3, 7},
		{"(mul x x)", 4, 9}, {"(div x #0011)", 4, 4}, {"(rem x #0101)", 4, 3}, {"(div y #000)", 3, 7}, {"(rem y #000)", 3, 3},
		{"(shl x #0001)", 4, 10}, {"(shr x #0001)", 4, 6}, {"(sar x #0001)", 4, 14}, {"(cat if y)", 4, 11}, {"(cat y if)", 4, 7},
		{"(same x #1101)", 0, 1}, {"(same x #1100)", 0, 0}, {"(less #0111 x)", 0, 1}, {"(under #0111 x)", 0, 0}, {"(under x #0000)", 0, 1},
		{"(cut 3 0 x)", 4, 13}, {"(cut 2 1 x)", 2, 2}, {"(cut 0 0 if)", 1, 1}, {"(if true x #0000)", 4, 13}, {"(if (no true) x #0010)", 4, 2},
		{"(if (same if #1) (less x x) true)", 0, 0}, {"(no (same if #0))", 0, 1}, {"(both true (same if #0))", 0, 0}, {"(any (same if #0) true)", 0, 1},
		{"(add (mul (cat #1 y) x) (if (under y #100) #0001 (neg x)))", 4, 2},
		{"(cat (cut 0 0 (not (shr x #0001))) (cut 2 0 (cat (not if) (xor y #101))))", 4, 14},
	} {
		x, ok := impl.TermRead(d, c.text)
		if !ok || impl.TermSort(d, x) != c.sort || impl.TermText(d, x) != c.text {
			t.Errorf("%s: %v, sort %d, text %q", c.text, ok, impl.TermSort(d, x), impl.TermText(d, x))
		}
		if n, ok := impl.TermEval(d, x, []int{13, 3, 1}); !ok || n != c.n {
			t.Errorf("%s = %d, %v, want %d", c.text, n, ok, c.n)
		}
	}
}

// TestTermParts holds terms of several levels against what their parts make them (promise 2).
func TestTermParts(t *testing.T) {
	deep, big := 0, 0
	ops := map[int]int{}
	eachSample(2000, func(d []impl.Decl, s sample) {
		parts, levels := counted(s.t)
		deep, big = max(deep, levels), max(big, parts)
		ops[s.t.Op]++
		if parts <= impl.TermMost {
			holds(t, d, s)
		} else {
			refused(t, d, s.t, s.text)
			unread(t, d, s.text)
		}
	})
	if deep != impl.TermDeep || big <= impl.TermMost {
		t.Error("no sample is as great as can be:", deep, big)
	}
	for op := 1; op <= 27; op++ {
		if (op < 18 || op > 19) && ops[op] == 0 {
			t.Error("no sample of kind", op)
		}
	}
}

// TestTermAllEnvs asks of one term what it is with all numbers for its names.
func TestTermAllEnvs(t *testing.T) {
	d := someDecls()[1]
	x, y := nameSample(d, 0), nameSample(d, 1)
	s := ifSample(pairSample(16, x, y), pairSample(7, pairSample(8, x, y), unSample(2, x)), pairSample(13, x, y))
	for a := range 16 {
		for b := range 16 {
			env := []int{a, b}
			if n, ok := impl.TermEval(d, s.t, env); !ok || n != s.is(env).N {
				t.Errorf("%s with %v: %d, %v, want %v", s.text, env, n, ok, s.is(env))
			}
		}
	}
}

// TestTermNameIsWord has names that are words of a text, each where it is a name.
func TestTermNameIsWord(t *testing.T) {
	for _, word := range strings.Fields("not neg and or xor add sub mul div rem shl shr sar cat same less cut if no both any tru") {
		d := []impl.Decl{{Name: word, Wide: 2}}
		x := nameSample(d, 0)
		holds(t, d, x)
		for op := 1; op <= 27; op++ {
			switch {
			case op <= 2:
				holds(t, d, unSample(op, x))
			case op <= 17:
				holds(t, d, pairSample(op, x, x))
			case op == 22:
				holds(t, d, cutSample(1, 1, x))
			case op == 23:
				holds(t, d, ifSample(pairSample(15, x, x), x, x))
			}
		}
		unread(t, nil, word)
		unread(t, d, "("+word+")")
		unread(t, d, "(true "+word+")")
	}
}

// manyTruth is a term of that many parts with few levels.
func manyTruth(parts int) sample {
	switch parts {
	case 1:
		return trueSample()
	case 2:
		return noSample(trueSample())
	case 3:
		return pairSample(27, trueSample(), trueSample())
	}
	third := (parts - 1) / 3
	return ifSample(manyTruth(third), manyTruth(third), manyTruth(parts-1-2*third))
}

// chain is a term of that many levels, with one part a level.
func chain(levels int) sample {
	s := trueSample()
	for range levels - 1 {
		s = noSample(s)
	}
	return s
}

func TestTermMostAndDeep(t *testing.T) {
	for parts := 1; parts <= 24; parts++ {
		s := manyTruth(parts)
		if p, l := counted(s.t); p != parts || l > 6 {
			t.Fatal("the test's own term:", p, l)
		}
		if parts <= 20 {
			holds(t, nil, s)
			continue
		}
		refused(t, nil, s.t, s.text)
		unread(t, nil, s.text)
		if p, l := impl.TermMany(s.t); p != 21 || l != 8 {
			t.Errorf("TermMany of %d parts: %d, %d", parts, p, l)
		}
	}
	for levels := 1; levels <= 12; levels++ {
		s := chain(levels)
		if levels <= 7 {
			holds(t, nil, s)
			continue
		}
		refused(t, nil, s.t, s.text)
		unread(t, nil, s.text)
		if p, l := impl.TermMany(s.t); p != 21 || l != 8 {
			t.Errorf("TermMany of %d levels: %d, %d", levels, p, l)
		}
	}
}

// TestTermDeepKid has the one level too many below the first Kid, the second and the third.
func TestTermDeepKid(t *testing.T) {
	fits, over := chain(6), chain(7)
	low := trueSample()
	for _, s := range []sample{pairSample(26, fits, low), pairSample(26, low, fits), ifSample(fits, low, low), ifSample(low, fits, low), ifSample(low, low, fits)} {
		holds(t, nil, s)
	}
	for _, s := range []sample{noSample(over), pairSample(26, over, low), pairSample(26, low, over), ifSample(over, low, low), ifSample(low, over, low), ifSample(low, low, over)} {
		refused(t, nil, s.t, s.text)
		unread(t, nil, s.text)
		if p, l := impl.TermMany(s.t); p != 21 || l != 8 {
			t.Errorf("TermMany(%s) = %d, %d", s.text, p, l)
		}
	}
	// As many parts and as many levels as there may be, at once.
	full := pairSample(27, chain(6), pairSample(26, pairSample(27, chain(4), chain(4)), chain(3)))
	if p, l := counted(full.t); p != 20 || l != 7 {
		t.Fatal("the test's own term:", p, l)
	}
	holds(t, nil, full)
}

// TestTermManyAny counts terms that are none of the table.
func TestTermManyAny(t *testing.T) {
	deep := impl.Term{Op: 99}
	for range 6 {
		deep = plain(-5, deep)
	}
	for _, c := range []struct {
		t             impl.Term
		parts, levels int
	}{
		{impl.Term{}, 1, 1}, {impl.Term{Op: 24, Kids: []impl.Term{}}, 1, 1}, {impl.Term{Op: -1, A: 5, B: -9, Name: "?"}, 1, 1},
		{plain(0, make([]impl.Term, 19)...), 20, 2}, {plain(0, make([]impl.Term, 20)...), 21, 8}, {plain(0, make([]impl.Term, 1000000)...), 21, 8},
		{plain(1, impl.Term{}, plain(7, impl.Term{}, impl.Term{}), impl.Term{}), 6, 3}, {deep, 7, 7}, {plain(24, deep), 21, 8},
		{plain(24, deep, deep), 21, 8}, {plain(24, make([]impl.Term, 17)[0], plain(1, make([]impl.Term, 17)...)), 20, 3},
	} {
		if p, l := impl.TermMany(c.t); p != c.parts || l != c.levels {
			t.Errorf("TermMany = %d, %d, want %d, %d", p, l, c.parts, c.levels)
		}
	}
}

// looped is a term that has itself among its Kids.
func looped(op int, many int) impl.Term {
	kids := make([]impl.Term, many)
	for i := range kids {
		kids[i] = impl.Term{Op: op, Kids: kids}
	}
	return kids[0]
}

// shared is a term of 2 to the power of levels parts, that lies in few.
func shared(levels int) impl.Term {
	t := impl.Term{Op: 24}
	for range levels {
		t = plain(26, t, t)
	}
	return t
}

// TestTermEndless has terms that no walk through all parts would end of.
func TestTermEndless(t *testing.T) {
	late := time.AfterFunc(time.Minute, func() { panic("a walk does not end") })
	defer late.Stop()
	long := impl.Term{Op: 24}
	for range 300000 {
		long = plain(25, long)
	}
	for i, x := range []impl.Term{looped(25, 1), looped(26, 2), looped(23, 3), shared(60), long} {
		if p, l := impl.TermMany(x); p != 21 || l != 8 {
			t.Errorf("TermMany of %d: %d, %d", i, p, l)
		}
		refused(t, nil, x, "endless "+strconv.Itoa(i))
		if !impl.TermSame(x, x) {
			t.Error("not the same as itself:", i)
		}
	}
	for _, c := range []struct {
		a, b impl.Term
		want bool
	}{
		{looped(25, 1), looped(25, 1), true}, {looped(26, 2), looped(26, 2), true}, {looped(26, 2), looped(27, 2), false}, {looped(26, 2), looped(26, 3), false},
		{shared(60), shared(60), true}, {shared(60), shared(61), false}, {long, plain(25, long), false}, {long, long.Kids[0], false}, {looped(25, 1), long, false},
		{looped(25, 1), plain(25, looped(25, 1)), true}, {looped(25, 1), plain(25, plain(25, looped(26, 1))), false},
	} {
		if impl.TermSame(c.a, c.b) != c.want || impl.TermSame(c.b, c.a) != c.want {
			t.Errorf("TermSame of two without end: not %v", c.want)
		}
	}
}

// eachChange calls with terms that differ from one in one thing of one part.
func eachChange(x impl.Term, do func(impl.Term)) {
	for _, change := range []func(t *impl.Term){
		func(t *impl.Term) { t.Op++ }, func(t *impl.Term) { t.Op-- }, func(t *impl.Term) { t.Op = -t.Op }, func(t *impl.Term) { t.Op += 1 << 32 }, func(t *impl.Term) { t.Op = 18 },
		func(t *impl.Term) { t.A++ }, func(t *impl.Term) { t.A-- }, func(t *impl.Term) { t.A += 1 << 32 }, func(t *impl.Term) { t.A = math.MinInt },
		func(t *impl.Term) { t.B++ }, func(t *impl.Term) { t.B-- }, func(t *impl.Term) { t.B += 16 }, func(t *impl.Term) { t.B = math.MaxInt },
		func(t *impl.Term) { t.Name += "x" }, func(t *impl.Term) { t.Name += "\x00" }, func(t *impl.Term) { t.Name = "true" + t.Name },
		func(t *impl.Term) { t.Kids = append(t.Kids, impl.Term{Op: 24}) }, func(t *impl.Term) { t.Kids = append(t.Kids, impl.Term{Op: 20, A: 2}) },
		func(t *impl.Term) { t.Kids = append([]impl.Term{{Op: 24}}, t.Kids...) }, func(t *impl.Term) { t.Kids = append(t.Kids, impl.Term{}) },
	} {
		t := copied(x)
		change(&t)
		if !alike(t, x) {
			do(t)
		}
	}
	if len(x.Kids) > 0 {
		t := copied(x)
		t.Kids = t.Kids[1:]
		do(t)
		t = copied(x)
		t.Kids = t.Kids[:len(t.Kids)-1]
		do(t)
	}
	for i := range x.Kids {
		eachChange(x.Kids[i], func(kid impl.Term) {
			t := copied(x)
			t.Kids[i] = kid
			do(t)
		})
	}
}

// TestTermChanged asks of terms that are right but for one thing, or just still right.
func TestTermChanged(t *testing.T) {
	still, not := 0, 0
	eachSample(150, func(d []impl.Decl, s sample) {
		if parts, _ := counted(s.t); parts > 18 {
			return
		}
		eachChange(s.t, func(x impl.Term) {
			if impl.TermSame(x, s.t) || impl.TermSame(s.t, x) {
				t.Errorf("TermSame of %s and %v", s.text, x)
			}
			_, levels := counted(x)
			want := sortWanted(d, x)
			if levels > impl.TermDeep {
				want = -1
			}
			if want == -1 {
				not++
				refused(t, d, x, "changed")
			} else if still++; impl.TermSort(d, x) != want || impl.TermText(d, x) == "" {
				t.Errorf("TermSort(%v) = %d, want %d", x, impl.TermSort(d, x), want)
			}
		})
	})
	if still < 1000 || not < 10000 {
		t.Error("too few:", still, not)
	}
}

// TestTermWrong has terms that are not right, one for each thing that the table asks.
func TestTermWrong(t *testing.T) {
	d := []impl.Decl{{Name: "x", Wide: 4}, {Name: "y", Wide: 2}}
	x, y, one := impl.Term{Op: 21, Name: "x"}, impl.Term{Op: 21, Name: "y"}, impl.Term{Op: 24}
	zero := impl.Term{Op: 20, A: 4}
	for why, w := range map[string]impl.Term{
		"nothing": {}, "Op 18": plain(18, x), "Op 19": plain(19, x, x), "Op 28": plain(28, one, one), "Op below 0": plain(-1, x),
		"Vec of no bits": {Op: 20}, "Vec of 5 bits": {Op: 20, A: 5}, "Vec of a bit too many": {Op: 20, A: 2, B: 4}, "Vec 16": {Op: 20, A: 4, B: 16}, "Vec below 0": {Op: 20, A: 4, B: -1},
		"Vec with a name": {Op: 20, A: 1, Name: "x"}, "Vec with a kid": {Op: 20, A: 1, Kids: []impl.Term{x}},
		"no such name": {Op: 21, Name: "z"}, "empty name": {Op: 21}, "true as a name": {Op: 21, Name: "true"}, "name with A": {Op: 21, Name: "x", A: 4}, "name with B": {Op: 21, Name: "x", B: 1}, "name with a kid": {Op: 21, Name: "x", Kids: []impl.Term{x}},
		"true with A": {Op: 24, A: 1}, "true with B": {Op: 24, B: 1}, "true with a name": {Op: 24, Name: "x"}, "true with a kid": plain(24, one),
		"not of none": plain(1), "not of two": plain(1, x, x), "not of true": plain(1, one), "neg of true": plain(2, one), "not with A": {Op: 1, A: 1, Kids: []impl.Term{x}},
		"add of one": plain(6, x), "add of three": plain(6, x, x, x), "add of other bits": plain(6, x, y), "add of true": plain(6, one, one), "add with B": {Op: 6, B: 1, Kids: []impl.Term{x, x}}, "add with a name": {Op: 6, Name: "x", Kids: []impl.Term{x, x}},
		"cat of 6": plain(14, x, y), "cat of 8": plain(14, x, x), "cat of true": plain(14, y, one), "cat of true first": plain(14, one, y), "cat of one": plain(14, y),
		"same of other bits": plain(15, x, y), "same of true": plain(15, one, one), "less of three": plain(16, x, x, x), "under of one": plain(17, x), "under with A": {Op: 17, A: -1, Kids: []impl.Term{x, x}},
		"cut above": {Op: 22, A: 4, Kids: []impl.Term{x}}, "cut of y above": {Op: 22, A: 2, Kids: []impl.Term{y}}, "cut below": {Op: 22, B: -1, Kids: []impl.Term{x}}, "cut turned": {Op: 22, A: 1, B: 2, Kids: []impl.Term{x}}, "cut of none": {Op: 22}, "cut of two": plain(22, x, x), "cut of true": plain(22, one), "cut with a name": {Op: 22, Name: "x", Kids: []impl.Term{x}},
		"if of bits": plain(23, x, x, x), "if of two sorts": plain(23, one, x, y), "if of bits and true": plain(23, one, x, one), "if of two": plain(23, one, x), "if of four": plain(23, one, x, x, x), "if with A": {Op: 23, A: 1, Kids: []impl.Term{one, x, x}},
		"no of bits": plain(25, x), "no of 0": plain(25, zero), "no of none": plain(25), "no of two": plain(25, one, one), "no with B": {Op: 25, B: 1, Kids: []impl.Term{one}},
		"both of bits": plain(26, one, x), "both of bits first": plain(26, x, one), "both of one": plain(26, one), "any of bits": plain(27, x, one), "any of bits last": plain(27, one, x), "any of three": plain(27, one, one, one), "any with a name": {Op: 27, Name: "x", Kids: []impl.Term{one, one}},
	} {
		refused(t, d, w, why)
		if parts, _ := counted(w); parts < 4 {
			refused(t, d, plain(23, one, w, w), "if of "+why)
			refused(t, d, plain(23, one, one, w), "the last of an if: "+why)
		}
	}
}

func TestTermSame(t *testing.T) {
	eachSample(150, func(d []impl.Decl, s sample) {
		if !impl.TermSame(s.t, s.t) || !impl.TermSame(s.t, copied(s.t)) {
			t.Error("not the same as itself:", s.text)
		}
	})
	list := []sample{}
	eachSample(12, func(d []impl.Decl, s sample) { list = append(list, s) })
	for _, a := range list {
		for _, b := range list {
			if got := impl.TermSame(a.t, b.t); got != alike(a.t, b.t) {
				t.Errorf("TermSame(%s, %s) = %v", a.text, b.text, got)
			}
		}
	}
	empty, none := impl.Term{Op: 24, Kids: []impl.Term{}}, impl.Term{Op: 24}
	if !impl.TermSame(empty, none) || !impl.TermSame(plain(5, none), plain(5, empty)) || !impl.TermSame(impl.Term{}, impl.Term{}) {
		t.Error("an empty list is no other than none")
	}
	// Any two, also such as are not right.
	odd := plain(99, impl.Term{Op: -3, A: math.MinInt, B: math.MaxInt, Name: "\xff"}, plain(0, make([]impl.Term, 30)...))
	if !impl.TermSame(odd, copied(odd)) || impl.TermSame(odd, impl.Term{}) {
		t.Error("of terms that are not right")
	}
	eachChange(odd, func(x impl.Term) {
		if impl.TermSame(odd, x) || impl.TermSame(x, odd) {
			t.Error("the same but for one thing:", x)
		}
	})
	// One list of Kids that begins where another does, but is shorter.
	kids := []impl.Term{none, none}
	if impl.TermSame(plain(26, kids...), plain(26, kids[:1]...)) {
		t.Error("the same but for the last Kid")
	}
	// Lists that were met once, but as far as their first Kid.
	others := []impl.Term{none, {Op: 25}}
	for _, many := range [][2]int{{1, 2}, {2, 1}} {
		if impl.TermSame(plain(26, plain(9, kids[:many[0]]...), plain(9, kids[:many[1]]...)), plain(26, plain(9, others[:many[0]]...), plain(9, others[:many[1]]...))) {
			t.Error("the same but for what is behind the first")
		}
	}
	// A list that was met once, but against another.
	if impl.TermSame(plain(26, plain(9, kids...), plain(9, kids...)), plain(26, plain(9, none, none), plain(9, none, empty, none))) ||
		impl.TermSame(plain(26, plain(9, kids...), plain(9, kids...)), plain(26, plain(9, none, none), plain(9, none, plain(1)))) {
		t.Error("the same but for the last two")
	}
}

func TestEnvOk(t *testing.T) {
	for _, d := range someDecls() {
		for _, env := range someEnvs(d) {
			if !impl.EnvOk(d, env) {
				t.Error("not ok:", d, env)
			}
			if impl.EnvOk(d, append([]int{0}, env...)) || len(env) > 0 && impl.EnvOk(d, env[1:]) {
				t.Error("not as many, but ok:", d, env)
			}
			for i, decl := range d {
				for _, n := range []int{-1, power(decl.Wide), power(decl.Wide) + 1, -8, math.MaxInt, math.MinInt, 1 << 32} {
					wrong := slices.Clone(env)
					wrong[i] = n
					if impl.EnvOk(d, wrong) {
						t.Error("ok:", d, wrong)
					}
					if n, ok := impl.TermEval(d, impl.Term{Op: 24}, wrong); ok || n != 0 {
						t.Error("TermEval:", d, wrong, n, ok)
					}
				}
			}
		}
	}
	if !impl.EnvOk(nil, nil) || !impl.EnvOk([]impl.Decl{}, []int{}) || impl.EnvOk(nil, []int{0}) || impl.EnvOk(someDecls()[1], nil) {
		t.Error("no names")
	}
	d := someDecls()[1]
	for _, env := range [][]int{nil, {}, {1}, {1, 2, 3}, {16, 0}, {0, 16}, {-1, 0}} {
		if n, ok := impl.TermEval(d, impl.Term{Op: 21, Name: "x"}, env); ok || n != 0 {
			t.Error("TermEval:", env, n, ok)
		}
	}
}

// TestTermEmptyKids has empty lists of Kids where there are none.
func TestTermEmptyKids(t *testing.T) {
	d := []impl.Decl{{Name: "x", Wide: 2}}
	for _, x := range []impl.Term{{Op: 20, A: 2, B: 3}, {Op: 21, Name: "x"}} {
		want := impl.TermText(d, x)
		x.Kids = []impl.Term{}
		if impl.TermSort(d, x) != 2 || impl.TermText(d, x) != want || want == "" {
			t.Error(x, want)
		}
	}
}

func TestTermReadWrong(t *testing.T) {
	d := []impl.Decl{{Name: "x", Wide: 4}, {Name: "y", Wide: 2}, {Name: "no", Wide: 1}}
	for _, text := range []string{
		"", " ", "z", "X", "xx", "x ", " x", "x y", "x\n", "\tx", "x\x00", "\xffx", "x\xff", "(x)", "()", "(", ")", ")(", "x)", "(x", "((not x))", "not", "and", "if", "true ", "True", "TRUE", "truex", "(true)", "false", "(false)",
		"#", "#2", "#00000", "#11111", "#0000000000000000000000000000000000000000000000000000000000000000000000001", "##0", "# 0", "0", "1", "0000", "-1", "#-1", "#0#0", "#0 #0", "(#0)", "(not #00000)", "(cat #000 #00)",
		"(not)", "(not )", "(not x", "(not x ", "(not x )", "( not x)", "(not  x)", "(not\tx)", "(not\nx)", "(not x)x", "(not x) ", "(not x))", "(not x x)", "(not(not x))", "(not ( not x))", "(Not x)", "(nott x)", "(no x)", "(no no)", "(no)", "(no true true)",
		"(add x)", "(add x x x)", "(add x y)", "(add x,x)", "(add x  x)", "(add x x )", "(add x x", "(add)", "(+ x x)", "(fly x x)", "(true x)", "(x x)", "(# x)", "(20 x)", "(6 x x)", "(add x true)", "(same true true)", "(same x y)",
		"(cut x)", "(cut 1 x)", "(cut 1 0)", "(cut 1 0 )", "(cut 1 0 x x)", "(cut 4 0 x)", "(cut 2 0 y)", "(cut 0 1 x)", "(cut 01 0 x)", "(cut 1 00 x)", "(cut +1 0 x)", "(cut 1 -0 x)", "(cut 1 -1 x)", "(cut -1 -1 x)", "(cut 1_0 0 x)", "(cut 0x1 0 x)", "(cut a b x)", "(cut 1  0 x)", "(cut  1 0 x)", "(cut 1 0  x)", "(cut 1,0 x)", "(cut x 1 0)", "(cut 1 0 true)", "(cut ١ 0 x)", "(cut 18446744073709551617 0 x)", "(cut 1 18446744073709551616 x)", "(cut 99999999999999999999999999 0 x)", "(cut (not x) 0 x)", "(cut #1 #0 x)", "(cut",
		"(if true x)", "(if true x y)", "(if x x x)", "(if true x true)", "(if true x x x)", "(if)", "(both true)", "(both x true)", "(both true x)", "(any true no)", "(any true true true)",
		strings.Repeat("(", 1000000), strings.Repeat("(no ", 1000000), strings.Repeat("(no ", 8) + "true" + strings.Repeat(")", 8), strings.Repeat("x", 1000000), "#" + strings.Repeat("0", 1000000), strings.Repeat(" ", 1000000), "(not x)" + strings.Repeat(")", 1000000),
	} {
		unread(t, d, text)
	}
}

// TestTermTextChanged changes one byte of texts: what is still read is written again as it was read.
func TestTermTextChanged(t *testing.T) {
	still := 0
	eachSample(60, func(d []impl.Decl, s sample) {
		if parts, _ := counted(s.t); parts > impl.TermMost {
			return
		}
		for i := range len(s.text) + 1 {
			texts := []string{s.text[:i]}
			for _, sign := range []string{" ", "(", ")", "#", "0", "1", "2", "3", "4", "x", "y", "n", "-", "+", "\x00", "\n", "é"} {
				texts = append(texts, s.text[:i]+sign+s.text[i:])
				if i < len(s.text) {
					texts = append(texts, s.text[:i]+sign+s.text[i+1:], s.text[:i]+s.text[i+1:])
				}
			}
			for _, text := range texts {
				x, ok := impl.TermRead(d, text)
				if !ok {
					unread(t, d, text)
					continue
				}
				still++
				if impl.TermText(d, x) != text || sortWanted(d, x) == -1 {
					t.Errorf("%q is read, but %q is written", text, impl.TermText(d, x))
				}
			}
		}
	})
	if still < 1000 {
		t.Error("too few are read:", still)
	}
}

// TestTermOneText asks that no two terms have one text.
func TestTermOneText(t *testing.T) {
	for _, d := range someDecls() {
		seen := map[string]impl.Term{}
		m := maker{seed: 77, d: d}
		for k := range 2000 {
			m.left = 8
			s := m.make(k%5, 3)
			text := impl.TermText(d, s.t)
			if other, met := seen[text]; met && !alike(other, s.t) {
				t.Errorf("%v and %v are both written %q", other, s.t, text)
			}
			seen[text] = s.t
		}
	}
}

// lists calls with each list of Kids of a term, spare room included.
func lists(x impl.Term, do func([]impl.Term)) {
	do(x.Kids[:cap(x.Kids)])
	for _, kid := range x.Kids {
		lists(kid, do)
	}
}

// names calls with each name of a term.
func names(x impl.Term, do func(string)) {
	do(x.Name)
	for _, kid := range x.Kids {
		names(kid, do)
	}
}

// overlap says whether two texts lie in one memory.
func overlap(a string, b string) bool {
	if a == "" || b == "" {
		return false
	}
	p, q := uintptr(unsafe.Pointer(unsafe.StringData(a))), uintptr(unsafe.Pointer(unsafe.StringData(b)))
	return p < q+uintptr(len(b)) && q < p+uintptr(len(a))
}

// TestTermAnswerIsNew asks that what is read or written shares no memory with an argument, nor with another answer.
func TestTermAnswerIsNew(t *testing.T) {
	eachSample(100, func(d []impl.Decl, s sample) {
		if parts, _ := counted(s.t); parts > impl.TermMost {
			return
		}
		text := strings.Clone(s.text)
		one, _ := impl.TermRead(d, text)
		two, _ := impl.TermRead(d, text)
		places := map[*impl.Term]int{}
		for _, x := range []impl.Term{one, two} {
			names(x, func(name string) {
				if overlap(name, text) {
					t.Error("a name lies in the text that was read:", text)
				}
				for _, decl := range d {
					if overlap(name, decl.Name) {
						t.Error("a name lies in the names:", text)
					}
				}
			})
			lists(x, func(list []impl.Term) {
				for i := range list {
					places[&list[i]]++
					if places[&list[i]] > 1 {
						t.Error("two lists share a place:", text)
					}
				}
			})
		}
		lists(one, func(list []impl.Term) { clear(list) })
		if !alike(two, s.t) {
			t.Error("one answer is written into another:", text)
		}
		written := impl.TermText(d, s.t)
		names(s.t, func(name string) {
			if overlap(written, name) {
				t.Error("a text lies in a term:", written)
			}
		})
	})
	d := []impl.Decl{{Name: strings.Clone("abcd"), Wide: 2}}
	x := impl.Term{Op: 21, Name: d[0].Name}
	if text := impl.TermText(d, x); text != "abcd" || overlap(text, d[0].Name) {
		t.Error("a name alone is written:", text)
	}
}

// TestTermArgumentsStay asks that nothing is written into an argument, or behind its end.
func TestTermArgumentsStay(t *testing.T) {
	eachSample(60, func(d []impl.Decl, s sample) {
		roomy := append(slices.Clone(d), impl.Decl{Name: "spare", Wide: 99}, impl.Decl{Name: "room", Wide: 98})
		was := slices.Clone(roomy)
		x := spacious(s.t)
		env := append(someEnvs(d)[1], 97, 96)
		wasEnv := slices.Clone(env)
		names, given := roomy[:len(d)], env[:len(d)]
		impl.DeclOk(names)
		impl.TermMany(x)
		impl.TermSort(names, x)
		impl.TermSame(x, spacious(s.t))
		impl.TermSame(x, plain(24, x))
		impl.EnvOk(names, given)
		impl.TermEval(names, x, given)
		impl.TermText(names, x)
		impl.TermRead(names, s.text)
		if !slices.Equal(roomy, was) || !slices.Equal(env, wasEnv) || !alike(x, s.t) {
			t.Error("an argument was written into:", s.text)
		}
		lists(x, func(list []impl.Term) {
			if len(list) == 0 || list[len(list)-1].Op != 777 {
				t.Error("written behind the end of a list:", s.text)
			}
		})
	})
}

// spacious is a term whose lists have room behind their ends, with a mark there.
func spacious(x impl.Term) impl.Term {
	kids := []impl.Term{}
	for _, kid := range x.Kids {
		kids = append(kids, spacious(kid))
	}
	kids = append(kids, impl.Term{Op: 777})
	x.Kids = slices.Clip(kids)[:len(x.Kids)]
	return x
}

// TestTermAgain asks that nothing is kept from call to call.
func TestTermAgain(t *testing.T) {
	d := []impl.Decl{{Name: "x", Wide: 4}}
	other := []impl.Decl{{Name: "x", Wide: 2}}
	x := impl.Term{Op: 21, Name: "x"}
	for range 3 {
		if impl.TermSort(d, x) != 4 || impl.TermSort(other, x) != 2 || impl.TermSort(nil, x) != -1 {
			t.Error("sorts of one name")
		}
		unread(t, nil, "x")
		unread(t, other, "(same x #0000)")
		if _, ok := impl.TermRead(d, "(same x #0000)"); !ok {
			t.Error("not read behind one that is none")
		}
		if n, ok := impl.TermEval(d, x, []int{9}); !ok || n != 9 {
			t.Error(n, ok)
		}
		if n, ok := impl.TermEval(d, x, []int{4}); !ok || n != 4 {
			t.Error(n, ok)
		}
	}
}
