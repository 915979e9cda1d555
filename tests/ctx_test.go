package tests

import (
	"cmp"
	"math"
	"regexp"
	"slices"
	"strconv"
	"strings"
	"testing"
	"time"

	"loop.example/seedlip/impl"
)

// Two terms of two names of 4 bits, x and y: a search for both comes to an end in this order, but not in the other.
const (
	orderOne = "(less (div (add x y) (div x y)) (add #1100 (mul x x)))"
	orderTwo = "(same (add (neg x) (div y x)) (add #1100 (rem x y)))"
)

var nameForm = regexp.MustCompile(`\A[a-z]{1,4}\z`)

// declsRight says what the document asks of names.
func declsRight(d []impl.Decl) bool {
	met, bits := map[string]int{"true": 1}, 0
	for _, decl := range d {
		if met[decl.Name]++; met[decl.Name] > 1 || !nameForm.MatchString(decl.Name) || decl.Wide < 1 || decl.Wide > 4 {
			return false
		}
		bits += decl.Wide
	}
	return len(d) <= 4 && bits <= 8
}

// ctxRight says what the document asks of layers, whose terms have to have an end.
func ctxRight(c []impl.Layer) bool {
	d, list := flat(c)
	if len(c) < 1 || len(c) > 6 || len(list) > 8 || !declsRight(d) {
		return false
	}
	below := 0
	for _, layer := range c {
		below += len(layer.Decls)
		for _, x := range layer.Terms {
			if parts, levels := counted(x); parts > 20 || levels > 7 || sortWanted(d[:below], x) != 0 {
				return false
			}
		}
	}
	return true
}

// flat is the names and the terms of all layers, in order, whatever they are.
func flat(c []impl.Layer) ([]impl.Decl, []impl.Term) {
	d, list := []impl.Decl{}, []impl.Term{}
	for _, layer := range c {
		d, list = append(d, layer.Decls...), append(list, layer.Terms...)
	}
	return d, list
}

// copyLayers is layers that share no list with others.
func copyLayers(c []impl.Layer) []impl.Layer {
	list := []impl.Layer{}
	for _, layer := range c {
		fresh := impl.Layer{Decls: slices.Clone(layer.Decls)}
		for _, x := range layer.Terms {
			fresh.Terms = append(fresh.Terms, copied(x))
		}
		list = append(list, fresh)
	}
	return list
}

// sameLayers says whether layers are the same, without asking CtxSame.
func sameLayers(a []impl.Layer, b []impl.Layer) bool {
	return slices.EqualFunc(a, b, func(a impl.Layer, b impl.Layer) bool {
		return slices.Equal(a.Decls, b.Decls) && slices.EqualFunc(a.Terms, b.Terms, alike)
	})
}

// layersText writes layers, such as [x4 (less #0011 x)][y4], with ? for what is not right.
func layersText(c []impl.Layer) string {
	text, d := "", []impl.Decl{}
	for _, layer := range c {
		words := []string{}
		for _, decl := range layer.Decls {
			words = append(words, decl.Name+strconv.Itoa(decl.Wide))
		}
		d = append(d, layer.Decls...)
		for _, x := range layer.Terms {
			words = append(words, cmp.Or(impl.TermText(d, x), "?"))
		}
		text += "[" + strings.Join(words, " ") + "]"
	}
	return text
}

// readNames is the names x, y and z in all sizes in which a term may speak of them.
func readNames() [][]impl.Decl {
	all := [][]impl.Decl{}
	for _, wide := range [][]int{{4, 4}, {2, 2, 2}, {1, 1, 1}, {3, 3, 2}, {2, 4, 2}, {4, 2, 2}, {4, 3, 1}, {1, 4, 3}} {
		d := []impl.Decl{}
		for i, n := range wide {
			d = append(d, impl.Decl{Name: []string{"x", "y", "z"}[i], Wide: n})
		}
		all = append(all, d)
	}
	return all
}

// anyTerm reads a term of x, y and z, whatever sizes it wants them to have.
func anyTerm(t *testing.T, text string) impl.Term {
	t.Helper()
	for _, d := range readNames() {
		if x, ok := impl.TermRead(d, text); ok {
			return x
		}
	}
	t.Fatal("not read:", text)
	return impl.Term{}
}

// ctxChange is one thing that is done to layers: what the program is asked for, and what comes of a copy, be it ok or not.
type ctxChange struct {
	what string
	ask  func(c []impl.Layer) ([]impl.Layer, bool)
	made func(c []impl.Layer) []impl.Layer
}

// lastLayer is layers whose last one was worked on.
func lastLayer(c []impl.Layer, work func(layer *impl.Layer)) []impl.Layer {
	work(&c[len(c)-1])
	return c
}

func nameChange(d impl.Decl) ctxChange {
	return ctxChange{
		"name " + d.Name + " " + strconv.Itoa(d.Wide),
		func(c []impl.Layer) ([]impl.Layer, bool) { return impl.CtxName(c, d) },
		func(c []impl.Layer) []impl.Layer {
			return lastLayer(c, func(layer *impl.Layer) { layer.Decls = append(layer.Decls, d) })
		},
	}
}

func termChange(x impl.Term, text string) ctxChange {
	return ctxChange{
		"assert " + text,
		func(c []impl.Layer) ([]impl.Layer, bool) { return impl.CtxAssert(c, x) },
		func(c []impl.Layer) []impl.Layer {
			return lastLayer(c, func(layer *impl.Layer) { layer.Terms = append(layer.Terms, x) })
		},
	}
}

func pushChange() ctxChange {
	return ctxChange{"push", impl.CtxPush, func(c []impl.Layer) []impl.Layer { return append(c, impl.Layer{}) }}
}

func popChange() ctxChange {
	return ctxChange{"pop", impl.CtxPop, func(c []impl.Layer) []impl.Layer { return c[:len(c)-1] }}
}

// changeOf is what a line says: name X N, push, pop, or assert TERM.
func changeOf(t *testing.T, line string) ctxChange {
	t.Helper()
	words := strings.Fields(line)
	switch words[0] {
	case "push":
		return pushChange()
	case "pop":
		return popChange()
	case "name":
		wide, _ := strconv.Atoi(words[2])
		return nameChange(impl.Decl{Name: words[1], Wide: wide})
	}
	text := strings.TrimPrefix(line, "assert ")
	return termChange(anyTerm(t, text), text)
}

// does asks for a change of layers and holds it against the document's words; it is what was told.
func (ch ctxChange) does(t *testing.T, c []impl.Layer) ([]impl.Layer, bool) {
	t.Helper()
	told, ok := ch.ask(c)
	want, wantOk := []impl.Layer(nil), false
	if ctxRight(c) {
		want = ch.made(copyLayers(c))
		if wantOk = ctxRight(want); !wantOk {
			want = c
		}
	}
	if ok != wantOk || !sameLayers(told, want) {
		t.Fatalf("%s behind %s: %s, %v, want %s, %v", ch.what, layersText(c), layersText(told), ok, layersText(want), wantOk)
	}
	return told, ok
}

// layersOf is what lines make of one layer of nothing. None of them may be refused.
func layersOf(t *testing.T, lines ...string) []impl.Layer {
	t.Helper()
	c := impl.CtxNew()
	for _, line := range lines {
		ok := false
		if c, ok = changeOf(t, line).does(t, c); !ok {
			t.Fatalf("%s is refused behind %s", line, layersText(c))
		}
	}
	return c
}

// tells asks for all that is told of layers without a search.
func tells(t *testing.T, c []impl.Layer) {
	t.Helper()
	right, d, list := ctxRight(c), []impl.Decl(nil), []impl.Term(nil)
	if right {
		d, list = flat(c)
	}
	if impl.CtxOk(c) != right {
		t.Fatalf("CtxOk of %s is not %v", layersText(c), right)
	}
	if told := impl.CtxDecls(c); !slices.Equal(told, d) {
		t.Fatalf("CtxDecls of %s: %v", layersText(c), told)
	}
	if told := impl.CtxTerms(c); !slices.EqualFunc(told, list, alike) {
		t.Fatalf("CtxTerms of %s: %v", layersText(c), told)
	}
	if other := copyLayers(c); !impl.CtxSame(c, other) || !impl.CtxSame(other, c) || !impl.CtxSame(c, c) {
		t.Fatalf("CtxSame of %s and its copy", layersText(c))
	}
}

// ctxSolves asks for what a search tells of layers, and of the same names and terms in one layer; it is the code that was told.
func ctxSolves(t *testing.T, c []impl.Layer) int {
	t.Helper()
	tells(t, c)
	env, code := impl.CtxSolve(c)
	if !ctxRight(c) {
		if len(env) != 0 || code != impl.SolveForm {
			t.Fatalf("CtxSolve of %s: %v, %d", layersText(c), env, code)
		}
		return code
	}
	d, list := flat(c)
	one, oneCode := impl.Solve(d, list)
	only, onlyCode := impl.CtxSolve([]impl.Layer{{Decls: d, Terms: list}})
	want, wantCode := solveWanted(d, list)
	if code != oneCode || code != onlyCode || code != wantCode || !slices.Equal(env, one) || !slices.Equal(env, only) || !slices.Equal(env, want) {
		t.Fatalf("CtxSolve of %s: %v, %d; of one layer %v, %d; Solve: %v, %d; want %v, %d", layersText(c), env, code, only, onlyCode, one, oneCode, want, wantCode)
	}
	return code
}

// noLayers asks for all that is told of layers that are not ok.
func noLayers(t *testing.T, c []impl.Layer, why string) {
	t.Helper()
	env, code := impl.CtxSolve(c)
	if impl.CtxOk(c) || len(impl.CtxDecls(c)) != 0 || len(impl.CtxTerms(c)) != 0 || len(env) != 0 || code != impl.SolveForm {
		t.Errorf("%s: ok %v, %v, %d", why, impl.CtxOk(c), env, code)
	}
	changes := []ctxChange{pushChange(), popChange(), nameChange(impl.Decl{}), termChange(impl.Term{}, "nothing")}
	for _, name := range []string{"x", "y", "z", "q", "true"} {
		for wide := range 6 {
			changes = append(changes, nameChange(impl.Decl{Name: name, Wide: wide}))
		}
	}
	for _, text := range []string{"true", "(no true)", "#0", "(same x x)", "(less x y)", "(same #0011 x)", "(same #01 z)"} {
		changes = append(changes, termChange(anyTerm(t, text), text))
	}
	for _, ch := range changes {
		if told, ok := ch.ask(c); ok || len(told) != 0 {
			t.Errorf("%s, %s: %d layers, %v", why, ch.what, len(told), ok)
		}
	}
}

func TestCtxConstants(t *testing.T) {
	if impl.LayerMost != 6 {
		t.Error(impl.LayerMost)
	}
}

// TestCtxNew has one layer of nothing.
func TestCtxNew(t *testing.T) {
	c := impl.CtxNew()
	if len(c) != 1 || len(c[0].Decls) != 0 || len(c[0].Terms) != 0 || !impl.CtxOk(c) {
		t.Fatal(c)
	}
	if env, code := impl.CtxSolve(c); len(env) != 0 || code != impl.SolveYes {
		t.Error(env, code)
	}
	if len(impl.CtxDecls(c)) != 0 || len(impl.CtxTerms(c)) != 0 {
		t.Error(impl.CtxDecls(c), impl.CtxTerms(c))
	}
	for _, same := range [][]impl.Layer{impl.CtxNew(), {{}}, make([]impl.Layer, 1, 9), {{Decls: []impl.Decl{}, Terms: []impl.Term{}}}, {{Decls: make([]impl.Decl, 0, 4), Terms: make([]impl.Term, 0, 4)}}} {
		if !impl.CtxSame(c, same) || !impl.CtxSame(same, c) {
			t.Error("not the same:", same)
		}
		ctxSolves(t, same)
	}
	if told, ok := impl.CtxPop(c); ok || !sameLayers(told, c) {
		t.Error("the last layer is gone:", told, ok)
	}
	if told, ok := impl.CtxPush(c); !ok || len(told) != 2 {
		t.Error("a layer more:", told, ok)
	}
}

// TestCtxWritten has lines, and the layers behind each, written by hand; a line behind ! is refused.
func TestCtxWritten(t *testing.T) {
	for _, script := range [][]string{
		{"name x 4", "[x4]", "assert (less #0101 x)", "[x4 (less #0101 x)]", "push", "[x4 (less #0101 x)][]", "name y 4", "[x4 (less #0101 x)][y4]", "assert (same (add x y) #0000)", "[x4 (less #0101 x)][y4 (same (add x y) #0000)]", "pop", "[x4 (less #0101 x)]", "!pop", "[x4 (less #0101 x)]", "!name x 1", "[x4 (less #0101 x)]", "!assert (less x y)", "[x4 (less #0101 x)]"},
		// A name in a layer below, in the same one, in one that is gone.
		{"name x 2", "[x2]", "!name x 2", "[x2]", "push", "[x2][]", "!name x 2", "[x2][]", "!name x 3", "[x2][]", "name y 1", "[x2][y1]", "!name y 1", "[x2][y1]", "push", "[x2][y1][]", "!name y 4", "[x2][y1][]", "!name x 1", "[x2][y1][]", "name z 2", "[x2][y1][z2]", "pop", "[x2][y1]", "name z 4", "[x2][y1 z4]", "pop", "[x2]", "name y 4", "[x2 y4]", "name z 2", "[x2 y4 z2]"},
		// Names of as many bits together as there may be, and of one bit more; as many names, and one more.
		{"name x 4", "[x4]", "!name y 5", "[x4]", "!name y 0", "[x4]", "push", "[x4][]", "name y 3", "[x4][y3]", "!name z 2", "[x4][y3]", "push", "[x4][y3][]", "!name z 2", "[x4][y3][]", "name z 1", "[x4][y3][z1]", "!name w 1", "[x4][y3][z1]", "pop", "[x4][y3]", "pop", "[x4]", "name y 4", "[x4 y4]", "!name z 1", "[x4 y4]"},
		{"name x 1", "[x1]", "push", "[x1][]", "name y 1", "[x1][y1]", "name z 1", "[x1][y1 z1]", "push", "[x1][y1 z1][]", "name w 1", "[x1][y1 z1][w1]", "!name v 1", "[x1][y1 z1][w1]", "push", "[x1][y1 z1][w1][]", "!name v 1", "[x1][y1 z1][w1][]", "pop", "[x1][y1 z1][w1]", "pop", "[x1][y1 z1]", "name v 4", "[x1][y1 z1 v4]"},
		{"!name true 1", "[]", "!name abcde 1", "[]", "!name X 1", "[]", "!name x1 1", "[]", "!name x -1", "[]", "!name x 4294967297", "[]", "name abcd 4", "[abcd4]", "name not 4", "[abcd4 not4]"},
		// A term that speaks of a name of a layer below, of its own, of one above, of none.
		{"!assert (same x x)", "[]", "name x 4", "[x4]", "assert (same x x)", "[x4 (same x x)]", "push", "[x4 (same x x)][]", "!assert (same x y)", "[x4 (same x x)][]", "assert (no (less x x))", "[x4 (same x x)][(no (less x x))]", "name y 4", "[x4 (same x x)][y4 (no (less x x))]", "assert (same x y)", "[x4 (same x x)][y4 (no (less x x)) (same x y)]", "pop", "[x4 (same x x)]", "!assert (same x y)", "[x4 (same x x)]", "!assert (same y y)", "[x4 (same x x)]", "name y 3", "[x4 y3 (same x x)]", "!assert (same x y)", "[x4 y3 (same x x)]", "assert (same y y)", "[x4 y3 (same x x) (same y y)]"},
		// A term that is not of sort 0.
		{"!assert #0", "[]", "!assert #1", "[]", "assert true", "[true]", "assert (no true)", "[true (no true)]", "name x 1", "[x1 true (no true)]", "!assert x", "[x1 true (no true)]", "!assert (if (same x x) x #1)", "[x1 true (no true)]", "assert (if (same x x) true (same x #1))", "[x1 true (no true) (if (same x x) true (same x #1))]"},
		// As many terms as there may be, in all layers together, and one more.
		{"assert true", "[true]", "assert true", "[true true]", "push", "[true true][]", "assert true", "[true true][true]", "assert true", "[true true][true true]", "push", "[true true][true true][]", "push", "[true true][true true][][]", "assert true", "[true true][true true][][true]", "assert true", "[true true][true true][][true true]", "assert true", "[true true][true true][][true true true]", "assert (no true)", "[true true][true true][][true true true (no true)]", "!assert true", "[true true][true true][][true true true (no true)]", "push", "[true true][true true][][true true true (no true)][]", "!assert true", "[true true][true true][][true true true (no true)][]", "name x 2", "[true true][true true][][true true true (no true)][x2]", "!assert (same x x)", "[true true][true true][][true true true (no true)][x2]", "pop", "[true true][true true][][true true true (no true)]", "!assert true", "[true true][true true][][true true true (no true)]", "pop", "[true true][true true][]", "assert true", "[true true][true true][true]"},
		// One layer fewer than there may be, and as many.
		{"push", "[][]", "push", "[][][]", "push", "[][][][]", "push", "[][][][][]", "push", "[][][][][][]", "!push", "[][][][][][]", "name x 4", "[][][][][][x4]", "!push", "[][][][][][x4]", "pop", "[][][][][]", "assert true", "[][][][][true]", "push", "[][][][][true][]", "!push", "[][][][][true][]", "pop", "[][][][][true]", "pop", "[][][][]", "pop", "[][][]", "pop", "[][]", "pop", "[]", "!pop", "[]"},
		{"name x 2", "[x2]", "!pop", "[x2]", "assert (same x #11)", "[x2 (same x #11)]", "!pop", "[x2 (same x #11)]", "push", "[x2 (same x #11)][]", "pop", "[x2 (same x #11)]", "!pop", "[x2 (same x #11)]"},
	} {
		c := impl.CtxNew()
		for i := 0; i < len(script); i += 2 {
			line, refused := strings.CutPrefix(script[i], "!")
			told, ok := changeOf(t, line).does(t, c)
			if ok == refused || layersText(told) != script[i+1] {
				t.Fatalf("%s behind %s: %s, %v", script[i], layersText(c), layersText(told), ok)
			}
			c = told
			tells(t, c)
		}
	}
}

// TestCtxSolveWritten has what a search tells of layers written by hand.
func TestCtxSolveWritten(t *testing.T) {
	for _, row := range []struct {
		lines []string
		env   []int
		code  int
	}{
		{nil, nil, 1}, {[]string{"assert true"}, nil, 1}, {[]string{"assert (no true)"}, nil, 2}, {[]string{"push", "push"}, nil, 1}, {[]string{"push", "assert (no true)"}, nil, 2}, {[]string{"assert (no true)", "push"}, nil, 2}, {[]string{"push", "assert (no true)", "pop"}, nil, 1},
		{[]string{"name x 4"}, []int{0}, 1}, {[]string{"name x 4", "push", "name y 2"}, []int{0, 0}, 1}, {[]string{"name x 4", "push", "name y 2", "pop"}, []int{0}, 1},
		{[]string{"name x 4", "assert (less #0101 x)"}, []int{6}, 1}, {[]string{"name x 4", "assert (less #0101 x)", "push", "name y 4", "assert (same (add x y) #0000)"}, []int{6, 10}, 1}, {[]string{"name x 4", "assert (less #0101 x)", "push", "name y 4", "assert (same (add x y) #0000)", "pop"}, []int{6}, 1},
		{[]string{"name y 4", "push", "name x 4", "assert (less x y)"}, []int{1, 0}, 1}, {[]string{"name x 4", "push", "name y 4", "assert (less x y)"}, []int{0, 1}, 1}, {[]string{"name x 4", "push", "name y 4", "assert (less x y)", "assert (less y x)"}, nil, 2}, {[]string{"name x 4", "push", "name y 4", "assert (less x y)", "push", "assert (less y x)"}, nil, 2}, {[]string{"name x 4", "push", "name y 4", "assert (less x y)", "push", "assert (less y x)", "pop"}, []int{0, 1}, 1},
		{[]string{"name x 4", "name y 4", "assert (same (mul x y) #1100)", "assert (less x y)", "push", "assert (same (rem y x) #0001)"}, []int{3, 4}, 1}, {[]string{"name x 4", "name y 4", "assert (same (mul x y) #1100)", "assert (less x y)", "push", "assert (same (rem y x) #0001)", "pop"}, []int{1, 12}, 1},
		{[]string{"name x 4", "push", "assert (less #0001 x)", "push", "assert (less #0010 x)", "push", "name z 2", "assert (same z (cut 1 0 x))", "assert (less #01 z)", "push", "push", "assert (same x #1010)"}, []int{10, 2}, 1}, {[]string{"name x 4", "push", "assert (less #0001 x)", "push", "assert (less #0010 x)", "push", "name z 2", "assert (same z (cut 1 0 x))", "assert (less #01 z)", "push", "push", "assert (same x #1010)", "pop"}, []int{3, 3}, 1},
		{[]string{"name x 4", "name y 4", "push", "assert " + slowYes}, nil, 3}, {[]string{"name x 4", "name y 4", "push", "assert " + slowYes, "pop"}, []int{0, 0}, 1}, {[]string{"name x 4", "name y 4", "assert " + gates601}, nil, 3}, {[]string{"name x 4", "name y 4", "assert " + gates601, "push", "assert (no true)"}, nil, 3},
		// What a search tells may hang on the order of the terms.
		{[]string{"name x 4", "name y 4", "assert " + orderOne, "assert " + orderTwo}, []int{4, 1}, 1}, {[]string{"name x 4", "name y 4", "assert " + orderTwo, "assert " + orderOne}, nil, 3}, {[]string{"name x 4", "push", "name y 4", "assert " + orderOne, "push", "assert " + orderTwo}, []int{4, 1}, 1}, {[]string{"name x 4", "name y 4", "assert " + orderTwo, "push", "push", "assert " + orderOne}, nil, 3}, {[]string{"name x 4", "name y 4", "assert " + orderTwo, "push", "push", "assert " + orderOne, "pop", "pop", "push"}, []int{1, 14}, 1},
	} {
		c := layersOf(t, row.lines...)
		if env, code := impl.CtxSolve(c); code != row.code || !slices.Equal(env, row.env) {
			t.Errorf("CtxSolve of %s: %v, %d, want %v, %d", layersText(c), env, code, row.env, row.code)
		}
		ctxSolves(t, c)
	}
}

// TestCtxAll has all that can be made of one layer of nothing in some steps, and all that each step may be.
func TestCtxAll(t *testing.T) {
	changes := []ctxChange{}
	for _, line := range []string{"push", "pop", "name x 4", "name y 4", "name x 1", "name true 1", "name z 1", "assert (less x y)", "assert (same z #1)", "assert x"} {
		changes = append(changes, changeOf(t, line))
	}
	met, work, many := map[string]int{}, [][]impl.Layer{impl.CtxNew()}, [2]int{}
	for i := 0; i < len(work); i++ {
		c := work[i]
		tells(t, c)
		if i%40 == 0 {
			ctxSolves(t, c)
		}
		for _, ch := range changes {
			next, ok := ch.does(t, c)
			many[yes(ok).N]++
			if text := layersText(next); met[text] == 0 && len(work) < 4000 {
				met[text]++
				work = append(work, next)
			}
		}
	}
	if len(work) < 4000 || many[0] < 4000 || many[1] < 4000 {
		t.Error("too few:", len(work), many)
	}
}

// change is any change, most of them such as may be made.
func (m *maker) change(c []impl.Layer) ctxChange {
	switch m.below(9) {
	case 0, 1:
		return pushChange()
	case 2:
		return popChange()
	case 3, 4, 5:
		name := []string{"x", "y", "not", "cut", "a", "b", "x", "true", "abcde", ""}[m.below(10)]
		return nameChange(impl.Decl{Name: name, Wide: 1 + m.below(2+m.below(4))})
	}
	s := m.ofLayers(c)
	return termChange(s.t, s.text)
}

// ofLayers is any sample, most of them true or not, and of the names of layers.
func (m *maker) ofLayers(c []impl.Layer) sample {
	m.d, _ = flat(c)
	if m.below(6) == 0 {
		m.d = someDecls()[m.below(4)]
	}
	sort := 0
	if m.below(8) == 0 {
		sort = m.below(5)
	}
	m.left = 4 + m.below(17)
	return m.make(sort, 1+m.below(6))
}

// layers is any layers that are ok.
func (m *maker) layers(steps int) []impl.Layer {
	c := impl.CtxNew()
	for range steps {
		next := m.change(c).made(copyLayers(c))
		if ctxRight(next) {
			c = next
		}
	}
	return c
}

// TestCtxMade has any changes of any layers.
func TestCtxMade(t *testing.T) {
	m, many, codes := maker{seed: 31}, [2]int{}, map[int]int{}
	for range 60 {
		c := impl.CtxNew()
		for range 40 {
			next, ok := m.change(c).does(t, c)
			many[yes(ok).N]++
			c = next
			tells(t, c)
		}
		codes[ctxSolves(t, c)]++
	}
	if many[0] < 500 || many[1] < 500 || codes[1] < 10 || codes[2] < 10 {
		t.Error("too few:", many, codes)
	}
}

// asked is all that is told of layers that are ok.
type asked struct {
	layers []impl.Layer
	decls  []impl.Decl
	terms  []impl.Term
	env    []int
	code   int
}

func askedOf(c []impl.Layer) asked {
	env, code := impl.CtxSolve(c)
	return asked{copyLayers(c), impl.CtxDecls(c), impl.CtxTerms(c), env, code}
}

// stay asks that all that is told of layers is as it was.
func (was asked) stay(t *testing.T, c []impl.Layer, why string) {
	t.Helper()
	is := askedOf(c)
	if !impl.CtxSame(c, was.layers) || !sameLayers(c, was.layers) {
		t.Fatalf("%s: %s, was %s", why, layersText(c), layersText(was.layers))
	}
	if !slices.Equal(is.decls, was.decls) || !slices.EqualFunc(is.terms, was.terms, alike) || is.code != was.code || !slices.Equal(is.env, was.env) {
		t.Fatalf("%s, %s: %v, want %v", why, layersText(c), is, was)
	}
}

// visit begins a layer above others, has any changes in it, some of them in further layers that begin and are left again, and leaves it; it is the layers of each step, and those behind all.
func (m *maker) visit(t *testing.T, c []impl.Layer, steps int) ([][]impl.Layer, []impl.Layer) {
	t.Helper()
	told, ok := impl.CtxPush(c)
	if !ok {
		t.Fatal("no layer more:", layersText(c))
	}
	met := [][]impl.Layer{told}
	for range steps {
		ch := m.change(told)
		if ch.what == "pop" && len(told) == len(c)+1 {
			continue
		}
		told, _ = ch.does(t, told)
		met = append(met, told)
		if !sameLayers(told[:len(c)], c) {
			t.Fatalf("%s turned layers below: %s, was %s", ch.what, layersText(told), layersText(c))
		}
	}
	for len(told) > len(c) {
		if told, ok = impl.CtxPop(told); !ok {
			t.Fatal("the layer is not left:", layersText(told))
		}
	}
	return met, told
}

// TestCtxLeft has any layers, and one above them that comes and goes: behind it all is as it was, and the same put in again gives the same.
func TestCtxLeft(t *testing.T) {
	m, codes, steps := maker{seed: 77}, map[int]int{}, 0
	for round := range 250 {
		c := m.layers(round % 25)
		if len(c) == 6 {
			c = c[:5]
		}
		was := askedOf(c)
		codes[was.code]++
		seed := m.seed
		met, told := m.visit(t, c, round%30)
		was.stay(t, told, "behind a layer that is gone")
		was.stay(t, c, "the layers that came in")
		m.seed = seed
		again, told := m.visit(t, told, round%30)
		was.stay(t, told, "behind a layer that was there again")
		if !slices.EqualFunc(met, again, sameLayers) || !slices.EqualFunc(met, again, impl.CtxSame) {
			t.Fatalf("the same put in again: %s, was %s", layersText(again[len(again)-1]), layersText(met[len(met)-1]))
		}
		ctxSolves(t, met[len(met)-1])
		steps += len(met)
	}
	if codes[1] < 60 || codes[2] < 20 || steps < 2000 {
		t.Error("too few:", codes, steps)
	}
}

// TestCtxGone has a name in a layer that is gone, and given again, with each number of bits, in a layer below and in a new one.
func TestCtxGone(t *testing.T) {
	for wide := 1; wide <= 4; wide++ {
		for again := 1; again <= 4; again++ {
			base := layersOf(t, "name y 2", "assert (less #01 y)")
			above, _ := impl.CtxPush(base)
			above, ok := impl.CtxName(above, impl.Decl{Name: "x", Wide: wide})
			of := func(wide int) impl.Term {
				return plain(15, impl.Term{Op: 21, Name: "x"}, impl.Term{Op: 20, A: wide, B: power(wide) - 1})
			}
			above, fine := impl.CtxAssert(above, of(wide))
			if env, code := impl.CtxSolve(above); !ok || !fine || code != 1 || !slices.Equal(env, []int{2, power(wide) - 1}) {
				t.Error("a name:", wide, env, code)
			}
			left, _ := impl.CtxPop(above)
			for _, x := range []impl.Term{of(wide), of(again), plain(15, impl.Term{Op: 21, Name: "x"}, impl.Term{Op: 21, Name: "x"})} {
				if told, ok := impl.CtxAssert(left, x); ok || !sameLayers(told, base) {
					t.Errorf("a term that speaks of a name that is gone: %s, %v", layersText(told), ok)
				}
			}
			pushed, _ := impl.CtxPush(left)
			for _, c := range [][]impl.Layer{left, pushed} {
				c, ok := impl.CtxName(c, impl.Decl{Name: "x", Wide: again})
				c, fine := impl.CtxAssert(c, of(again))
				if env, code := impl.CtxSolve(c); !ok || !fine || code != 1 || !slices.Equal(env, []int{2, power(again) - 1}) {
					t.Error("a name given again:", wide, again, env, code)
				}
				if told, ok := impl.CtxAssert(c, of(wide)); ok != (wide == again) || !ok && !sameLayers(told, c) {
					t.Errorf("a term of %d bits, where the name has %d: %s, %v", wide, again, layersText(told), ok)
				}
				ctxSolves(t, c)
			}
		}
	}
}

// spread is names and terms in so many layers, in order, each at any layer that is not below the one ahead of it.
func (m *maker) spread(d []impl.Decl, list []impl.Term, many int) []impl.Layer {
	c := make([]impl.Layer, many)
	at := 0
	for i, decl := range d {
		at += m.below((many-at-1)/(len(d)-i) + 1)
		c[at].Decls = append(c[at].Decls, decl)
	}
	at = m.below(many)
	for _, x := range list {
		at = max(at, m.below(many))
		c[at].Terms = append(c[at].Terms, x)
	}
	return c
}

// TestCtxSolveSpread has the same names and terms in layers of all numbers: what is told of them is what is told of one layer.
func TestCtxSolveSpread(t *testing.T) {
	right, codes := [2]int{}, map[int]int{}
	for i, d := range someDecls() {
		m := maker{seed: uint64(710 + i), d: d}
		for round := range 200 {
			m.d = d
			list := termsIn(m.someSamples(round%5, 4+m.below(9)))
			c := m.spread(d, list, 1+round%7)
			ok := ctxRight(c)
			right[yes(ok).N]++
			if ok {
				codes[ctxSolves(t, c)]++
				continue
			}
			noLayers(t, c, "names and terms in layers")
		}
	}
	if right[0] < 100 || right[1] < 100 || codes[1] < 50 || codes[2] < 20 {
		t.Error("too few:", right, codes)
	}
}

// TestCtxSolveOrder has terms of which what is told hangs on their order, in layers of all kinds.
func TestCtxSolveOrder(t *testing.T) {
	d := twoNames(4)
	one, two := termOf(t, d, orderOne), termOf(t, d, orderTwo)
	for lower := range 3 {
		for upper := lower; upper < 3; upper++ {
			for _, turned := range []bool{false, true} {
				c := make([]impl.Layer, 3)
				c[0].Decls = d
				a, b := one, two
				if turned {
					a, b = two, one
				}
				c[lower].Terms = append(c[lower].Terms, a)
				c[upper].Terms = append(c[upper].Terms, b)
				env, code := impl.CtxSolve(c)
				if !turned && (code != 1 || !slices.Equal(env, []int{4, 1})) || turned && (code != 3 || len(env) != 0) {
					t.Errorf("%s: %v, %d", layersText(c), env, code)
				}
				ctxSolves(t, c)
			}
		}
	}
}

// TestCtxOkMany has no layers, and all numbers of them.
func TestCtxOkMany(t *testing.T) {
	noLayers(t, nil, "no layers")
	noLayers(t, []impl.Layer{}, "no layers")
	noLayers(t, make([]impl.Layer, 0, 3), "no layers")
	for many := 1; many <= 6; many++ {
		c := make([]impl.Layer, many)
		ctxSolves(t, c)
		if told, ok := pushChange().does(t, c); ok != (many < 6) {
			t.Errorf("push behind %d: %s", many, layersText(told))
		}
		if told, ok := popChange().does(t, c); ok != (many > 1) {
			t.Errorf("pop behind %d: %s", many, layersText(told))
		}
		for place := range many {
			c := make([]impl.Layer, many)
			c[place] = impl.Layer{Decls: []impl.Decl{{Name: "x", Wide: 4}}, Terms: termsOf(t, twoNames(4), "(less #0011 x)")}
			if env, code := impl.CtxSolve(c); code != 1 || !slices.Equal(env, []int{4}) {
				t.Errorf("%s: %v, %d", layersText(c), env, code)
			}
			for _, ch := range []ctxChange{pushChange(), popChange(), nameChange(impl.Decl{Name: "x", Wide: 4}), nameChange(impl.Decl{Name: "y", Wide: 4}), nameChange(impl.Decl{Name: "y", Wide: 5}), termChange(anyTerm(t, "(less x x)"), "(less x x)"), termChange(anyTerm(t, "(less x y)"), "(less x y)"), termChange(anyTerm(t, "x"), "x")} {
				ch.does(t, c)
			}
		}
	}
	for _, many := range []int{7, 8, 12, 13, 256, 1000000} {
		noLayers(t, make([]impl.Layer, many), strconv.Itoa(many)+" layers")
		c := make([]impl.Layer, many)
		c[many-1].Decls = []impl.Decl{{Name: "x", Wide: 4}}
		noLayers(t, c, strconv.Itoa(many)+" layers and a name")
	}
}

// TestCtxWrongDecls has names that are not ok, in one layer and spread over several.
func TestCtxWrongDecls(t *testing.T) {
	for _, d := range wrongDecls() {
		why := "names " + brief(d)
		noLayers(t, []impl.Layer{{Decls: d}}, why)
		noLayers(t, []impl.Layer{{}, {Decls: d}}, why)
		noLayers(t, []impl.Layer{{Decls: d}, {}}, why)
		noLayers(t, []impl.Layer{{}, {}, {}, {}, {}, {Decls: d}}, why)
		for cut := range min(len(d), 6) {
			noLayers(t, []impl.Layer{{Decls: d[:cut]}, {Decls: d[cut:]}}, why)
			noLayers(t, []impl.Layer{{Terms: []impl.Term{{Op: 24}}}, {Decls: d[:cut]}, {}, {Decls: d[cut:]}, {}}, why)
		}
		c := []impl.Layer{{}}
		for _, decl := range d[:min(len(d), 6)] {
			c, _ = nameChange(decl).does(t, c)
			if pushed, ok := pushChange().does(t, c); ok {
				c = pushed
			}
		}
	}
	// A name in the last layer alone is wrong: the layers without it are not told, even if it is what is to go.
	for _, d := range [][]impl.Decl{{{Name: "x", Wide: 1}}, {{Name: "z", Wide: 5}}, {{Name: "z", Wide: 1}}, {{Name: "true", Wide: 1}}, {{}}} {
		noLayers(t, []impl.Layer{{Decls: twoNames(4)}, {Decls: d}}, "a name too many")
	}
}

// TestCtxDeclsAll has all names that there may be, each in each layer.
func TestCtxDeclsAll(t *testing.T) {
	for i, d := range allDecls() {
		m := maker{seed: uint64(40 + i)}
		for many := 1; many <= 6; many++ {
			c := m.spread(d, nil, many)
			tells(t, c)
			for wide := range 6 {
				_, ok := nameChange(impl.Decl{Name: "q", Wide: wide}).does(t, c)
				if ok != (wide > 0 && wide < 5 && len(d) < 4 && declBits(d)+wide <= 8) {
					t.Errorf("%s and %d bits more: %v", layersText(c), wide, ok)
				}
			}
			for _, decl := range d {
				if _, ok := nameChange(impl.Decl{Name: decl.Name, Wide: 1}).does(t, c); ok {
					t.Errorf("%s: %s is given twice", layersText(c), decl.Name)
				}
			}
		}
	}
}

// TestCtxTermPlaces has a term that speaks of one name, or of two, at each layer, with the names at each.
func TestCtxTermPlaces(t *testing.T) {
	d := twoNames(4)
	for many := 1; many <= 6; many++ {
		for x := range many {
			for y := range many {
				for at := range many {
					for text, lowest := range map[string]int{"(same x x)": x, "(less #0011 y)": y, "(less x y)": max(x, y), "true": 0} {
						c := make([]impl.Layer, many)
						c[x].Decls = append(c[x].Decls, d[0])
						c[y].Decls = append(c[y].Decls, d[1])
						c[at].Terms = termsOf(t, d, text)
						if impl.CtxOk(c) != (at >= lowest) || impl.CtxOk(c) != ctxRight(c) {
							t.Errorf("%s at %d, with x at %d and y at %d of %d: %v", text, at, x, y, many, impl.CtxOk(c))
						}
						tells(t, c)
						pushChange().does(t, c)
						popChange().does(t, c)
					}
				}
			}
		}
	}
	// What is to come, or to go, would put it right; but as it came in, it is not ok.
	early := []impl.Layer{{Terms: termsOf(t, d, "(less x y)")}, {Decls: d}}
	noLayers(t, early, "a term below its names")
	noLayers(t, early[:1], "a term without its names")
	noLayers(t, []impl.Layer{{Decls: d[:1]}, {Terms: termsOf(t, d, "(less x y)")}}, "a term without one of its names")
	noLayers(t, []impl.Layer{{Decls: d[:1]}, {Decls: []impl.Decl{{Name: "y", Wide: 3}}, Terms: termsOf(t, d, "(less x y)")}}, "a term of a name of other bits")
	noLayers(t, []impl.Layer{{Decls: d}, {Terms: termsOf(t, d, "x")}}, "a term of bits")
}

// TestCtxTermsMany has all numbers of terms, in layers of all kinds.
func TestCtxTermsMany(t *testing.T) {
	d, m := twoNames(2), maker{seed: 8}
	less := termOf(t, d, "(no (less y x))")
	for many := range 12 {
		for layers := 1; layers <= 6; layers++ {
			c := m.spread(d, nil, layers)
			for range many {
				at := layers - 1 - m.below(2)*m.below(layers)
				x := less
				if at < layers-1 {
					x = impl.Term{Op: 24}
				}
				c[at].Terms = append(c[at].Terms, x)
			}
			if many > 8 {
				noLayers(t, c, strconv.Itoa(many)+" terms")
				continue
			}
			ctxSolves(t, c)
			for _, x := range []impl.Term{less, {Op: 24}, plain(25, impl.Term{Op: 24}), {Op: 20, A: 1}, {}} {
				if _, ok := termChange(x, "one more").does(t, c); ok != (many < 8 && impl.TermSort(d, x) == 0) {
					t.Errorf("one term more behind %d: %v", many, ok)
				}
			}
		}
	}
	for _, many := range []int{9, 16, 17, 1000, 1000000} {
		for _, x := range []impl.Term{less, {Op: 24}, plain(25, impl.Term{Op: 24}), {}} {
			noLayers(t, []impl.Layer{{Decls: d, Terms: slices.Repeat([]impl.Term{x}, many)}}, strconv.Itoa(many)+" terms")
			noLayers(t, []impl.Layer{{Decls: d}, {Terms: slices.Repeat([]impl.Term{x}, many)}, {}}, strconv.Itoa(many)+" terms above")
		}
	}
}

// TestCtxWrongTerm has a term of bits, or one that is not right, at each place among such as are.
func TestCtxWrongTerm(t *testing.T) {
	d := twoNames(4)
	wrong := append(termsOf(t, d, "x", "#0", "#1111", "(add x y)", "(if (same x y) x y)", bits600, bits601), impl.Term{}, impl.Term{Op: 18}, impl.Term{Op: 24, A: 1}, impl.Term{Op: 24, Name: "x"}, impl.Term{Op: 21, Name: "z"}, impl.Term{Op: 21}, plain(15, impl.Term{Op: 24}, impl.Term{Op: 24}), plain(25, impl.Term{Op: 20, A: 1}), plain(26, impl.Term{Op: 24}, impl.Term{}), plain(16, impl.Term{Op: 21, Name: "x"}, impl.Term{Op: 21, Name: "z"}), manyTruth(21).t, chain(8).t)
	for i, x := range wrong {
		why := "wrong term " + strconv.Itoa(i)
		for many := 1; many <= 9; many += 2 {
			for place := range many {
				list := slices.Repeat(termsOf(t, d, "(less x y)"), many)
				list[place] = x
				noLayers(t, []impl.Layer{{Decls: d, Terms: list}}, why)
				noLayers(t, []impl.Layer{{Decls: d}, {Terms: list[:place]}, {Terms: list[place:]}, {}}, why)
			}
		}
		noLayers(t, []impl.Layer{{Terms: []impl.Term{x}}, {Decls: d}}, why)
		for _, c := range [][]impl.Layer{{{}}, {{Decls: d}}, {{Decls: d[:1]}, {Decls: d[1:]}}, {{Decls: d, Terms: termsOf(t, d, "(less x y)", gates601)}, {}, {Terms: termsOf(t, d, "(no true)")}}} {
			if told, ok := termChange(x, why).does(t, c); ok || !sameLayers(told, c) {
				t.Errorf("%s: %s, %v", why, layersText(told), ok)
			}
		}
	}
	for _, s := range []sample{manyTruth(20), chain(7), manyTruth(19), chain(6)} {
		if _, ok := termChange(s.t, s.text).does(t, impl.CtxNew()); !ok {
			t.Error("a term that is as great as it may be:", s.text)
		}
		ctxSolves(t, []impl.Layer{{Decls: d}, {Terms: []impl.Term{s.t}}})
	}
}

// eachTurn calls with layers that differ from others in one thing, be they ok or not.
func eachTurn(c []impl.Layer, do func([]impl.Layer)) {
	turn := func(work func(c []impl.Layer) []impl.Layer) {
		if told := work(copyLayers(c)); !sameLayers(told, c) {
			do(told)
		}
	}
	for i := range len(c) + 1 {
		turn(func(c []impl.Layer) []impl.Layer { return slices.Insert(c, i, impl.Layer{}) })
	}
	for i := range c {
		turn(func(c []impl.Layer) []impl.Layer { return slices.Delete(c, i, i+1) })
		turn(func(c []impl.Layer) []impl.Layer { return slices.Insert(c, i, c[i]) })
		for k := range c[i].Decls {
			eachDeclTurn(i, k, turn)
		}
		for k := range c[i].Terms {
			eachTermTurn(c, i, k, turn)
		}
		if i > 0 {
			turn(func(c []impl.Layer) []impl.Layer {
				c[i-1].Decls, c[i-1].Terms = append(c[i-1].Decls, c[i].Decls...), append(c[i-1].Terms, c[i].Terms...)
				return slices.Delete(c, i, i+1)
			})
			turn(func(c []impl.Layer) []impl.Layer { c[i], c[i-1] = c[i-1], c[i]; return c })
		}
	}
}

// layersTurn works on a copy of layers.
type layersTurn func(work func(c []impl.Layer) []impl.Layer)

// eachDeclTurn turns one thing of a name of a layer.
func eachDeclTurn(i int, k int, turn layersTurn) {
	for _, add := range []int{1, -1, 2, 1 << 32, math.MinInt} {
		turn(func(c []impl.Layer) []impl.Layer { c[i].Decls[k].Wide += add; return c })
	}
	for _, name := range []string{"q", "x", "y", "", "true"} {
		turn(func(c []impl.Layer) []impl.Layer { c[i].Decls[k].Name = name; return c })
	}
	turn(func(c []impl.Layer) []impl.Layer { c[i].Decls[k].Name += "x"; return c })
	turn(func(c []impl.Layer) []impl.Layer { c[i].Decls = slices.Delete(c[i].Decls, k, k+1); return c })
	turn(func(c []impl.Layer) []impl.Layer { c[i].Decls = append(c[i].Decls, c[i].Decls[k]); return c })
	turn(func(c []impl.Layer) []impl.Layer {
		c[i].Decls[0], c[i].Decls[k] = c[i].Decls[k], c[i].Decls[0]
		return c
	})
	for _, to := range []int{i - 1, i + 1} {
		turn(func(c []impl.Layer) []impl.Layer {
			if to >= 0 && to < len(c) {
				c[to].Decls = append(c[to].Decls, c[i].Decls[k])
				c[i].Decls = slices.Delete(c[i].Decls, k, k+1)
			}
			return c
		})
	}
}

// eachTermTurn turns one thing of a term of a layer.
func eachTermTurn(c []impl.Layer, i int, k int, turn layersTurn) {
	eachChange(c[i].Terms[k], func(x impl.Term) {
		turn(func(c []impl.Layer) []impl.Layer { c[i].Terms[k] = x; return c })
	})
	turn(func(c []impl.Layer) []impl.Layer { c[i].Terms = slices.Delete(c[i].Terms, k, k+1); return c })
	turn(func(c []impl.Layer) []impl.Layer { c[i].Terms = append(c[i].Terms, c[i].Terms[k]); return c })
	turn(func(c []impl.Layer) []impl.Layer {
		c[i].Terms[0], c[i].Terms[k] = c[i].Terms[k], c[i].Terms[0]
		return c
	})
	for _, to := range []int{i - 1, i + 1} {
		turn(func(c []impl.Layer) []impl.Layer {
			if to >= 0 && to < len(c) {
				c[to].Terms = append(c[to].Terms, c[i].Terms[k])
				c[i].Terms = slices.Delete(c[i].Terms, k, k+1)
			}
			return c
		})
	}
}

// TestCtxTurned has layers that differ from others in one thing: they are not the same, and all that is told of them is as it is to be.
func TestCtxTurned(t *testing.T) {
	m, many := maker{seed: 5}, [2]int{}
	for round := range 45 {
		c := m.layers(round % 23)
		turns := 0
		eachTurn(c, func(told []impl.Layer) {
			turns++
			if impl.CtxSame(c, told) || impl.CtxSame(told, c) {
				t.Fatalf("the same: %s and %s", layersText(c), layersText(told))
			}
			tells(t, told)
			right := ctxRight(told)
			many[yes(right).N]++
			if !right && turns%7 == 0 {
				noLayers(t, told, layersText(told))
			}
			for _, ch := range []ctxChange{pushChange(), popChange(), m.change(c)} {
				ch.does(t, told)
			}
		})
	}
	if many[0] < 1000 || many[1] < 1000 {
		t.Error("too few:", many)
	}
}

// TestCtxSame has layers that differ in one thing, written by hand, and such as are not ok.
func TestCtxSame(t *testing.T) {
	d := twoNames(4)
	x, y := d[:1], d[1:]
	less, more := termsOf(t, d, "(less x y)"), termsOf(t, d, "(less y x)")
	both, turned := slices.Concat(less, more), slices.Concat(more, less)
	all := [][]impl.Layer{
		nil, {{}}, {{}, {}}, make([]impl.Layer, 6), make([]impl.Layer, 7),
		{{Decls: x}}, {{Decls: y}}, {{Decls: d}}, {{Decls: slices.Concat(y, x)}}, {{Decls: x}, {Decls: y}}, {{Decls: y}, {Decls: x}}, {{Decls: x}, {}}, {{}, {Decls: x}}, {{Decls: d}, {}}, {{}, {Decls: d}}, {{Decls: []impl.Decl{{Name: "x", Wide: 3}}}}, {{Decls: []impl.Decl{{Name: "x", Wide: 5}}}}, {{Decls: slices.Concat(x, x)}}, {{Decls: x}, {Decls: x}}, {{Decls: make([]impl.Decl, 1)}},
		{{Decls: d, Terms: less}}, {{Decls: d, Terms: more}}, {{Decls: d, Terms: both}}, {{Decls: d, Terms: turned}}, {{Decls: d, Terms: less}, {Terms: more}}, {{Decls: d, Terms: more}, {Terms: less}}, {{Decls: d}, {Terms: less}}, {{Decls: d}, {Terms: both}}, {{Decls: d}, {Terms: less}, {Terms: more}}, {{Decls: x}, {Decls: y, Terms: less}}, {{Decls: x, Terms: less}, {Decls: y}}, {{Terms: less}}, {{Terms: less}, {Decls: d}}, {{Terms: make([]impl.Term, 1)}}, {{Terms: make([]impl.Term, 2)}}, {{Decls: d, Terms: slices.Repeat(less, 8)}}, {{Decls: d, Terms: slices.Repeat(less, 9)}}, {{Decls: d, Terms: termsOf(t, d, "x")}}, {{Decls: d, Terms: termsOf(t, d, "(same x y)")}}, {{Decls: d, Terms: termsOf(t, d, "(less x #0000)")}}, {{Decls: d, Terms: termsOf(t, d, "(less x #0001)")}},
	}
	for i, a := range all {
		for k, b := range all {
			if impl.CtxSame(a, b) != (i == k) || impl.CtxSame(copyLayers(a), b) != (i == k) {
				t.Errorf("CtxSame of %s and %s", layersText(a), layersText(b))
			}
		}
		tells(t, a)
	}
	// An empty list is none, and what stands behind the end of a list is no part of it.
	if !impl.CtxSame(nil, []impl.Layer{}) || !impl.CtxSame([]impl.Layer{}, nil) || !impl.CtxSame([]impl.Layer{{Decls: []impl.Decl{}}}, []impl.Layer{{Terms: []impl.Term{}}}) {
		t.Error("an empty list and none")
	}
	if !impl.CtxSame([]impl.Layer{{Decls: d[:1], Terms: both[:1]}}, []impl.Layer{{Decls: x, Terms: less}}) {
		t.Error("what stands behind the end of a list")
	}
}

// TestCtxEndless has layers and terms that no walk through all parts would end of.
func TestCtxEndless(t *testing.T) {
	late := time.AfterFunc(time.Minute, func() { panic("a walk does not end") })
	defer late.Stop()
	d := twoNames(4)
	for i, x := range []impl.Term{looped(25, 1), looped(26, 2), looped(23, 3), shared(60), plain(0, make([]impl.Term, 1000000)...)} {
		why := "endless " + strconv.Itoa(i)
		none := func(c []impl.Layer) {
			t.Helper()
			env, code := impl.CtxSolve(c)
			pushed, up := impl.CtxPush(c)
			popped, down := impl.CtxPop(c)
			named, name := impl.CtxName(c, impl.Decl{Name: "z", Wide: 1})
			put, fine := impl.CtxAssert(c, impl.Term{Op: 24})
			if impl.CtxOk(c) || len(env)+len(pushed)+len(popped)+len(named)+len(put)+len(impl.CtxDecls(c))+len(impl.CtxTerms(c)) != 0 || up || down || name || fine || code != impl.SolveForm {
				t.Error(why)
			}
		}
		none([]impl.Layer{{Terms: []impl.Term{x}}})
		none([]impl.Layer{{Decls: d}, {Terms: []impl.Term{{Op: 24}, x}}})
		none([]impl.Layer{{Decls: d}, {Terms: slices.Repeat([]impl.Term{x}, 8)}})
		for _, c := range [][]impl.Layer{{{}}, {{Decls: d}, {}}} {
			if told, ok := impl.CtxAssert(c, x); ok || !sameLayers(told, c) {
				t.Error(why, layersText(told), ok)
			}
		}
		a, b := []impl.Layer{{Terms: []impl.Term{{Op: 24}, x}}}, []impl.Layer{{Terms: []impl.Term{{Op: 24}, x}}}
		other := []impl.Layer{{Terms: []impl.Term{x, {Op: 24}}}}
		if !impl.CtxSame(a, b) || impl.CtxSame(a, other) || impl.CtxSame(other, a) {
			t.Error(why, "CtxSame")
		}
	}
	if !impl.CtxSame([]impl.Layer{{Terms: []impl.Term{looped(25, 1)}}}, []impl.Layer{{Terms: []impl.Term{looped(25, 1)}}}) || impl.CtxSame([]impl.Layer{{Terms: []impl.Term{looped(25, 1)}}}, []impl.Layer{{Terms: []impl.Term{looped(1, 1)}}}) {
		t.Error("CtxSame of terms without end")
	}
	noLayers(t, []impl.Layer{{Decls: slices.Repeat(d, 1000000)}}, "so many names")
	noLayers(t, make([]impl.Layer, 3000000), "so many layers")
	noLayers(t, []impl.Layer{{Terms: make([]impl.Term, 3000000)}}, "so many terms")
	noLayers(t, []impl.Layer{{Decls: []impl.Decl{{Name: strings.Repeat("x", 10000000), Wide: 1}}}}, "so long a name")
	if told, ok := impl.CtxName(impl.CtxNew(), impl.Decl{Name: strings.Repeat("x", 10000000), Wide: 1}); ok || !sameLayers(told, impl.CtxNew()) {
		t.Error("so long a name:", ok)
	}
}

// eachAnswer calls with all layers, names and terms that are told of layers, the names and the terms as if they were one layer each.
func eachAnswer(c []impl.Layer, d impl.Decl, x impl.Term, do func(word string, told []impl.Layer)) {
	do("CtxNew", impl.CtxNew())
	do("CtxDecls", []impl.Layer{{Decls: impl.CtxDecls(c)}})
	do("CtxTerms", []impl.Layer{{Terms: impl.CtxTerms(c)}})
	named, _ := impl.CtxName(c, d)
	do("CtxName", named)
	put, _ := impl.CtxAssert(c, x)
	do("CtxAssert", put)
	pushed, _ := impl.CtxPush(c)
	do("CtxPush", pushed)
	popped, _ := impl.CtxPop(c)
	do("CtxPop", popped)
}

// eachPlace calls with each place that layers have memory for, spare room included.
func eachPlace(c []impl.Layer, do func(place any)) {
	whole := c[:cap(c)]
	for i := range whole {
		do(&whole[i])
		decls, terms := whole[i].Decls, whole[i].Terms
		for k := range decls[:cap(decls)] {
			do(&decls[:cap(decls)][k])
		}
		for k := range terms[:cap(terms)] {
			do(&terms[:cap(terms)][k])
		}
		for _, x := range terms {
			lists(x, func(kids []impl.Term) {
				for k := range kids {
					do(&kids[k])
				}
			})
		}
	}
}

// eachName calls with each name that stands in layers.
func eachName(c []impl.Layer, do func(name string)) {
	for _, layer := range c {
		for _, decl := range layer.Decls {
			do(decl.Name)
		}
		for _, x := range layer.Terms {
			names(x, do)
		}
	}
}

// askables is layers of all kinds, with a name and a term that may be put in or not.
func askables(t *testing.T, do func(c []impl.Layer, d impl.Decl, x impl.Term)) {
	t.Helper()
	m := maker{seed: 99}
	one, wrong := termOf(t, twoNames(4), "(less x (add y #0011))"), termOf(t, twoNames(4), "x")
	for round := range 60 {
		c := m.layers(round % 25)
		x := m.ofLayers(c).t
		for _, d := range []impl.Decl{{Name: "q", Wide: 1}, {Name: "x", Wide: 2}, {Name: "q", Wide: 9}} {
			do(c, d, x)
		}
		do(c, impl.Decl{Name: "q", Wide: 1}, one)
		do(c, impl.Decl{Name: "true", Wide: 1}, wrong)
	}
	kids := make([]impl.Term, 2, 9)
	kids[0], kids[1] = impl.Term{Op: 21, Name: "x"}, impl.Term{Op: 21, Name: "y", Kids: kids[:0]}
	share := plain(16, kids...)
	d := roomyDecls(twoNames(2))
	for _, c := range [][]impl.Layer{
		nil, make([]impl.Layer, 7), {{Terms: []impl.Term{one}}}, {{}, {Decls: []impl.Decl{{Name: "x", Wide: 7}}}},
		{{Decls: d, Terms: []impl.Term{share, share, plain(25, share)}}, {Terms: []impl.Term{share}}}, {{Decls: d[:0]}, {Decls: d, Terms: []impl.Term{share}}}, make([]impl.Layer, 2, 5),
	} {
		do(c, impl.Decl{Name: "q", Wide: 1}, share)
		do(c, impl.Decl{Name: "x", Wide: 1}, wrong)
	}
}

// TestCtxIsNew asks that what is told shares no memory with an argument, nor with another answer, nor in itself.
func TestCtxIsNew(t *testing.T) {
	many := 0
	askables(t, func(c []impl.Layer, d impl.Decl, x impl.Term) {
		places, given := map[any]string{}, []string{d.Name}
		eachPlace(c, func(place any) { places[place] = "an argument" })
		eachPlace([]impl.Layer{{Terms: []impl.Term{x}}}, func(place any) { places[place] = "an argument" })
		eachName(c, func(name string) { given = append(given, name) })
		names(x, func(name string) { given = append(given, name) })
		for range 2 {
			eachAnswer(c, d, x, func(word string, told []impl.Layer) {
				eachPlace(told, func(place any) {
					many++
					if other := places[place]; other != "" && (word != "CtxDecls" && word != "CtxTerms" || place != any(&told[0])) {
						t.Fatalf("%s of %s shares a place with %s", word, layersText(c), other)
					}
					places[place] = word
				})
				eachName(told, func(name string) {
					if slices.ContainsFunc(given, func(other string) bool { return overlap(name, other) }) {
						t.Fatalf("a name that %s of %s tells lies in an argument", word, layersText(c))
					}
				})
			})
		}
	})
	if many < 5000 {
		t.Error("too few:", many)
	}
	c := layersOf(t, "name x 4", "assert (less #0101 x)", "push", "name y 4", "assert (same (add x y) #0000)")
	one, _ := impl.CtxSolve(c)
	two, _ := impl.CtxSolve(c)
	for i := range one[:cap(one)] {
		one[:cap(one)][i] = 99
	}
	if three, code := impl.CtxSolve(c); code != 1 || !slices.Equal(two, []int{6, 10}) || !slices.Equal(three, []int{6, 10}) {
		t.Error("numbers for names share memory:", two, three)
	}
}

// roomyLayers is layers that are the same, whose lists have room behind their ends, with something there.
func roomyLayers(c []impl.Layer) []impl.Layer {
	list := []impl.Layer{}
	for _, layer := range c {
		terms := []impl.Term{}
		for _, x := range layer.Terms {
			terms = append(terms, spacious(x))
		}
		terms = append(terms, impl.Term{Op: 777}, impl.Term{Op: 778})
		list = append(list, impl.Layer{Decls: roomyDecls(layer.Decls), Terms: terms[:len(layer.Terms)]})
	}
	return append(list, impl.Layer{Decls: twoNames(3)}, impl.Layer{Decls: twoNames(2)})[:len(c)]
}

// stayedLayers says whether roomy layers are as they were made of others.
func stayedLayers(was []impl.Layer, c []impl.Layer) bool {
	behind := c[:len(c)+2][len(c):]
	if !sameLayers(c, was) || !slices.Equal(behind[0].Decls, twoNames(3)) || !slices.Equal(behind[1].Decls, twoNames(2)) || len(behind[0].Terms)+len(behind[1].Terms) != 0 {
		return false
	}
	stayed := true
	for _, layer := range c {
		decls, terms := layer.Decls[:len(layer.Decls)+1], layer.Terms[:len(layer.Terms)+2]
		stayed = stayed && decls[len(layer.Decls)] == impl.Decl{Name: "spare", Wide: 99} && terms[len(layer.Terms)].Op == 777 && terms[len(layer.Terms)+1].Op == 778
		for _, x := range layer.Terms {
			lists(x, func(kids []impl.Term) { stayed = stayed && len(kids) > 0 && kids[len(kids)-1].Op == 777 })
		}
	}
	return stayed
}

// TestCtxArgumentsStay asks that nothing is written into an argument, or behind its end.
func TestCtxArgumentsStay(t *testing.T) {
	many := 0
	askables(t, func(was []impl.Layer, d impl.Decl, x impl.Term) {
		c, roomy := roomyLayers(was), spacious(x)
		eachAnswer(c, d, roomy, func(string, []impl.Layer) { many++ })
		impl.CtxOk(c)
		if many%5 == 0 {
			impl.CtxSolve(c)
		}
		impl.CtxSame(c, was)
		impl.CtxSame(was, c)
		if !stayedLayers(was, c) || !alike(roomy, x) {
			t.Fatal("an argument was written into:", layersText(was))
		}
		lists(roomy, func(kids []impl.Term) {
			if len(kids) == 0 || kids[len(kids)-1].Op != 777 {
				t.Fatal("written behind the end of a list:", layersText(was))
			}
		})
		impl.CtxSolve(c)
		if !stayedLayers(was, c) {
			t.Fatal("a search has written into an argument:", layersText(was))
		}
	})
	if many < 1000 {
		t.Error("too few:", many)
	}
}

// TestCtxApart asks that what is written into an answer turns no other one, and that two layers that were made of one go ways of their own.
func TestCtxApart(t *testing.T) {
	c := layersOf(t, "name x 2", "assert (less #01 x)", "push")
	one, _ := impl.CtxName(c, impl.Decl{Name: "y", Wide: 2})
	two, _ := impl.CtxName(c, impl.Decl{Name: "z", Wide: 3})
	three, _ := impl.CtxAssert(one, anyTerm(t, "(less x y)"))
	four, _ := impl.CtxAssert(one, anyTerm(t, "(less y x)"))
	five, _ := impl.CtxPush(three)
	six, _ := impl.CtxPop(three)
	for i, row := range []struct {
		c    []impl.Layer
		text string
		env  []int
	}{{c, "[x2 (less #01 x)][]", []int{2}}, {one, "[x2 (less #01 x)][y2]", []int{2, 0}}, {two, "[x2 (less #01 x)][z3]", []int{2, 0}}, {three, "[x2 (less #01 x)][y2 (less x y)]", []int{2, 3}}, {four, "[x2 (less #01 x)][y2 (less y x)]", []int{2, 0}}, {five, "[x2 (less #01 x)][y2 (less x y)][]", []int{2, 3}}, {six, "[x2 (less #01 x)]", []int{2}}} {
		if env, code := impl.CtxSolve(row.c); layersText(row.c) != row.text || code != 1 || !slices.Equal(env, row.env) {
			t.Error(i, layersText(row.c), env, code)
		}
	}
	six[0].Decls[0].Wide, six[0].Terms[0].Kids[0].B = 4, 3
	if layersText(three) != "[x2 (less #01 x)][y2 (less x y)]" || layersText(c) != "[x2 (less #01 x)][]" {
		t.Error("one answer is written into another:", layersText(three), layersText(c))
	}
	fresh := impl.CtxNew()
	fresh[0].Decls = append(fresh[0].Decls, impl.Decl{Name: "x", Wide: 1})
	if other := impl.CtxNew(); !sameLayers(other, []impl.Layer{{}}) {
		t.Error("one layer of nothing:", other)
	}
}

// TestCtxAgain asks that nothing is kept from call to call: what is told of layers hangs on them alone, whatever was asked ahead.
func TestCtxAgain(t *testing.T) {
	of := func(wide int, texts ...string) []impl.Layer {
		c := []impl.Layer{{Decls: twoNames(wide)}, {}}
		for _, text := range texts {
			c[1].Terms = append(c[1].Terms, anyTerm(t, text))
		}
		return c
	}
	for range 3 {
		for _, row := range []struct {
			c    []impl.Layer
			env  []int
			code int
		}{{of(4, "(less x y)"), []int{0, 1}, 1}, {of(2, "(less x y)"), []int{0, 1}, 1}, {of(2, "(less y x)"), []int{1, 0}, 1}, {of(1, "(under x y)"), []int{1, 0}, 1}, {of(4, "(under x y)"), []int{0, 1}, 1}, {of(4, "(less x y)", "(less y x)"), nil, 2}, {of(4, gates601), nil, 3}, {of(5), nil, 4}, {of(4, "x"), nil, 4}, {nil, nil, 4}, {impl.CtxNew(), nil, 1}} {
			if env, code := impl.CtxSolve(row.c); code != row.code || !slices.Equal(env, row.env) {
				t.Errorf("CtxSolve of %s: %v, %d, want %v, %d", layersText(row.c), env, code, row.env, row.code)
			}
			tells(t, row.c)
			for _, line := range []string{"push", "pop", "name x 3", "name z 1", "assert (less x y)", "assert (less x z)"} {
				changeOf(t, line).does(t, row.c)
			}
		}
	}
}

// TestCtxExample has the layers of the document's example of a script.
func TestCtxExample(t *testing.T) {
	c := layersOf(t, "name x 4", "name y 4", "assert (same (mul x y) #1100)", "assert (less x y)")
	env, code := impl.CtxSolve(c)
	if code != 1 || !slices.Equal(env, []int{1, 12}) {
		t.Error(env, code)
	}
	above := c
	for _, line := range []string{"push", "assert (same (rem y x) #0001)"} {
		above, _ = changeOf(t, line).does(t, above)
	}
	env, code = impl.CtxSolve(above)
	if code != 1 || !slices.Equal(env, []int{3, 4}) {
		t.Error(env, code)
	}
	left, _ := impl.CtxPop(above)
	if env, code := impl.CtxSolve(left); code != 1 || !slices.Equal(env, []int{1, 12}) || !impl.CtxSame(left, c) {
		t.Error(env, code)
	}
}
