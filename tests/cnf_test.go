package tests

import (
	"math"
	"regexp"
	"slices"
	"strconv"
	"strings"
	"testing"

	"loop.example/seedlip/impl"
)

// clauseForm is the text of a clause but for the order of its numbers and how great they may be.
var clauseForm = regexp.MustCompile(`^(-?[1-9][0-9]* )*0$`)

// rightWanted takes the marks off a clause in their order, and says whether nothing is left of it.
func rightWanted(clause []int, many int) bool {
	for m := 1; m <= many; m++ {
		if len(clause) > 0 && (clause[0] == m || clause[0] == -m) {
			clause = clause[1:]
		}
	}
	return len(clause) == 0
}

// hasWanted goes through a list, and says whether a clause wants one of its marks as it is.
func hasWanted(clause []int, vals []bool) bool {
	for i, so := range vals {
		as := i + 1
		if !so {
			as = -as
		}
		if slices.Contains(clause, as) {
			return true
		}
	}
	return false
}

// cnfWanted says whether all clauses have one, if they are right and there are as many places as marks.
func cnfWanted(c impl.Cnf, vals []bool) bool {
	for _, clause := range c.List {
		if !hasWanted(clause, vals) {
			return false
		}
	}
	return true
}

// allVals is each list of so many places, in order, not so ahead of so.
func allVals(many int) [][]bool {
	if many == 0 {
		return [][]bool{{}}
	}
	var list [][]bool
	for _, first := range []bool{false, true} {
		for _, rest := range allVals(many - 1) {
			list = append(list, append([]bool{first}, rest...))
		}
	}
	return list
}

// leastWanted asks all lists in their order.
func leastWanted(c impl.Cnf) ([]bool, bool) {
	for _, vals := range allVals(c.Many) {
		if cnfWanted(c, vals) {
			return vals, true
		}
	}
	return nil, false
}

// readWanted is what a text is read as, by its form, its numbers and their order.
func readWanted(text string) ([]int, bool) {
	if len(text) > 6000 || !clauseForm.MatchString(text) {
		return nil, false
	}
	words := strings.Split(text, " ")
	var clause []int
	for _, word := range words[:len(words)-1] {
		n, err := strconv.Atoi(word)
		if err != nil {
			return nil, false
		}
		clause = append(clause, n)
	}
	if !rightWanted(clause, 700) {
		return nil, false
	}
	return clause, true
}

// eachClause calls with each list of at most so many of some numbers.
func eachClause(numbers []int, most int, do func([]int)) {
	var grow func(clause []int)
	grow = func(clause []int) {
		do(clause)
		if len(clause) == most {
			return
		}
		for _, n := range numbers {
			grow(append(slices.Clone(clause), n))
		}
	}
	grow(nil)
}

// oddNumbers is small numbers, and such as a mark may be taken for by mistake.
func oddNumbers() []int {
	return []int{0, 1, -1, 2, -2, 3, -3, 4, -4, 5, 700, -700, 701, -701, math.MaxInt, math.MinInt, math.MinInt + 1, 1<<32 + 1, -1 << 32}
}

// clause is one that is right among so many marks, each of them in it once in so many times.
func (m *maker) clause(many int, seldom int) []int {
	list := []int{}
	for i := range many {
		if m.below(seldom) == 0 {
			list = append(list, (i+1)*(1-2*m.below(2)))
		}
	}
	return list
}

// cnf is clauses that are ok.
func (m *maker) cnf(many int, clauses int, seldom int) impl.Cnf {
	c := impl.Cnf{Many: many}
	for range clauses {
		c.List = append(c.List, m.clause(many, seldom))
	}
	return c
}

// vals is a list of so many places.
func (m *maker) vals(many int) []bool {
	list := make([]bool, many)
	for i := range list {
		list[i] = m.below(2) == 0
	}
	return list
}

// marksTo is a clause of all marks up to one, each second one wanted not to be so.
func marksTo(many int) []int {
	var clause []int
	for m := 1; m <= many; m++ {
		clause = append(clause, m*(1-m%2*2))
	}
	return clause
}

// unmet is the clause that wants all marks other than a list has them.
func unmet(vals []bool) []int {
	clause := []int{}
	for i, so := range vals {
		if so {
			clause = append(clause, -i-1)
		} else {
			clause = append(clause, i+1)
		}
	}
	return clause
}

// clones is so many clauses, all as one.
func clones(clause []int, many int) [][]int {
	var list [][]int
	for range many {
		list = append(list, slices.Clone(clause))
	}
	return list
}

// wrongClauses is clauses that are not right among 3 marks.
func wrongClauses() [][]int {
	return [][]int{
		{0}, {0, 1}, {1, 0}, {-1, 0, 2}, {1, 2, 3, 0},
		{4}, {-4}, {1, 4}, {1, 2, 3, 4}, {1, 2, 3, -4}, {700}, {-700}, {math.MaxInt}, {math.MinInt}, {math.MinInt + 1}, {1, math.MinInt}, {math.MinInt, 1}, {1<<32 + 1},
		{2, 1}, {-2, 1}, {2, -1}, {-2, -1}, {1, 3, 2}, {1, -3, 2}, {3, 2, 1}, {-1, -3, -2}, {-3, -2, -1}, {-3, 1, 2},
		{1, 1}, {-1, -1}, {1, -1}, {-1, 1}, {1, 2, -2}, {1, -2, 2}, {3, -3}, {1, 2, 1}, {1, 2, -1}, {1, 2, 3, 3}, {1, 2, 3, -3},
	}
}

// wrongCnfs is clauses that are not ok, most of them for one reason alone.
func wrongCnfs() []impl.Cnf {
	list := []impl.Cnf{
		{Many: -1}, {Many: 701}, {Many: math.MaxInt}, {Many: math.MinInt}, {Many: 1<<32 + 3},
		{Many: -1, List: [][]int{{}}}, {Many: 0, List: [][]int{{1}}}, {Many: 0, List: [][]int{{-1}}}, {Many: 0, List: [][]int{{0}}},
		{Many: 0, List: clones(nil, 2501)}, {Many: 3, List: clones([]int{1, -3}, 2501)}, {Many: 700, List: clones(nil, 2501)},
		{Many: 700, List: [][]int{{701}}}, {Many: 700, List: [][]int{{-701}}}, {Many: 699, List: [][]int{marksTo(700)}}, {Many: 701, List: [][]int{marksTo(701)}},
	}
	for _, wrong := range wrongClauses() {
		list = append(list, impl.Cnf{Many: 3, List: [][]int{wrong}}, impl.Cnf{Many: 3, List: [][]int{{1}, wrong}}, impl.Cnf{Many: 3, List: [][]int{wrong, {}}}, impl.Cnf{Many: 3, List: [][]int{{-1, 2}, wrong, {3}}})
	}
	return list
}

// noLeast asks that no list is told.
func noLeast(t *testing.T, c impl.Cnf, why string) {
	t.Helper()
	if vals, ok := impl.CnfLeast(c); ok || len(vals) != 0 {
		t.Errorf("CnfLeast, %s: %v, %v", why, vals, ok)
	}
}

// leastIs asks that a list is told as the first.
func leastIs(t *testing.T, c impl.Cnf, want []bool) {
	t.Helper()
	if vals, ok := impl.CnfLeast(c); !ok || !slices.Equal(vals, want) || !impl.CnfHas(c, vals) {
		t.Errorf("CnfLeast of %d marks, %v = %v, %v, want %v", c.Many, c.List, vals, ok, want)
	}
}

// readIs asks what is read of a text, and that it is written so.
func readIs(t *testing.T, text string) {
	t.Helper()
	want, right := readWanted(text)
	got, ok := impl.ClauseRead(text)
	if ok != right || !slices.Equal(got, want) {
		t.Errorf("ClauseRead(%.40q) = %v, %v, want %v, %v", text, got, ok, want, right)
	}
	if ok && impl.ClauseText(got) != text {
		t.Errorf("read from %.40q, but written %.40q", text, impl.ClauseText(got))
	}
}

// noClause asks that a text is not read.
func noClause(t *testing.T, text string) {
	t.Helper()
	if clause, ok := impl.ClauseRead(text); ok || len(clause) != 0 {
		t.Errorf("ClauseRead(%.40q) = %v, %v", text, clause, ok)
	}
}

func TestCnfConstants(t *testing.T) {
	if impl.MarkMost != 700 || impl.ClauseMost != 2500 || impl.LeastMost != 10 {
		t.Error("bounds are not as the document has them")
	}
}

func TestCnfOk(t *testing.T) {
	for i, c := range []impl.Cnf{
		{}, {Many: 1}, {Many: 10}, {Many: 11}, {Many: 700}, {Many: 0, List: [][]int{}}, {Many: 0, List: [][]int{{}}}, {Many: 0, List: [][]int{nil, {}, nil}},
		{Many: 1, List: [][]int{{1}}}, {Many: 1, List: [][]int{{-1}}}, {Many: 1, List: [][]int{{1}, {-1}, {1}, {}}},
		{Many: 3, List: [][]int{{1, 2}, {-1, 3}, {-2, -3}}}, {Many: 3, List: [][]int{{1, 2, 3}, {-1, -2, -3}, {1, -3}, {-2}}}, {Many: 3, List: [][]int{{3}, {2}, {1}, {-1}}},
		{Many: 700, List: [][]int{{700}, {-700}, {1}, {1, 700}, {-1, -700}, marksTo(700)}}, {Many: 700, List: clones(marksTo(700), 2500)},
		{Many: 0, List: clones(nil, 2500)}, {Many: 3, List: clones([]int{1, -3}, 2500)}, {Many: 3, List: clones([]int{1, -3}, 2499)},
	} {
		if !impl.CnfOk(c) {
			t.Error("not ok, but is:", i, c.Many, len(c.List))
		}
	}
	for i, c := range wrongCnfs() {
		if impl.CnfOk(c) {
			t.Error("ok, but is not:", i, c.Many, len(c.List))
		}
	}
}

// TestCnfOkMany asks for each number of marks what the greatest of them may be.
func TestCnfOkMany(t *testing.T) {
	for many := -3; many <= 703; many++ {
		bounded := many >= 0 && many <= 700
		if impl.CnfOk(impl.Cnf{Many: many}) != bounded {
			t.Errorf("%d marks", many)
		}
		for n := many - 2; n <= many+2; n++ {
			clause, turned := []int{n}, []int{-n}
			want := bounded && n != 0 && max(n, -n) <= many
			if impl.CnfOk(impl.Cnf{Many: many, List: [][]int{clause}}) != want || impl.CnfOk(impl.Cnf{Many: many, List: [][]int{turned}}) != want {
				t.Errorf("%d among %d marks", n, many)
			}
			whole := impl.Cnf{Many: many, List: [][]int{marksTo(n)}}
			if impl.CnfOk(whole) != (bounded && n <= many) {
				t.Errorf("all marks up to %d among %d", n, many)
			}
		}
	}
}

// TestCnfOkClauses asks every small clause, alone and among others that are right.
func TestCnfOkClauses(t *testing.T) {
	eachClause(oddNumbers(), 3, func(clause []int) {
		for _, many := range []int{-1, 0, 1, 2, 3, 4, 5, 700, 701} {
			want := many >= 0 && many <= 700 && rightWanted(clause, many)
			for place, list := range [][][]int{{clause}, {{}, clause}, {clause, {}}, {{}, {}, clause, {}}} {
				if got := impl.CnfOk(impl.Cnf{Many: many, List: list}); got != want {
					t.Errorf("CnfOk of %v among %d marks (%d) = %v", clause, many, place, got)
				}
			}
		}
	})
}

// TestCnfOkOneWrong has one clause that is not right at each of many places.
func TestCnfOkOneWrong(t *testing.T) {
	c := impl.Cnf{Many: 3, List: clones([]int{-1, 2}, 2500)}
	for place := range c.List {
		was := c.List[place]
		c.List[place] = wrongClauses()[place%len(wrongClauses())]
		if impl.CnfOk(c) || impl.CnfHas(c, []bool{true, true, true}) {
			t.Error("a clause that is not right is not seen:", place, c.List[place])
		}
		c.List[place] = was
	}
	if !impl.CnfOk(c) {
		t.Error("all are right again")
	}
}

func TestClauseHasWritten(t *testing.T) {
	for _, c := range []struct {
		clause []int
		vals   []bool
		want   bool
	}{
		{nil, nil, false}, {nil, []bool{true, false}, false}, {[]int{}, []bool{}, false},
		{[]int{1}, []bool{true}, true}, {[]int{1}, []bool{false}, false}, {[]int{-1}, []bool{true}, false}, {[]int{-1}, []bool{false}, true},
		{[]int{1}, nil, false}, {[]int{-1}, nil, false}, {[]int{4}, []bool{true}, false}, {[]int{-4}, []bool{false}, false}, {[]int{2}, []bool{true}, false}, {[]int{-2}, []bool{false}, false},
		{[]int{1, 2}, []bool{false, true}, true}, {[]int{1, 2}, []bool{false, false}, false}, {[]int{-1, -2}, []bool{true, false}, true}, {[]int{-1, -2}, []bool{true, true}, false}, {[]int{-1, 2}, []bool{true, false}, false},
		{[]int{2, 1}, []bool{true, false}, true}, {[]int{1, 1}, []bool{true}, true}, {[]int{1, 1}, []bool{false}, false},
		{[]int{1, -1}, []bool{true}, true}, {[]int{1, -1}, []bool{false}, true}, {[]int{1, -1}, nil, false}, {[]int{-2, 2}, []bool{true}, false},
		{[]int{0}, []bool{true, true}, false}, {[]int{0}, []bool{false, false}, false}, {[]int{0}, nil, false}, {[]int{0, 1}, []bool{true}, true}, {[]int{5, 0, -1}, []bool{false}, true},
		{[]int{math.MinInt}, []bool{true, false}, false}, {[]int{math.MinInt}, nil, false}, {[]int{math.MaxInt}, []bool{true, false}, false}, {[]int{math.MinInt + 1}, []bool{true, false}, false}, {[]int{math.MinInt, 2}, []bool{true, true}, true}, {[]int{1<<32 + 1}, []bool{true}, false},
	} {
		if got := impl.ClauseHas(c.clause, c.vals); got != c.want {
			t.Errorf("ClauseHas(%v, %v) = %v", c.clause, c.vals, got)
		}
	}
}

// TestClauseHasAll asks every small clause, right or not, with every small list.
func TestClauseHasAll(t *testing.T) {
	var all [][]bool
	for many := range 5 {
		all = append(all, allVals(many)...)
	}
	eachClause(oddNumbers(), 3, func(clause []int) {
		for _, vals := range all {
			if got := impl.ClauseHas(clause, vals); got != hasWanted(clause, vals) {
				t.Errorf("ClauseHas(%v, %v) = %v", clause, vals, got)
			}
		}
	})
}

// TestClauseHasLong has lists past all bounds, as any may be given.
func TestClauseHasLong(t *testing.T) {
	for _, many := range []int{699, 700, 701, 5000} {
		vals := make([]bool, many)
		vals[many-1] = true
		if !impl.ClauseHas([]int{many}, vals) || impl.ClauseHas([]int{-many}, vals) || impl.ClauseHas([]int{many - 1, many + 1, -many - 1, 0}, vals) || !impl.ClauseHas([]int{1 - many}, vals) {
			t.Errorf("the last of %d places", many)
		}
	}
	clause := append(make([]int, 9000), -1)
	if !impl.ClauseHas(clause, []bool{false}) || impl.ClauseHas(clause, []bool{true}) {
		t.Error("the last number of a long clause")
	}
}

// TestCnfHasAll asks that all clauses have one just if each has, with lists of all lengths near.
func TestCnfHasAll(t *testing.T) {
	m := maker{seed: 4}
	var all [][]bool
	for many := range 7 {
		all = append(all, allVals(many)...)
	}
	for round := range 600 {
		c := m.cnf(round%6, m.below(6), 1+m.below(3))
		for _, vals := range all {
			want := len(vals) == c.Many && cnfWanted(c, vals)
			if got := impl.CnfHas(c, vals); got != want {
				t.Errorf("CnfHas of %d marks, %v and %v = %v", c.Many, c.List, vals, got)
			}
			each := len(vals) == c.Many
			for _, clause := range c.List {
				each = each && impl.ClauseHas(clause, vals) && impl.CnfHas(impl.Cnf{Many: c.Many, List: [][]int{clause}}, vals)
			}
			if each != want {
				t.Errorf("each clause of %v by itself, with %v: %v", c.List, vals, each)
			}
		}
	}
}

func TestCnfHasWritten(t *testing.T) {
	c := impl.Cnf{Many: 3, List: [][]int{{1, 2}, {-1, 3}, {-2, -3}}}
	for i, vals := range allVals(3) {
		if got := impl.CnfHas(c, vals); got != (i == 2 || i == 5) {
			t.Errorf("CnfHas with %v = %v", vals, got)
		}
	}
	for _, vals := range [][]bool{nil, {false}, {false, true}, {false, true, false, false}, {true, false, true, true}, make([]bool, 700)} {
		if impl.CnfHas(c, vals) || impl.CnfHas(impl.Cnf{Many: 3}, vals) {
			t.Errorf("a list of %d places for 3 marks", len(vals))
		}
	}
	if !impl.CnfHas(impl.Cnf{}, nil) || !impl.CnfHas(impl.Cnf{}, []bool{}) || impl.CnfHas(impl.Cnf{}, []bool{false}) || !impl.CnfHas(impl.Cnf{Many: 3}, []bool{true, false, true}) {
		t.Error("no clause")
	}
	if impl.CnfHas(impl.Cnf{List: [][]int{{}}}, nil) || impl.CnfHas(impl.Cnf{Many: 1, List: [][]int{{1}, {}}}, []bool{true}) || impl.CnfHas(impl.Cnf{Many: 1, List: [][]int{nil, {1}}}, []bool{true}) {
		t.Error("a clause of nothing has one")
	}
}

// TestCnfHasWrong has clauses that are not ok, with lists of which each may be met.
func TestCnfHasWrong(t *testing.T) {
	for i, c := range wrongCnfs() {
		for _, vals := range append(allVals(3), nil, []bool{true}, []bool{false}, make([]bool, 699), make([]bool, 700), make([]bool, 701)) {
			if impl.CnfHas(c, vals) {
				t.Error("CnfHas of clauses that are not ok:", i, vals)
			}
		}
	}
}

// TestCnfHasMost is at all bounds at once, where one clause alone is not met.
func TestCnfHasMost(t *testing.T) {
	m := maker{seed: 44}
	vals := m.vals(700)
	met := unmet(vals)
	for i := range met {
		met[i] = -met[i]
	}
	c := impl.Cnf{Many: 700, List: clones(met, 2500)}
	if !impl.CnfHas(c, vals) || impl.CnfHas(c, vals[:699]) || impl.CnfHas(c, append(slices.Clone(vals), true)) {
		t.Error("all are met")
	}
	for _, place := range []int{0, 1, 1250, 2498, 2499} {
		was := c.List[place]
		for _, missed := range [][]int{unmet(vals), {-met[0]}, {-met[699]}, {}} {
			c.List[place] = missed
			if impl.CnfHas(c, vals) {
				t.Error("a clause is not met:", place, len(missed))
			}
		}
		for _, last := range [][]int{{met[0]}, {met[699]}, append(unmet(vals)[:699], met[699])} {
			c.List[place] = last
			if !impl.CnfHas(c, vals) {
				t.Error("a clause is met:", place, len(last))
			}
		}
		c.List[place] = was
	}
	c.List = append(c.List, met)
	if impl.CnfHas(c, vals) {
		t.Error("one clause too many")
	}
}

// TestCnfLeastOnly has each list as the only one that there is, and each as the first of several.
func TestCnfLeastOnly(t *testing.T) {
	for many := range 11 {
		all := allVals(many)
		for _, vals := range all {
			c := impl.Cnf{Many: many}
			for _, n := range unmet(vals) {
				c.List = append(c.List, []int{-n})
			}
			leastIs(t, c, vals)
			// A mark that need not be so is not so in the first.
			for i, clause := range c.List {
				if clause[0] > 0 {
					first := slices.Clone(vals)
					first[i] = false
					leastIs(t, impl.Cnf{Many: many, List: slices.Delete(slices.Clone(c.List), i, i+1)}, first)
				}
			}
		}
	}
}

// TestCnfLeastTaken takes lists away one by one, from the first and from the last on.
func TestCnfLeastTaken(t *testing.T) {
	for many := range 9 {
		all := allVals(many)
		ahead, behind := impl.Cnf{Many: many}, impl.Cnf{Many: many}
		for i := range all {
			leastIs(t, ahead, all[i])
			leastIs(t, behind, all[0])
			ahead.List = append(ahead.List, unmet(all[i]))
			behind.List = append(behind.List, unmet(all[len(all)-1-i]))
		}
		noLeast(t, ahead, "no list is left")
		noLeast(t, behind, "no list is left")
	}
	c := impl.Cnf{Many: 10}
	for _, vals := range allVals(10) {
		c.List = append(c.List, unmet(vals))
	}
	noLeast(t, c, "no list of 10 places is left")
	for _, kept := range []int{0, 1, 511, 512, 1023} {
		leastIs(t, impl.Cnf{Many: 10, List: slices.Delete(slices.Clone(c.List), kept, kept+1)}, allVals(10)[kept])
	}
}

// TestCnfLeastAll holds what is told against all lists in their order.
func TestCnfLeastAll(t *testing.T) {
	m := maker{seed: 444}
	told, none := 0, 0
	for round := range 3000 {
		many := round % 11
		c := m.cnf(many, m.below(3+5*many), 1+m.below(3))
		want, right := leastWanted(c)
		if right {
			leastIs(t, c, want)
			told++
		} else {
			noLeast(t, c, "no list has all")
			none++
		}
	}
	if told < 300 || none < 300 {
		t.Error("too few of a kind:", told, none)
	}
}

func TestCnfLeastEdges(t *testing.T) {
	leastIs(t, impl.Cnf{}, nil)
	leastIs(t, impl.Cnf{List: [][]int{}}, nil)
	noLeast(t, impl.Cnf{List: [][]int{{}}}, "no marks, and a clause of nothing")
	noLeast(t, impl.Cnf{List: [][]int{{}, {}}}, "no marks, and two clauses of nothing")
	for many := range 11 {
		leastIs(t, impl.Cnf{Many: many}, make([]bool, many))
		noLeast(t, impl.Cnf{Many: many, List: [][]int{nil}}, "a clause of nothing")
		if many > 0 {
			noLeast(t, impl.Cnf{Many: many, List: [][]int{{1}, {}, {many}}}, "a clause of nothing among others")
			noLeast(t, impl.Cnf{Many: many, List: [][]int{{many}, {-many}}}, "one mark that is wanted both ways")
			leastIs(t, impl.Cnf{Many: many, List: clones([]int{-many}, 2500)}, make([]bool, many))
			noLeast(t, impl.Cnf{Many: many, List: clones([]int{-many}, 2501)}, "one clause too many")
		}
	}
	for _, many := range []int{11, 12, 64, 699, 700} {
		noLeast(t, impl.Cnf{Many: many}, "more marks than are counted up")
		noLeast(t, impl.Cnf{Many: many, List: [][]int{{1}, {-2}}}, "more marks than are counted up")
		if !impl.CnfHas(impl.Cnf{Many: many}, make([]bool, many)) {
			t.Error("there is a list, but it is not told:", many)
		}
	}
	for _, c := range wrongCnfs() {
		noLeast(t, c, "clauses that are not ok")
	}
	for many := 1; many <= 10; many++ {
		noLeast(t, impl.Cnf{Many: many, List: [][]int{{-many, many}}}, "a mark twice, once turned")
		noLeast(t, impl.Cnf{Many: many, List: [][]int{{many + 1}}}, "a mark that there is not")
		noLeast(t, impl.Cnf{Many: many, List: [][]int{{-many - 1}}}, "a mark that there is not, turned")
	}
}

func TestCnfSame(t *testing.T) {
	list := []impl.Cnf{
		{}, {Many: 1}, {Many: -1}, {Many: 701}, {Many: math.MinInt},
		{List: [][]int{{}}}, {List: [][]int{{}, {}}}, {List: clones(nil, 2500)}, {List: clones(nil, 2501)}, {List: [][]int{{0}}}, {List: [][]int{{1}}}, {List: [][]int{{}, {1}}}, {List: [][]int{{1}, {}}},
		{Many: 3, List: [][]int{{1, 2}, {-1, 3}}}, {Many: 4, List: [][]int{{1, 2}, {-1, 3}}}, {Many: 3, List: [][]int{{1, 2}}}, {Many: 3, List: [][]int{{-1, 3}}}, {Many: 3, List: [][]int{{1, 2}, {-1, 3}, {}}}, {Many: 3, List: [][]int{{}, {1, 2}, {-1, 3}}}, {Many: 3, List: [][]int{{1, 2}, {-1, 3}, {-1, 3}}},
		{Many: 3, List: [][]int{{1, 2}, {1, 3}}}, {Many: 3, List: [][]int{{1, 2}, {-1, -3}}}, {Many: 3, List: [][]int{{1, 2}, {-1, 2}}}, {Many: 3, List: [][]int{{1, 3}, {-1, 3}}}, {Many: 3, List: [][]int{{-1, 2}, {-1, 3}}}, {Many: 3, List: [][]int{{-1, 3}, {1, 2}}}, {Many: 3, List: [][]int{{2, 1}, {-1, 3}}}, {Many: 3, List: [][]int{{1, 2}, {3, -1}}},
		{Many: 3, List: [][]int{{1}, {2, -1, 3}}}, {Many: 3, List: [][]int{{1, 2, -1}, {3}}}, {Many: 3, List: [][]int{{1, 2, -1, 3}}}, {Many: 3, List: [][]int{{1, 2}, {-1}}}, {Many: 3, List: [][]int{{1, 2}, {-1, 3, 3}}}, {Many: 3, List: [][]int{{1, 2}, {}}}, {Many: 3, List: [][]int{{1, 2, 0}, {-1, 3}}},
		{List: [][]int{{math.MinInt}}}, {List: [][]int{{math.MaxInt}}}, {List: [][]int{{math.MinInt + 1}}}, {List: [][]int{{1<<32 + 1}}},
	}
	for i, a := range list {
		for k, b := range list {
			if impl.CnfSame(a, roomyCnf(b)) != (i == k) {
				t.Error("CnfSame:", i, k)
			}
		}
	}
	if !impl.CnfSame(impl.Cnf{}, impl.Cnf{List: [][]int{}}) || !impl.CnfSame(impl.Cnf{List: [][]int{nil}}, impl.Cnf{List: [][]int{{}}}) {
		t.Error("the empty list and the nil list are the same value")
	}
}

// TestCnfSameChanged turns each part of clauses, one at a time.
func TestCnfSameChanged(t *testing.T) {
	m := maker{seed: 4444}
	for round := range 200 {
		a := m.cnf(round%9, m.below(6), 1+m.below(3))
		differs := func(b impl.Cnf) {
			if impl.CnfSame(a, b) || impl.CnfSame(b, a) {
				t.Errorf("taken for one: %v and %v", a, b)
			}
		}
		b := roomyCnf(a)
		if !impl.CnfSame(a, b) {
			t.Errorf("not taken for one: %v", a)
		}
		differs(impl.Cnf{Many: a.Many + 1, List: b.List})
		differs(impl.Cnf{Many: a.Many, List: append(slices.Clone(b.List), nil)})
		for i, clause := range b.List {
			differs(impl.Cnf{Many: a.Many, List: b.List[:i]})
			b.List[i] = append(slices.Clone(clause), 0)
			differs(b)
			for k := range clause {
				b.List[i] = clause[:k]
				differs(b)
				b.List[i] = slices.Clone(clause)
				b.List[i][k] = -clause[k]
				differs(b)
			}
			b.List[i] = clause
		}
	}
}

func TestClauseTextWritten(t *testing.T) {
	for _, c := range []struct {
		clause []int
		text   string
	}{
		{nil, "0"}, {[]int{}, "0"}, {[]int{1}, "1 0"}, {[]int{-1}, "-1 0"}, {[]int{1, -2, 3}, "1 -2 3 0"}, {[]int{-700}, "-700 0"}, {[]int{700}, "700 0"},
		{[]int{-9, 10, -99, 100, 699, -700}, "-9 10 -99 100 699 -700 0"}, {[]int{5, 50, 500}, "5 50 500 0"}, {[]int{10, 20, 101}, "10 20 101 0"},
	} {
		if got := impl.ClauseText(c.clause); got != c.text {
			t.Errorf("ClauseText(%v) = %q", c.clause, got)
		}
		if got, ok := impl.ClauseRead(c.text); !ok || !slices.Equal(got, c.clause) {
			t.Errorf("ClauseRead(%q) = %v, %v", c.text, got, ok)
		}
	}
}

// textBack asks that a clause that is right among all marks is read from its text as it was.
func textBack(t *testing.T, clause []int) {
	t.Helper()
	want := ""
	for _, n := range clause {
		want += strconv.Itoa(n) + " "
	}
	want += "0"
	text := impl.ClauseText(clause)
	if got, ok := impl.ClauseRead(text); !ok || text != want || !slices.Equal(got, clause) {
		t.Errorf("%v is written %q and read %v, %v", clause, text, got, ok)
	}
}

func TestClauseReadBack(t *testing.T) {
	eachClause(oddNumbers(), 3, func(clause []int) {
		if rightWanted(clause, 700) {
			textBack(t, clause)
		} else if text := impl.ClauseText(clause); text != "" {
			t.Errorf("ClauseText(%v) = %q", clause, text)
		}
	})
	m := maker{seed: 44444}
	for n := 1; n <= 700; n++ {
		textBack(t, []int{n})
		textBack(t, []int{-n})
		textBack(t, marksTo(n))
		textBack(t, m.clause(n, 1+m.below(40)))
	}
	all := make([]int, 700)
	for i := range all {
		all[i] = -i - 1
	}
	textBack(t, all)
	if text := impl.ClauseText(all); len(text) != 9*3+90*4+601*5+1 {
		t.Errorf("the longest text there is has %d bytes", len(text))
	}
}

// TestClauseTextWrong has clauses of which some are right among all marks, if not among a few.
func TestClauseTextWrong(t *testing.T) {
	long := [][]int{marksTo(701), {701}, {-701}, {700, 701}, {-700, -701}, append(marksTo(700), 700), append(marksTo(700), 0), append([]int{0}, marksTo(700)...)}
	for _, clause := range append(wrongClauses(), long...) {
		if rightWanted(clause, 700) {
			textBack(t, clause)
		} else if text := impl.ClauseText(clause); text != "" {
			t.Errorf("ClauseText(%v) = %.40q", clause, text)
		}
	}
}

func TestClauseReadWrong(t *testing.T) {
	for _, text := range []string{
		"", " ", "-", "1", "-1", "1 ", "00", "-0", "+0", "0 ", " 0", "0 0", "0\n", "0\x00", "0-", "0.", "- 0", "-0 0", "00 0", "01 0", "-01 0", "001 0", "+1 0", "--1 0", "1- 0", "1-0", "-1-2 0", "- 1 0", "1 -", "1 -0", "1 - 0", "1 00", "1 0 ", "1 0 0", " 1 0", "1  0", "1  2 0", "1 2  0", "1\t0", "1\n0", "1,2 0", "1 2", "1 2 ", "10", "1 0 2 0", "0 1 0",
		"1 1 0", "1 -1 0", "-1 1 0", "-1 -1 0", "2 1 0", "-2 1 0", "2 -1 0", "1 3 2 0", "10 9 0", "700 700 0",
		"701 0", "-701 0", "1 701 0", "1 -701 0", "1000 0", "7000 0", "0700 0", "07 0", "1 02 0", "1e1 0", "0x1 0", "1_0 0",
		"9223372036854775807 0", "-9223372036854775808 0", "9223372036854775808 0", "18446744073709551616 0", "18446744073709551617 0", "-18446744073709551617 0", "4294967297 0", "-4294967297 0", strings.Repeat("1", 500) + " 0",
		"one 0", "a", "#1", "true", "\x80 0", "\xff0", "1 \xff 0", "\u0661 0", "\u22121 0", "\uff11 0", "1\u00a00", "\u00b9 0", "\ufeff0", "0\u0301",
	} {
		noClause(t, text)
		if _, right := readWanted(text); right {
			t.Errorf("the test itself takes %q for a text", text)
		}
	}
}

// TestClauseReadLong has texts that are too long, and such as are not but look like it.
func TestClauseReadLong(t *testing.T) {
	longest := impl.ClauseText(marksTo(700))
	for _, many := range []int{5999, 6000, 6001, 6002, 20000} {
		for _, text := range []string{
			strings.Repeat("0", many), strings.Repeat(" ", many), strings.Repeat("-", many), strings.Repeat("1", many),
			strings.Repeat("0", many-2) + " 0", strings.Repeat("0", many-3) + "1 0", strings.Repeat(" ", many-1) + "0", "0" + strings.Repeat(" ", many-1), "0" + strings.Repeat("\x00", many-1),
			strings.Repeat("1 ", many/2) + "0", strings.Repeat("-", many-3) + "1 0", longest + strings.Repeat(" ", many-len(longest)), strings.Repeat(" ", many-len(longest)) + longest, longest + strings.Repeat("0", many-len(longest)),
		} {
			noClause(t, text)
		}
	}
	noClause(t, longest+longest)
	noClause(t, longest+" "+longest)
	readIs(t, longest)
}

// TestClauseReadAll asks every short text of the signs that a clause's text may have, and of one more.
func TestClauseReadAll(t *testing.T) {
	var grow func(text string, most int)
	grow = func(text string, most int) {
		readIs(t, text)
		if most == 0 {
			return
		}
		for _, sign := range []string{"0", "1", "2", "7", "-", " ", "+"} {
			grow(text+sign, most-1)
		}
	}
	grow("", 6)
}

// TestClauseReadChanged has texts in which one sign is another, or is one too many or too few.
func TestClauseReadChanged(t *testing.T) {
	signs := []string{"", "0", "1", "3", "7", "9", "-", " ", "+", ".", "\n", "\t", "\x00", "\xff", "/", ":", "\u0661", "\u00a0", "00", "  ", "--", " 0 ", "-0"}
	m := maker{seed: 444444}
	texts := []string{"0", "1 0", "-1 0", "1 -2 3 0", "-9 10 -99 100 699 -700 0", "70 700 0", "-699 700 0", "2 20 200 0"}
	for range 30 {
		texts = append(texts, impl.ClauseText(m.clause(700, 60+m.below(200))))
	}
	for _, text := range texts {
		readIs(t, text)
		for i := range text {
			for _, sign := range signs {
				readIs(t, text[:i]+sign+text[i:])
				readIs(t, text[:i]+sign+text[i+1:])
			}
			readIs(t, text[:i])
			readIs(t, text[i:])
			if i > 0 {
				readIs(t, text[:i-1]+text[i:i+1]+text[i-1:i]+text[i+1:])
			}
		}
		for _, sign := range signs {
			readIs(t, text+sign)
		}
	}
}

// roomyCnf is clauses that are the same, whose lists have room behind their ends, with something there.
func roomyCnf(c impl.Cnf) impl.Cnf {
	list := [][]int{}
	for _, clause := range c.List {
		list = append(list, append(slices.Clone(clause), 777)[:len(clause)])
	}
	list = append(list, []int{778})
	return impl.Cnf{Many: c.Many, List: list[:len(c.List)]}
}

// stayed says whether clauses are as they were, with what lies behind the ends of their lists.
func stayed(was impl.Cnf, c impl.Cnf) bool {
	behind := c.List[:len(was.List)+1]
	if was.Many != c.Many || len(was.List) != len(c.List) || !slices.Equal(behind[len(was.List)], []int{778}) {
		return false
	}
	for i, clause := range was.List {
		if len(c.List[i]) != len(clause) || !slices.Equal(c.List[i][:len(clause)+1], append(slices.Clone(clause), 777)) {
			return false
		}
	}
	return true
}

// TestCnfArgumentsStay asks that nothing is written into an argument, or behind its end.
func TestCnfArgumentsStay(t *testing.T) {
	m := maker{seed: 5}
	list := []impl.Cnf{{}, {Many: 700, List: clones(marksTo(700), 3)}, {Many: 3, List: wrongClauses()}, {Many: 9, List: [][]int{{5, 1, -5}, {}, nil, {-3, -2}}}}
	for round := range 200 {
		list = append(list, m.cnf(round%12, m.below(9), 1+m.below(3)))
	}
	for _, was := range list {
		c, vals := roomyCnf(was), append(m.vals(max(was.Many, 0)), true, false)
		wasVals := slices.Clone(vals)
		given := vals[:len(vals)-2]
		impl.CnfOk(c)
		impl.CnfSame(c, c)
		impl.CnfSame(c, roomyCnf(was))
		impl.CnfHas(c, given)
		impl.CnfLeast(c)
		for _, clause := range c.List {
			impl.ClauseHas(clause, given)
			impl.ClauseText(clause)
		}
		if !stayed(was, c) || !slices.Equal(vals, wasVals) {
			t.Errorf("an argument was written into: %v", was)
		}
	}
}

// TestCnfAnswerIsNew asks that no two answers share memory, spare room included.
func TestCnfAnswerIsNew(t *testing.T) {
	c := impl.Cnf{Many: 4, List: [][]int{{2}, {-3, 4}, {3}}}
	text := "-1 2 -30 400 0"
	firstVals, _ := impl.CnfLeast(c)
	vals, _ := impl.CnfLeast(c)
	firstClause, _ := impl.ClauseRead(text)
	clause, _ := impl.ClauseRead(text)
	for i := range firstVals[:cap(firstVals)] {
		firstVals[:cap(firstVals)][i] = i%2 == 0
	}
	for i := range firstClause[:cap(firstClause)] {
		firstClause[:cap(firstClause)][i] = 99
	}
	leastIs(t, c, []bool{false, true, true, true})
	if !slices.Equal(vals, []bool{false, true, true, true}) || !slices.Equal(clause, []int{-1, 2, -30, 400}) {
		t.Error("two answers share memory:", vals, clause)
	}
	readIs(t, text)
}

// TestCnfAgain asks that nothing is kept from call to call.
func TestCnfAgain(t *testing.T) {
	for range 3 {
		leastIs(t, impl.Cnf{Many: 2, List: [][]int{{1}, {2}}}, []bool{true, true})
		leastIs(t, impl.Cnf{Many: 2}, []bool{false, false})
		noLeast(t, impl.Cnf{Many: 2, List: [][]int{{}}}, "a clause of nothing")
		leastIs(t, impl.Cnf{}, nil)
		readIs(t, "1 2 0")
		noClause(t, "3 1 0")
		readIs(t, "0")
		noClause(t, "-")
		noClause(t, "1 ")
		readIs(t, "-2 0")
	}
}
