package tests

import (
	"fmt"
	"math"
	"slices"
	"sort"
	"testing"

	"loop.example/seedlip/impl"
)

// bare is a number of a clause without its sign.
func bare(n int) int { return max(n, -n) }

// turnedAll is numbers with their other signs.
func turnedAll(list []int) []int {
	var turned []int
	for _, n := range list {
		turned = append(turned, -n)
	}
	return turned
}

// standing is at which place of Put each number stands.
func standing(put []int) map[int]int {
	at := map[int]int{}
	for i, n := range put {
		at[n] = i
	}
	return at
}

// isLost says whether all numbers of a clause are turned.
func isLost(clause []int, at map[int]int) bool {
	for _, n := range clause {
		if _, is := at[-n]; !is {
			return false
		}
	}
	return true
}

// lastFree is the number of a clause that is free, if all others are turned.
func lastFree(clause []int, at map[int]int) (int, bool) {
	free := []int{}
	for _, n := range clause {
		_, met := at[n]
		_, turned := at[-n]
		if met {
			return 0, false
		}
		if !turned {
			free = append(free, n)
		}
	}
	if len(free) != 1 {
		return 0, false
	}
	return free[0], true
}

// levelAt is the level of what stands at a place of Put.
func levelAt(s impl.Sat, place int) int {
	level := 0
	for _, why := range s.Why[:place+1] {
		if why == -1 {
			level++
		}
	}
	return level
}

// allClauses is those given, and then those learned.
func allClauses(c impl.Cnf, s impl.Sat) [][]int { return slices.Concat(c.List, s.Learned) }

// putWanted says whether Put are marks that there are, each at most once.
func putWanted(put []int, many int) bool {
	left := map[int]int{}
	for m := 1; m <= many; m++ {
		left[m], left[-m] = 1, 1
	}
	for _, n := range put {
		if left[n] == 0 {
			return false
		}
		left[n], left[-n] = 0, 0
	}
	return true
}

// satOkWanted goes through the parts of what makes a search ok, one by one.
func satOkWanted(c impl.Cnf, s impl.Sat) bool {
	if !impl.CnfOk(c) || len(s.Learned) > 300 || s.Code < 0 || s.Code > 3 || len(s.Put) != len(s.Why) || !putWanted(s.Put, c.Many) {
		return false
	}
	for _, clause := range s.Learned {
		if !rightWanted(clause, c.Many) {
			return false
		}
	}
	list, ahead := allClauses(c, s), map[int]int{}
	for i, why := range s.Why {
		if why < -1 || why >= len(list) {
			return false
		}
		if why >= 0 {
			if n, due := lastFree(list[why], ahead); !due || n != s.Put[i] {
				return false
			}
		}
		ahead[s.Put[i]] = i
	}
	return true
}

// sameSat says whether two searches are the same.
func sameSat(a impl.Sat, b impl.Sat) bool {
	if a.Code != b.Code || len(a.Learned) != len(b.Learned) || !slices.Equal(a.Put, b.Put) || !slices.Equal(a.Why, b.Why) {
		return false
	}
	for i, clause := range a.Learned {
		if !slices.Equal(clause, b.Learned[i]) {
			return false
		}
	}
	return true
}

// copySat is a search of its own memory.
func copySat(s impl.Sat) impl.Sat {
	s.Put, s.Why, s.Learned = slices.Clone(s.Put), slices.Clone(s.Why), slices.Clone(s.Learned)
	for i, clause := range s.Learned {
		s.Learned[i] = slices.Clone(clause)
	}
	return s
}

// levelsWanted is the level of each number of a clause whose numbers are all turned.
func levelsWanted(s impl.Sat, clause []int, at map[int]int) []int {
	levels := []int{}
	for _, n := range clause {
		levels = append(levels, levelAt(s, at[-n]))
	}
	return levels
}

// lessonWanted takes clauses together till one number is of the greatest level, and tells the greatest of the other levels too.
func lessonWanted(list [][]int, s impl.Sat, clause []int) ([]int, int) {
	at := standing(s.Put)
	clause = slices.Clone(clause)
	for {
		levels := levelsWanted(s, clause, at)
		top := slices.Max(levels)
		last, peers := -1, 0
		for i, n := range clause {
			if levels[i] == top {
				peers++
				last = max(last, at[-n])
			}
		}
		if peers == 1 {
			slices.SortFunc(clause, func(a int, b int) int { return bare(a) - bare(b) })
			slices.Sort(levels)
			return clause, append([]int{0}, levels[:len(levels)-1]...)[len(levels)-1]
		}
		clause = append(clause, list[s.Why[last]]...)
		clause = slices.DeleteFunc(clause, func(n int) bool { return bare(n) == bare(s.Put[last]) })
		slices.Sort(clause)
		clause = slices.Compact(clause)
	}
}

// stepWanted is a step as the document has it, reckoned from all clauses each time.
func stepWanted(c impl.Cnf, s impl.Sat) impl.Sat {
	if !satOkWanted(c, s) {
		return impl.Sat{Code: 4}
	}
	s = copySat(s)
	if s.Code != 0 {
		return s
	}
	list, at := allClauses(c, s), standing(s.Put)
	for _, clause := range list {
		if isLost(clause, at) {
			return clashWanted(c, s, clause)
		}
	}
	for i, clause := range list {
		if n, due := lastFree(clause, at); due {
			s.Put, s.Why = append(s.Put, n), append(s.Why, i)
			return s
		}
	}
	for m := 1; m <= c.Many; m++ {
		_, so := at[m]
		_, not := at[-m]
		if !so && !not {
			s.Put, s.Why = append(s.Put, -m), append(s.Why, -1)
			return s
		}
	}
	s.Code = 1
	return s
}

// clashWanted is a step at a clause of which all numbers are turned.
func clashWanted(c impl.Cnf, s impl.Sat, clause []int) impl.Sat {
	levels := levelsWanted(s, clause, standing(s.Put))
	if len(levels) == 0 || slices.Max(levels) == 0 {
		s.Code = 2
		return s
	}
	if len(s.Learned) == 300 {
		s.Code = 3
		return s
	}
	learned, back := lessonWanted(allClauses(c, s), s, clause)
	stay := 0
	for stay < len(s.Put) && levelAt(s, stay) <= back {
		stay++
	}
	s.Put, s.Why, s.Learned = s.Put[:stay], s.Why[:stay], append(s.Learned, learned)
	return s
}

// unitWanted is what must be so, reckoned from all clauses each time.
func unitWanted(list [][]int, put []int) ([]int, bool) {
	put = slices.Clone(put)
	for {
		at := standing(put)
		if slices.ContainsFunc(list, func(clause []int) bool { return isLost(clause, at) }) {
			return put, true
		}
		place := slices.IndexFunc(list, func(clause []int) bool { _, due := lastFree(clause, at); return due })
		if place < 0 {
			return put, false
		}
		n, _ := lastFree(list[place], at)
		put = append(put, n)
	}
}

// rupWanted says whether a clause follows by what must be so alone.
func rupWanted(c impl.Cnf, clause []int) bool {
	if !impl.CnfOk(c) || !rightWanted(clause, c.Many) {
		return false
	}
	_, clash := unitWanted(c.List, turnedAll(clause))
	return clash
}

// proofWanted says whether each of some clauses follows by what must be so alone from those ahead of it.
func proofWanted(c impl.Cnf, list [][]int) bool {
	if !impl.CnfOk(c) || len(list) > 300 {
		return false
	}
	for i, clause := range list {
		if !rightWanted(clause, c.Many) {
			return false
		}
		if _, clash := unitWanted(slices.Concat(c.List, list[:i]), turnedAll(clause)); !clash {
			return false
		}
	}
	return true
}

// search is a search that is ok, though no run of steps need lead to it.
func (m *maker) search(c impl.Cnf) impl.Sat {
	s := impl.Sat{}
	for range m.below(4) {
		s.Learned = append(s.Learned, m.clause(c.Many, 1+m.below(3)))
	}
	list := allClauses(c, s)
	for range m.below(c.Many + 2) {
		at := standing(s.Put)
		if len(list) > 0 && m.below(3) > 0 {
			why := m.below(len(list))
			if n, due := lastFree(list[why], at); due {
				s.Put, s.Why = append(s.Put, n), append(s.Why, why)
				continue
			}
		}
		if n := m.number(c.Many); n != 0 && !slices.Contains(s.Put, n) && !slices.Contains(s.Put, -n) {
			s.Put, s.Why = append(s.Put, n), append(s.Why, -1)
		}
	}
	return s
}

// number is one of so many marks, turned or not; 0, if there are none.
func (m *maker) number(many int) int {
	if many == 0 {
		return 0
	}
	return (1 + m.below(many)) * (1 - 2*m.below(2))
}

// short is a clause of so many numbers, or of all marks, if there are fewer.
func (m *maker) short(many int, size int) []int {
	signed := map[int]int{}
	for len(signed) < min(size, many) {
		n := m.number(many)
		signed[bare(n)] = n
	}
	clause := []int{}
	for k := 1; k <= many; k++ {
		if signed[k] != 0 {
			clause = append(clause, signed[k])
		}
	}
	return clause
}

// shortCnf is clauses of so many numbers, or of all marks, if there are fewer.
func (m *maker) shortCnf(many int, clauses int, size int) impl.Cnf {
	c := impl.Cnf{Many: many}
	for range clauses {
		c.List = append(c.List, m.short(many, size))
	}
	return c
}

// eachSearch calls with clauses of few marks, and searches of them that are ok.
func eachSearch(rounds int, do func(m *maker, c impl.Cnf, s impl.Sat)) {
	m := maker{seed: 55}
	for round := range rounds {
		c := m.cnf(round%9, m.below(8), 1+m.below(4))
		if round%2 == 0 {
			c = m.shortCnf(round%9, m.below(3+2*(round%9)), 2+round%3)
		}
		do(&m, c, m.search(c))
	}
}

// firstWay is the first way there is, found mark by mark, and whether there is one.
func firstWay(c impl.Cnf) ([]bool, bool) {
	vals, at := []bool{}, map[int]int{}
	var find func(m int) bool
	find = func(m int) bool {
		if slices.ContainsFunc(c.List, func(clause []int) bool { return isLost(clause, at) }) {
			return false
		}
		if m > c.Many {
			return true
		}
		for _, n := range []int{-m, m} {
			vals = append(vals, n > 0)
			at[n] = m
			if find(m + 1) {
				return true
			}
			delete(at, n)
			vals = vals[:m-1]
		}
		return false
	}
	found := find(1)
	return vals, found
}

// brief is the beginning of what could be very long.
func brief(v any) string { return fmt.Sprintf("%.300s", fmt.Sprint(v)) }

// steps asks what a step does.
func steps(t *testing.T, c impl.Cnf, s impl.Sat, want impl.Sat) {
	t.Helper()
	if got := impl.SatStep(c, s); !sameSat(got, want) {
		t.Errorf("SatStep(%s, %s) = %s, want %s", brief(c), brief(s), brief(got), brief(want))
	}
	if wanted := stepWanted(c, s); !sameSat(wanted, want) {
		t.Errorf("the test's own step from %s, %s is to %s, want %s", brief(c), brief(s), brief(wanted), brief(want))
	}
}

// notOk asks that a search is not ok, and what is told of such a one.
func notOk(t *testing.T, c impl.Cnf, s impl.Sat, why string) {
	t.Helper()
	if impl.SatOk(c, s) {
		t.Errorf("ok, but is not (%s): %s", why, brief(s))
	}
	if vals := impl.SatVals(c, s); len(vals) != 0 {
		t.Errorf("SatVals, %s: %s", why, brief(vals))
	}
	if got := impl.SatStep(c, s); !sameSat(got, impl.Sat{Code: impl.SatForm}) {
		t.Errorf("SatStep, %s: %s", why, brief(got))
	}
}

// isOk asks that a search is ok.
func isOk(t *testing.T, c impl.Cnf, s impl.Sat, why string) {
	t.Helper()
	if !impl.SatOk(c, s) {
		t.Errorf("not ok, but is (%s): %s", why, brief(s))
	}
	if vals := impl.SatVals(c, s); len(vals) != c.Many {
		t.Errorf("SatVals, %s: %s", why, brief(vals))
	}
	if got := impl.SatStep(c, s); got.Code == impl.SatForm {
		t.Errorf("SatStep, %s: %s", why, brief(got))
	}
}

// wholeCnf is all clauses that have all of so many marks, so that there is no way.
func wholeCnf(many int) impl.Cnf {
	c := impl.Cnf{Many: many}
	for _, vals := range allVals(many) {
		c.List = append(c.List, unmet(vals))
	}
	return c
}

// slowCnf is clauses of which each second one clashes behind all marks that are free, so that each of these is put once more.
func slowCnf(free int, pairs int) impl.Cnf {
	c := impl.Cnf{Many: free + 2*pairs}
	for m := free + 1; m < c.Many; m += 2 {
		c.List = append(c.List, []int{m, m + 1}, []int{m, -m - 1})
	}
	return c
}

// holesCnf is clauses that want each of some birds in one of some holes, and no two in one.
func holesCnf(birds int, holes int) impl.Cnf {
	c := impl.Cnf{Many: birds * holes}
	for b := range birds {
		clause := []int{}
		for h := range holes {
			clause = append(clause, b*holes+h+1)
		}
		c.List = append(c.List, clause)
	}
	for h := range holes {
		for b := range birds {
			for a := range b {
				c.List = append(c.List, []int{-(a*holes + h + 1), -(b*holes + h + 1)})
			}
		}
	}
	return c
}

// chainCnf is clauses by which each mark wants the next.
func chainCnf(many int) impl.Cnf {
	c := impl.Cnf{Many: many}
	for m := 1; m < many; m++ {
		c.List = append(c.List, []int{-m, m + 1})
	}
	return c
}

func TestSatConstants(t *testing.T) {
	if impl.SatGoes != 0 || impl.SatYes != 1 || impl.SatNo != 2 || impl.SatMuch != 3 || impl.SatForm != 4 {
		t.Error("codes are not as the document has them")
	}
	if impl.LearnMost != 300 || impl.SatFuel != 4000 {
		t.Error("bounds are not as the document has them")
	}
}

// fourMarks is clauses that searches are held against below.
func fourMarks() impl.Cnf {
	return impl.Cnf{Many: 4, List: [][]int{{1, 2}, {-2, 3}, {-1, -3, 4}, {4}, {}}}
}

func TestSatOkRight(t *testing.T) {
	c := fourMarks()
	learned := [][]int{{-2}, {1}, {}, {-1, -2, 4}}
	for _, s := range []impl.Sat{
		{}, {Put: []int{}, Why: []int{}, Learned: [][]int{}}, {Code: 1}, {Code: 2}, {Code: 3}, {Learned: learned},
		{Put: []int{1}, Why: []int{-1}}, {Put: []int{-1}, Why: []int{-1}}, {Put: []int{4}, Why: []int{-1}}, {Put: []int{-4}, Why: []int{-1}},
		{Put: []int{4, -2, 3, 1}, Why: []int{-1, -1, -1, -1}}, {Put: []int{1, 2, 3, 4}, Why: []int{-1, -1, -1, -1}, Code: 1},
		{Put: []int{4}, Why: []int{3}}, {Put: []int{-1, 2, 3, 4}, Why: []int{-1, 0, 1, 3}}, {Put: []int{4, -3, -2, 1}, Why: []int{3, -1, 1, 0}},
		{Put: []int{3, 1, 4}, Why: []int{-1, -1, 2}}, {Put: []int{1, 3, 4}, Why: []int{-1, -1, 2}}, {Put: []int{-4, 1, -3}, Why: []int{-1, -1, 2}}, {Put: []int{-4, 3, -1}, Why: []int{-1, -1, 2}},
		{Put: []int{-1, 2}, Why: []int{-1, 0}, Learned: learned}, {Put: []int{-2, 1}, Why: []int{5, 6}, Learned: learned}, {Put: []int{-2, 1}, Why: []int{5, 0}, Learned: learned},
		{Put: []int{-4, 1, -2}, Why: []int{-1, -1, 8}, Learned: learned}, {Put: []int{1, 2, 4}, Why: []int{6, -1, 8}, Learned: learned}, {Put: []int{2, -4, -1}, Why: []int{-1, -1, 8}, Learned: learned},
	} {
		isOk(t, c, s, "written")
		if !satOkWanted(c, s) {
			t.Error("the test itself does not take it for ok:", s)
		}
	}
	isOk(t, impl.Cnf{}, impl.Sat{}, "no marks")
	isOk(t, impl.Cnf{List: [][]int{{}}}, impl.Sat{Learned: [][]int{{}}, Code: 2}, "no marks, and clauses of nothing")
}

// TestSatOkBroken breaks each part alone of a search that is ok.
func TestSatOkBroken(t *testing.T) {
	c := fourMarks()
	right := impl.Sat{Put: []int{-1, 2, 3, 4}, Why: []int{-1, 0, 5, 3}, Learned: [][]int{{-2, 3}, {-1}}}
	isOk(t, c, right, "not yet broken")
	broken := func(why string, change func(s *impl.Sat)) {
		t.Helper()
		s := copySat(right)
		change(&s)
		notOk(t, c, s, why)
		if satOkWanted(c, s) {
			t.Error("the test itself takes it for ok:", why)
		}
	}
	for _, code := range []int{-1, 4, 5, -2, 100, math.MaxInt, math.MinInt, 1 << 32, 1<<32 + 1} {
		broken("a Code out of its bounds", func(s *impl.Sat) { s.Code = code })
	}
	broken("a Why too many", func(s *impl.Sat) { s.Why = append(s.Why, -1) })
	broken("a Why too few", func(s *impl.Sat) { s.Why = s.Why[:3] })
	broken("no Why", func(s *impl.Sat) { s.Why = nil })
	broken("no Put", func(s *impl.Sat) { s.Put = nil })
	broken("a Put too few", func(s *impl.Sat) { s.Put = s.Put[:3] })
	for _, n := range []int{0, 5, -5, 700, -700, 701, math.MaxInt, math.MinInt, math.MinInt + 1, 1<<32 + 4, -1<<32 - 4} {
		broken("a mark that there is not, chosen", func(s *impl.Sat) { s.Put[3], s.Why[3] = n, -1 })
		broken("a mark that there is not, with a Why", func(s *impl.Sat) { s.Put[3] = n })
		broken("a first mark that there is not", func(s *impl.Sat) { s.Put, s.Why = []int{n}, []int{-1} })
	}
	for _, n := range []int{-1, 1, 2, -2, 3, -3} {
		broken("a mark twice", func(s *impl.Sat) { s.Put[3], s.Why[3] = n, -1 })
		broken("a mark twice, behind all others", func(s *impl.Sat) { s.Put, s.Why = append(s.Put, n), append(s.Why, -1) })
	}
	for _, why := range []int{-2, -3, 7, 8, 100, 2500, 2800, math.MaxInt, math.MinInt, 1 << 32, -1 << 32} {
		broken("a Why that is no clause's place", func(s *impl.Sat) { s.Why[3] = why })
		broken("a first Why that is no clause's place", func(s *impl.Sat) { s.Why[0] = why })
	}
	broken("a clause in which the number is not, though all others are turned", func(s *impl.Sat) { s.Learned[1] = []int{1}; s.Why[3] = 6 })
	broken("an empty clause", func(s *impl.Sat) { s.Why[3] = 4 })
	broken("a clause in which the number is with the other sign", func(s *impl.Sat) { s.Put[3] = -4 })
	broken("a clause one of whose others is met", func(s *impl.Sat) { s.Learned[1] = []int{-1, 4}; s.Why[3] = 6 })
	broken("a clause one of whose others is free", func(s *impl.Sat) { s.Put, s.Why = []int{-1, 3}, []int{-1, 1} })
	broken("a clause whose other is turned behind it", func(s *impl.Sat) { s.Put, s.Why = []int{2, -1}, []int{0, -1} })
	broken("a clause whose other is turned far behind it", func(s *impl.Sat) { s.Put, s.Why = []int{2, 3, 4, -1}, []int{0, 1, 3, -1} })
	broken("two that are each other's reason", func(s *impl.Sat) {
		s.Put, s.Why, s.Learned = []int{1, -2}, []int{0, 5}, [][]int{{-1, -2}}
	})
	broken("a clause of three, one turned ahead and one behind", func(s *impl.Sat) { s.Put, s.Why = []int{1, 4, 3}, []int{-1, 2, -1} })
	for _, wrong := range wrongClauses() {
		if !rightWanted(wrong, 4) {
			broken("a learned clause that is not right", func(s *impl.Sat) { s.Learned = append(s.Learned, wrong) })
			broken("a learned clause that is not right, ahead of others", func(s *impl.Sat) { s.Learned = [][]int{{-2, 3}, wrong, {-1}} })
			broken("a learned clause that is not right, alone", func(s *impl.Sat) { *s = impl.Sat{Learned: [][]int{wrong}} })
		}
	}
	for _, wrong := range wrongCnfs() {
		notOk(t, wrong, impl.Sat{}, "clauses that are not ok")
		notOk(t, wrong, impl.Sat{Code: 2}, "clauses that are not ok, at an end")
	}
	notOk(t, impl.Cnf{Many: 4, List: [][]int{{1, 2}, {-2, 3}, {4, -1}, {4}, {}}}, right, "a clause that no one needs is not right")
}

// TestSatOkLearned has as many learned clauses as there may be, and one more.
func TestSatOkLearned(t *testing.T) {
	c := impl.Cnf{Many: 4, List: clones([]int{1, 2}, 2500)}
	for _, many := range []int{0, 1, 299, 300, 301, 302, 600} {
		s := impl.Sat{Learned: clones([]int{-3, 4}, many)}
		for code := range 4 {
			s.Code = code
			if many <= 300 {
				isOk(t, c, s, "few enough learned")
			} else {
				notOk(t, c, s, "too many learned")
			}
		}
	}
	s := impl.Sat{Learned: clones([]int{3, 4}, 300), Put: []int{-3, 4}, Why: []int{-1, 2799}}
	isOk(t, c, s, "the last clause there can be")
	s.Why[1] = 2500
	isOk(t, c, s, "the first that was learned")
	s.Why[1] = 2499
	notOk(t, c, s, "the last that was given")
	s.Why[1] = 2800
	notOk(t, c, s, "behind the last clause there can be")
	for place := range 300 {
		s := impl.Sat{Learned: clones([]int{-3, 4}, 300)}
		s.Learned[place] = [][]int{{0}, {5}, {-5}, {2, 1}, {3, -3}}[place%5]
		notOk(t, c, s, "one learned clause that is not right")
	}
}

// TestSatOkAll asks every short search of a few clauses.
func TestSatOkAll(t *testing.T) {
	for _, c := range []impl.Cnf{
		{Many: 2, List: [][]int{{1, 2}, {-1}}}, {Many: 2, List: [][]int{{}, {-1, 2}}}, {Many: 3, List: [][]int{{1, 2, 3}, {-2, 3}}}, {Many: 1, List: [][]int{{1}}}, {Many: 0, List: [][]int{{}}},
	} {
		for _, learned := range [][][]int{nil, {{-2}}, {{1}, {-1, -2}}} {
			eachClause([]int{0, 1, -1, 2, -2, 3, -3, math.MinInt}, 3, func(put []int) {
				eachClause([]int{-2, -1, 0, 1, 2, 3, 4}, len(put), func(why []int) {
					s := impl.Sat{Put: put, Why: why, Learned: learned}
					if got, want := impl.SatOk(c, s), satOkWanted(c, s); got != want {
						t.Errorf("SatOk(%s, %s) = %v", brief(c), brief(s), got)
					}
				})
			})
		}
	}
}

// TestSatOkChanged has searches that are ok, and then such as have one part changed.
func TestSatOkChanged(t *testing.T) {
	right, wrong := 0, 0
	eachSearch(4000, func(m *maker, c impl.Cnf, s impl.Sat) {
		if !impl.SatOk(c, s) {
			t.Errorf("not ok, but is: %s, %s", brief(c), brief(s))
		}
		for range 6 {
			s := copySat(s)
			if len(s.Put) > 0 {
				i := m.below(len(s.Put))
				k := m.below(len(s.Put))
				switch m.below(6) {
				case 0:
					s.Put[i] = -s.Put[i]
				case 1:
					s.Put[i] = m.number(c.Many + 1)
				case 2:
					s.Why[i] = m.below(len(c.List)+len(s.Learned)+2) - 1
				case 3:
					s.Put[i], s.Put[k], s.Why[i], s.Why[k] = s.Put[k], s.Put[i], s.Why[k], s.Why[i]
				case 4:
					s.Put, s.Why = slices.Delete(s.Put, i, i+1), slices.Delete(s.Why, i, i+1)
				case 5:
					s.Put, s.Why = append(s.Put, m.number(c.Many)), append(s.Why, m.below(3)-1)
				}
			}
			want := satOkWanted(c, s)
			if impl.SatOk(c, s) != want {
				t.Errorf("SatOk(%s, %s) is not %v", brief(c), brief(s), want)
			}
			if want {
				right++
			} else {
				wrong++
			}
			if got := impl.SatStep(c, s); !sameSat(got, stepWanted(c, s)) {
				t.Errorf("SatStep(%s, %s) = %s", brief(c), brief(s), brief(got))
			}
		}
	})
	if right < 3000 || wrong < 3000 {
		t.Error("too few of a kind:", right, wrong)
	}
}

// TestSatSame has searches, ok or not, each two of which differ in one part at least.
func TestSatSame(t *testing.T) {
	list := []impl.Sat{
		{}, {Code: 1}, {Code: 4}, {Code: -1}, {Code: math.MinInt}, {Code: 1 << 32},
		{Put: []int{1}}, {Why: []int{1}}, {Learned: [][]int{{1}}}, {Learned: [][]int{{}}}, {Learned: [][]int{{}, {}}}, {Learned: [][]int{{}, {1}}}, {Learned: [][]int{{1}, {}}}, {Put: []int{0}}, {Why: []int{0}},
		{Put: []int{1, -2}, Why: []int{-1, 0}, Learned: [][]int{{1, 2}, {-3}}},
		{Put: []int{1, -2}, Why: []int{-1, 0}, Learned: [][]int{{1, 2}, {-3}}, Code: 1},
		{Put: []int{1, 2}, Why: []int{-1, 0}, Learned: [][]int{{1, 2}, {-3}}}, {Put: []int{-1, -2}, Why: []int{-1, 0}, Learned: [][]int{{1, 2}, {-3}}}, {Put: []int{-2, 1}, Why: []int{-1, 0}, Learned: [][]int{{1, 2}, {-3}}},
		{Put: []int{1}, Why: []int{-1, 0}, Learned: [][]int{{1, 2}, {-3}}}, {Put: []int{1, -2, 3}, Why: []int{-1, 0}, Learned: [][]int{{1, 2}, {-3}}}, {Put: nil, Why: []int{-1, 0}, Learned: [][]int{{1, 2}, {-3}}},
		{Put: []int{1, -2}, Why: []int{-1, 1}, Learned: [][]int{{1, 2}, {-3}}}, {Put: []int{1, -2}, Why: []int{0, 0}, Learned: [][]int{{1, 2}, {-3}}}, {Put: []int{1, -2}, Why: []int{-1}, Learned: [][]int{{1, 2}, {-3}}}, {Put: []int{1, -2}, Why: []int{-1, 0, 0}, Learned: [][]int{{1, 2}, {-3}}}, {Put: []int{1, -2}, Learned: [][]int{{1, 2}, {-3}}},
		{Put: []int{1, -2}, Why: []int{-1, 0}, Learned: [][]int{{1, 2}, {3}}}, {Put: []int{1, -2}, Why: []int{-1, 0}, Learned: [][]int{{1, -2}, {-3}}}, {Put: []int{1, -2}, Why: []int{-1, 0}, Learned: [][]int{{1}, {2, -3}}}, {Put: []int{1, -2}, Why: []int{-1, 0}, Learned: [][]int{{1, 2, -3}}}, {Put: []int{1, -2}, Why: []int{-1, 0}, Learned: [][]int{{-3}, {1, 2}}}, {Put: []int{1, -2}, Why: []int{-1, 0}, Learned: [][]int{{1, 2}}}, {Put: []int{1, -2}, Why: []int{-1, 0}, Learned: [][]int{{1, 2}, {-3}, {}}}, {Put: []int{1, -2}, Why: []int{-1, 0}, Learned: [][]int{{1, 2}, {-3}, {-3}}}, {Put: []int{1, -2}, Why: []int{-1, 0}, Learned: [][]int{{1, 2}, {}}}, {Put: []int{1, -2}, Why: []int{-1, 0}, Learned: [][]int{{1, 2}, {-3, 4}}}, {Put: []int{1, -2}, Why: []int{-1, 0}},
		{Put: []int{1, -2}, Why: []int{-1, 0}, Learned: clones(nil, 300)}, {Put: []int{1, -2}, Why: []int{-1, 0}, Learned: clones(nil, 301)},
		{Put: []int{math.MinInt}}, {Put: []int{math.MaxInt}}, {Why: []int{math.MinInt}}, {Learned: [][]int{{math.MinInt}}}, {Put: []int{1<<32 + 1}},
	}
	for i, a := range list {
		for k, b := range list {
			if impl.SatSame(a, roomySat(b)) != (i == k) {
				t.Error("SatSame:", i, k)
			}
		}
	}
	if !impl.SatSame(impl.Sat{}, impl.Sat{Put: []int{}, Why: []int{}, Learned: [][]int{}}) || !impl.SatSame(impl.Sat{Learned: [][]int{nil}}, impl.Sat{Learned: [][]int{{}}}) {
		t.Error("the empty list and the nil list are the same value")
	}
}

func TestSatVals(t *testing.T) {
	c := fourMarks()
	for _, e := range []struct {
		s    impl.Sat
		want []bool
	}{
		{impl.Sat{}, []bool{false, false, false, false}},
		{impl.Sat{Put: []int{1}, Why: []int{-1}}, []bool{true, false, false, false}},
		{impl.Sat{Put: []int{-1}, Why: []int{-1}}, []bool{false, false, false, false}},
		{impl.Sat{Put: []int{4, -2, 3}, Why: []int{3, -1, -1}}, []bool{false, false, true, true}},
		{impl.Sat{Put: []int{-1, 2, 3, 4}, Why: []int{-1, 0, 1, 3}, Code: 1}, []bool{false, true, true, true}},
		{impl.Sat{Put: []int{4, 3, 2, 1}, Why: []int{-1, -1, -1, -1}, Code: 2}, []bool{true, true, true, true}},
		{impl.Sat{Put: []int{-4, 3, -2, 1}, Why: []int{-1, -1, -1, -1}, Code: 3}, []bool{true, false, true, false}},
	} {
		if got := impl.SatVals(c, e.s); !slices.Equal(got, e.want) {
			t.Errorf("SatVals(%s) = %s", brief(e.s), brief(got))
		}
	}
	eachSearch(2000, func(m *maker, c impl.Cnf, s impl.Sat) {
		s.Code = m.below(4)
		want := make([]bool, c.Many)
		for i := range want {
			want[i] = slices.Contains(s.Put, i+1)
		}
		if got := impl.SatVals(c, s); !slices.Equal(got, want) {
			t.Errorf("SatVals(%s, %s) = %s", brief(c), brief(s), brief(got))
		}
	})
	if vals := impl.SatVals(impl.Cnf{Many: 700}, impl.Sat{Put: []int{700, -1}, Why: []int{-1, -1}}); len(vals) != 700 || !vals[699] || slices.Contains(vals[:699], true) {
		t.Error("SatVals of 700 marks:", vals)
	}
}

// TestSatStepEnded asks that a search that has ended stays as it is, whatever could be done.
func TestSatStepEnded(t *testing.T) {
	for _, s := range []impl.Sat{
		{}, {Put: []int{-1}, Why: []int{-1}}, {Put: []int{-1, -2}, Why: []int{-1, -1}, Learned: [][]int{{3}, {}}}, {Put: []int{1, 2, 3, 4}, Why: []int{-1, -1, -1, -1}},
	} {
		for _, code := range []int{1, 2, 3} {
			s.Code = code
			steps(t, fourMarks(), s, s)
			steps(t, impl.Cnf{Many: 4}, s, s)
		}
	}
}

// TestSatStepNo has clauses that are turned wholly by nothing that was chosen.
func TestSatStepNo(t *testing.T) {
	for _, e := range []struct {
		c impl.Cnf
		s impl.Sat
	}{
		{impl.Cnf{List: [][]int{{}}}, impl.Sat{}},
		{impl.Cnf{Many: 2, List: [][]int{{1}, {}}}, impl.Sat{}},
		{impl.Cnf{Many: 2, List: [][]int{{1}}}, impl.Sat{Learned: [][]int{{}}}},
		{impl.Cnf{Many: 2, List: [][]int{{1}}}, impl.Sat{Put: []int{-1, -2}, Why: []int{1, -1}, Learned: [][]int{{-1}, {2}}}},
		{impl.Cnf{Many: 1, List: [][]int{{1}, {-1}}}, impl.Sat{Put: []int{1}, Why: []int{0}}},
		{impl.Cnf{Many: 3, List: [][]int{{1}, {-1, 2}, {-1, -2}}}, impl.Sat{Put: []int{1, 2}, Why: []int{0, 1}}},
		{impl.Cnf{Many: 3, List: [][]int{{1}, {-1, 2}, {-1, -2}}}, impl.Sat{Put: []int{1, 2, -3}, Why: []int{0, 1, -1}}},
		// The first of two that are turned wholly is asked alone.
		{impl.Cnf{Many: 3, List: [][]int{{1}, {-1}, {2, 3}}}, impl.Sat{Put: []int{1, -2, -3}, Why: []int{0, -1, -1}}},
		{impl.Cnf{Many: 3, List: [][]int{{2}, {}, {2, 3}}}, impl.Sat{Put: []int{2, -1, -3}, Why: []int{0, -1, -1}}},
	} {
		want := copySat(e.s)
		want.Code = impl.SatNo
		steps(t, e.c, e.s, want)
	}
	full := impl.Sat{Learned: clones([]int{1, 2}, 300)}
	steps(t, impl.Cnf{Many: 2, List: [][]int{{}}}, full, impl.Sat{Learned: full.Learned, Code: impl.SatNo})
	full.Put, full.Why = []int{2, -1}, []int{0, -1}
	steps(t, impl.Cnf{Many: 2, List: [][]int{{2}, {-2}}}, full, impl.Sat{Put: full.Put, Why: full.Why, Learned: full.Learned, Code: impl.SatNo})
}

// TestSatStepMuch meets the bound of learned clauses, and passes it.
func TestSatStepMuch(t *testing.T) {
	c := impl.Cnf{Many: 3, List: [][]int{{1, 2}, {1, -2}}}
	s := impl.Sat{Put: []int{-1, 2}, Why: []int{-1, 0}}
	for _, many := range []int{0, 1, 298, 299} {
		s.Learned = clones([]int{-2, 3}, many)
		steps(t, c, s, impl.Sat{Learned: append(clones([]int{-2, 3}, many), []int{1})})
	}
	s.Learned = clones([]int{-2, 3}, 300)
	steps(t, c, s, impl.Sat{Put: s.Put, Why: s.Why, Learned: s.Learned, Code: impl.SatMuch})
	s.Put, s.Why = []int{-3, -1, 2}, []int{-1, -1, 0}
	steps(t, c, s, impl.Sat{Put: s.Put, Why: s.Why, Learned: s.Learned, Code: impl.SatMuch})
	// All else goes on with as many.
	s.Put, s.Why = []int{2}, []int{-1}
	steps(t, c, s, impl.Sat{Put: []int{2, 1}, Why: []int{-1, 1}, Learned: s.Learned})
	s.Put, s.Why = []int{2, 1}, []int{-1, -1}
	steps(t, c, s, impl.Sat{Put: []int{2, 1, 3}, Why: []int{-1, -1, 2}, Learned: s.Learned})
	s.Put, s.Why = []int{1, 3}, []int{-1, -1}
	steps(t, c, s, impl.Sat{Put: []int{1, 3, -2}, Why: []int{-1, -1, -1}, Learned: s.Learned})
	s.Put, s.Why = []int{1, 3, 2}, []int{-1, -1, -1}
	steps(t, c, s, impl.Sat{Put: s.Put, Why: s.Why, Learned: s.Learned, Code: impl.SatYes})
}

// TestSatStepLearn has clashes of which a clause is learned.
func TestSatStepLearn(t *testing.T) {
	for _, e := range []struct {
		c    impl.Cnf
		s    impl.Sat
		want impl.Sat
	}{
		// One number is learned, and nothing stays but what is of level 0.
		{impl.Cnf{Many: 1, List: [][]int{{1}}}, impl.Sat{Put: []int{-1}, Why: []int{-1}}, impl.Sat{Learned: [][]int{{1}}}},
		{impl.Cnf{Many: 3, List: [][]int{{1, 2}, {1, -2}}}, impl.Sat{Put: []int{-1, 2}, Why: []int{-1, 0}}, impl.Sat{Learned: [][]int{{1}}}},
		{impl.Cnf{Many: 3, List: [][]int{{1, 2}, {1, -2}, {3}}}, impl.Sat{Put: []int{3, -1, 2}, Why: []int{2, -1, 0}}, impl.Sat{Put: []int{3}, Why: []int{2}, Learned: [][]int{{1}}}},
		{impl.Cnf{Many: 5, List: [][]int{{3, 4}, {3, -4}, {5}}}, impl.Sat{Put: []int{5, -1, -2, -3, 4}, Why: []int{2, -1, -1, -1, 0}}, impl.Sat{Put: []int{5}, Why: []int{2}, Learned: [][]int{{3}}}},
		// What is of level 0 is in the clause too, and does not keep a level.
		{impl.Cnf{Many: 3, List: [][]int{{3}, {1, 2, -3}, {1, -2}}}, impl.Sat{Put: []int{3, -1, 2}, Why: []int{0, -1, 1}}, impl.Sat{Put: []int{3}, Why: []int{0}, Learned: [][]int{{1, -3}}}},
		// One of the greatest level stays alone at once: the clause is learned as it is.
		{impl.Cnf{Many: 3, List: [][]int{{1, 2}}}, impl.Sat{Put: []int{-1, -2}, Why: []int{-1, -1}}, impl.Sat{Put: []int{-1}, Why: []int{-1}, Learned: [][]int{{1, 2}}}},
		{impl.Cnf{Many: 3, List: [][]int{{1, 2}}}, impl.Sat{Put: []int{-1, -2, -3}, Why: []int{-1, -1, -1}}, impl.Sat{Put: []int{-1}, Why: []int{-1}, Learned: [][]int{{1, 2}}}},
		{impl.Cnf{Many: 3, List: [][]int{{1, 2}}}, impl.Sat{Put: []int{-2, -1, -3}, Why: []int{-1, -1, -1}}, impl.Sat{Put: []int{-2}, Why: []int{-1}, Learned: [][]int{{1, 2}}}},
		{impl.Cnf{Many: 3, List: [][]int{{1, 2}}}, impl.Sat{Put: []int{-2, -3, -1}, Why: []int{-1, -1, -1}}, impl.Sat{Put: []int{-2}, Why: []int{-1}, Learned: [][]int{{1, 2}}}},
		{impl.Cnf{Many: 4, List: [][]int{{1, 2}}}, impl.Sat{Put: []int{-3, -1, 4, -2}, Why: []int{-1, -1, -1, -1}}, impl.Sat{Put: []int{-3, -1}, Why: []int{-1, -1}, Learned: [][]int{{1, 2}}}},
		{impl.Cnf{Many: 4, List: [][]int{{1}}}, impl.Sat{Put: []int{-3, -1, 4, -2}, Why: []int{-1, -1, -1, -1}}, impl.Sat{Learned: [][]int{{1}}}},
		// All of a level that stays stays, also what was put behind the number of the clause.
		{impl.Cnf{Many: 5, List: [][]int{{-1, 2}, {-1, 3}, {-2, 4, 5}, {-2, 4, -5}}}, impl.Sat{Put: []int{1, 2, 3, -4, 5}, Why: []int{-1, 0, 1, -1, 2}}, impl.Sat{Put: []int{1, 2, 3}, Why: []int{-1, 0, 1}, Learned: [][]int{{-2, 4}}}},
		// The last of the greatest level is taken first, not the highest mark.
		{impl.Cnf{Many: 4, List: [][]int{{3, -4}, {2, -3}, {-2, -3, -4}}}, impl.Sat{Put: []int{4, 3, 2}, Why: []int{-1, 0, 1}}, impl.Sat{Learned: [][]int{{-4}}}},
		// It stops at the first where one is left alone, which need not be the one that was chosen.
		{impl.Cnf{Many: 4, List: [][]int{{-1, 2}, {-2, 3}, {-2, 4}, {-3, -4}}}, impl.Sat{Put: []int{1, 2, 3, 4}, Why: []int{-1, 0, 1, 2}}, impl.Sat{Learned: [][]int{{-2}}}},
		// Several clauses are taken together, of several levels, one of them learned.
		{impl.Cnf{Many: 6, List: [][]int{{1, 4}, {2, 5}, {3, -4, 6}, {3, -5, -6}}}, impl.Sat{Put: []int{-1, 4, -2, 5, -3, 6}, Why: []int{-1, 0, -1, 1, -1, 2}}, impl.Sat{Put: []int{-1, 4, -2, 5}, Why: []int{-1, 0, -1, 1}, Learned: [][]int{{3, -4, -5}}}},
		{impl.Cnf{Many: 6, List: [][]int{{1, 4}, {3, -4, 6}, {3, -6}}}, impl.Sat{Put: []int{-1, 4, -2, 5, -3, 6}, Why: []int{-1, 0, -1, 3, -1, 1}, Learned: [][]int{{2, 5}}}, impl.Sat{Put: []int{-1, 4}, Why: []int{-1, 0}, Learned: [][]int{{2, 5}, {3, -4}}}},
		{impl.Cnf{Many: 3, List: [][]int{{1, -2}}}, impl.Sat{Put: []int{-1, 2}, Why: []int{-1, 1}, Learned: [][]int{{1, 2}}}, impl.Sat{Learned: [][]int{{1, 2}, {1}}}},
		// A clause that was learned clashes.
		{impl.Cnf{Many: 3, List: [][]int{{1, 2}}}, impl.Sat{Put: []int{-1, 2}, Why: []int{-1, 0}, Learned: [][]int{{3}, {1, -2}}}, impl.Sat{Learned: [][]int{{3}, {1, -2}, {1}}}},
		// The first of several that clash, and one that is given ahead of one that was learned.
		{impl.Cnf{Many: 3, List: [][]int{{1, 2}, {1, 3}, {2, 3}}}, impl.Sat{Put: []int{-3, -2, -1}, Why: []int{-1, -1, -1}}, impl.Sat{Put: []int{-3, -2}, Why: []int{-1, -1}, Learned: [][]int{{1, 2}}}},
		{impl.Cnf{Many: 3, List: [][]int{{2, 3}, {1, 3}, {1, 2}}}, impl.Sat{Put: []int{-3, -2, -1}, Why: []int{-1, -1, -1}}, impl.Sat{Put: []int{-3}, Why: []int{-1}, Learned: [][]int{{2, 3}}}},
		{impl.Cnf{Many: 3, List: [][]int{{1, 3}}}, impl.Sat{Put: []int{-3, -2, -1}, Why: []int{-1, -1, -1}, Learned: [][]int{{2}, {}}}, impl.Sat{Put: []int{-3}, Why: []int{-1}, Learned: [][]int{{2}, {}, {1, 3}}}},
		{impl.Cnf{Many: 3, List: [][]int{{1, -3}}}, impl.Sat{Put: []int{-3, -2, -1}, Why: []int{-1, -1, -1}, Learned: [][]int{{2, 3}, {}}}, impl.Sat{Put: []int{-3}, Why: []int{-1}, Learned: [][]int{{2, 3}, {}, {2, 3}}}},
		// A clash comes ahead of a number that could be put, and of the end where all are put.
		{impl.Cnf{Many: 3, List: [][]int{{2, 3}, {1}}}, impl.Sat{Put: []int{-1, -2}, Why: []int{-1, -1}}, impl.Sat{Learned: [][]int{{1}}}},
		{impl.Cnf{Many: 2, List: [][]int{{-1}, {2}}}, impl.Sat{Put: []int{1, 2}, Why: []int{-1, -1}}, impl.Sat{Learned: [][]int{{-1}}}},
	} {
		steps(t, e.c, e.s, e.want)
	}
}

// TestSatStepLong learns by taking very many clauses together.
func TestSatStepLong(t *testing.T) {
	// Each mark wants the next, and the last one the first one not: of mark 1 alone is learned.
	c := chainCnf(700)
	c.List = append(c.List, []int{-1, -700})
	s := impl.Sat{}
	for m := 1; m <= 700; m++ {
		s.Put, s.Why = append(s.Put, m), append(s.Why, m-2)
	}
	steps(t, c, s, impl.Sat{Learned: [][]int{{-1}}})
	// The same behind a level that stays, each clause with a number of that level.
	d := impl.Cnf{Many: 700}
	for m := 2; m < 700; m++ {
		d.List = append(d.List, []int{-1, -m, m + 1})
	}
	d.List = append(d.List, []int{-2, -700})
	s.Why[0], s.Why[1] = -1, -1
	for m := 3; m <= 700; m++ {
		s.Why[m-1] = m - 3
	}
	steps(t, d, s, impl.Sat{Put: []int{1}, Why: []int{-1}, Learned: [][]int{{-1, -2}}})
	// A clause of all marks, each of a level of its own.
	all := impl.Sat{}
	for _, n := range marksTo(700) {
		all.Put, all.Why = append(all.Put, -n), append(all.Why, -1)
	}
	steps(t, impl.Cnf{Many: 700, List: [][]int{marksTo(700)}}, all, impl.Sat{Put: all.Put[:699], Why: all.Why[:699], Learned: [][]int{marksTo(700)}})
}

func TestSatStepDue(t *testing.T) {
	for _, e := range []struct {
		c    impl.Cnf
		s    impl.Sat
		n    int
		why  int
		tell string
	}{
		{impl.Cnf{Many: 1, List: [][]int{{1}}}, impl.Sat{}, 1, 0, "a clause of one"},
		{impl.Cnf{Many: 1, List: [][]int{{-1}}}, impl.Sat{}, -1, 0, "a clause of one below 0"},
		{impl.Cnf{Many: 700, List: [][]int{{-700}}}, impl.Sat{}, -700, 0, "the last mark"},
		{impl.Cnf{Many: 3, List: [][]int{{1, 2}, {3}, {2}}}, impl.Sat{}, 3, 1, "the first clause, not the lowest mark"},
		{impl.Cnf{Many: 3, List: [][]int{{3}, {1}, {3}}}, impl.Sat{}, 3, 0, "the first of two that want the same"},
		{impl.Cnf{Many: 3, List: [][]int{{1, 2, 3}, {-3}}}, impl.Sat{Put: []int{-1, -3}, Why: []int{-1, -1}}, 2, 0, "the middle one is free"},
		{impl.Cnf{Many: 3, List: [][]int{{1, 2, 3}, {-3}}}, impl.Sat{Put: []int{-2, -3}, Why: []int{-1, -1}}, 1, 0, "the first one is free"},
		{impl.Cnf{Many: 3, List: [][]int{{1, 2, 3}}}, impl.Sat{Put: []int{-2, -1}, Why: []int{-1, -1}}, 3, 0, "the last one is free"},
		{impl.Cnf{Many: 4, List: [][]int{{1, 2, 3}, {-1, -2, 4}}}, impl.Sat{Put: []int{1, 2}, Why: []int{-1, -1}}, 4, 1, "a clause that has one met wants nothing"},
		{impl.Cnf{Many: 4, List: [][]int{{-1, 2, 3}, {-1, -2, 4}}}, impl.Sat{Put: []int{1, 2}, Why: []int{-1, -1}}, 4, 1, "a clause of one met, one turned and one free wants nothing"},
		{impl.Cnf{Many: 3, List: [][]int{{1, 2, 3}}}, impl.Sat{Learned: [][]int{{2}, {1}}}, 2, 1, "one that was learned"},
		{impl.Cnf{Many: 3, List: [][]int{{1, 2, 3}, {3}}}, impl.Sat{Learned: [][]int{{2}, {1}}}, 3, 1, "one that was given ahead of one that was learned"},
		{impl.Cnf{Many: 3, List: [][]int{{1, 2}, {-1, 3}, {-2, -3}}}, impl.Sat{Put: []int{-1}, Why: []int{-1}}, 2, 0, "the document's way"},
		{impl.Cnf{Many: 3, List: [][]int{{1, 2}, {-1, 3}, {-2, -3}}}, impl.Sat{Put: []int{-1, 2}, Why: []int{-1, 0}}, -3, 2, "and on"},
		{impl.Cnf{Many: 2, List: [][]int{{1}, {-1}}}, impl.Sat{}, 1, 0, "two that can not both be"},
	} {
		want := copySat(e.s)
		want.Put, want.Why = append(want.Put, e.n), append(want.Why, e.why)
		steps(t, e.c, e.s, want)
	}
	c := impl.Cnf{Many: 3, List: clones([]int{1, 2}, 2500)}
	s := impl.Sat{Learned: clones([]int{1, 3}, 300)}
	s.Learned[299] = []int{3}
	want := copySat(s)
	want.Put, want.Why = []int{3}, []int{2799}
	steps(t, c, s, want)
	c.List[2499] = []int{-2}
	want.Put, want.Why = []int{-2}, []int{2499}
	steps(t, c, s, want)
}

// TestSatStepPlaces has the one clause that wants something, and the one that clashes, at each place that there can be.
func TestSatStepPlaces(t *testing.T) {
	c := impl.Cnf{Many: 4, List: clones([]int{1, 2}, 2500)}
	s := impl.Sat{Learned: clones([]int{-1, -2}, 300)}
	for place := 0; place < 2800; place += 1 + place%7 {
		row := &s.Learned
		at := place - 2500
		if at < 0 {
			row, at = &c.List, place
		}
		was := (*row)[at]
		(*row)[at] = []int{3}
		if got := impl.SatStep(c, s); !slices.Equal(got.Put, []int{3}) || !slices.Equal(got.Why, []int{place}) || got.Code != 0 {
			t.Errorf("wanted by the clause at %d: %v, %v", place, got.Put, got.Why)
		}
		(*row)[at] = []int{}
		if got := impl.SatStep(c, s); got.Code != impl.SatNo || len(got.Put) != 0 {
			t.Errorf("a clash of the clause at %d: %v, %d", place, got.Put, got.Code)
		}
		if _, clash := impl.UnitAll(c, nil); clash != (place < 2500) {
			t.Errorf("a clash of the clause at %d: UnitAll tells %v", place, clash)
		}
		(*row)[at] = was
	}
}

func TestSatStepChoose(t *testing.T) {
	for _, e := range []struct {
		many int
		put  []int
		want int
	}{
		{1, nil, -1}, {3, nil, -1}, {3, []int{1}, -2}, {3, []int{-1}, -2}, {3, []int{2}, -1}, {3, []int{3, 1}, -2}, {3, []int{-2, -1}, -3}, {3, []int{2, 3}, -1}, {700, nil, -1}, {700, []int{700}, -1},
	} {
		s := impl.Sat{Put: e.put}
		for range e.put {
			s.Why = append(s.Why, -1)
		}
		want := impl.Sat{Put: append(slices.Clone(e.put), e.want), Why: append(slices.Clone(s.Why), -1)}
		steps(t, impl.Cnf{Many: e.many}, s, want)
		// Clauses with more than one free number, or with one that is met, change nothing.
		if e.many == 3 && len(e.put) < 2 {
			steps(t, impl.Cnf{Many: 3, List: [][]int{{1, 2, 3}, {-1, -2, -3}, {1, -2, 3}, {-1, 2, -3}}}, s, want)
		}
	}
	for many := range 30 {
		s := impl.Sat{}
		for m := 1; m <= many; m++ {
			s.Put, s.Why = append(s.Put, m), append(s.Why, -1)
		}
		steps(t, impl.Cnf{Many: many}, s, impl.Sat{Put: s.Put, Why: s.Why, Code: impl.SatYes})
	}
	// A mark that is in no clause is chosen in its turn.
	steps(t, impl.Cnf{Many: 3, List: [][]int{{1}, {3}}}, impl.Sat{Put: []int{1, 3}, Why: []int{0, 1}}, impl.Sat{Put: []int{1, 3, -2}, Why: []int{0, 1, -1}})
	steps(t, impl.Cnf{Many: 3, List: [][]int{{1}, {3}}}, impl.Sat{Put: []int{1, 3, -2}, Why: []int{0, 1, -1}}, impl.Sat{Put: []int{1, 3, -2}, Why: []int{0, 1, -1}, Code: impl.SatYes})
}

// TestSatStepMade holds steps of searches of all kinds against a reckoning from all clauses.
func TestSatStepMade(t *testing.T) {
	kinds := map[string]int{}
	eachSearch(30000, func(m *maker, c impl.Cnf, s impl.Sat) {
		want := stepWanted(c, s)
		if got := impl.SatStep(c, s); !sameSat(got, want) {
			t.Errorf("SatStep(%s, %s) = %s, want %s", brief(c), brief(s), brief(got), brief(want))
		}
		switch {
		case want.Code == impl.SatNo:
			kinds["no"]++
		case want.Code == impl.SatYes:
			kinds["yes"]++
		case len(want.Learned) > len(s.Learned):
			kinds["learned"]++
			if last := want.Learned[len(s.Learned)]; len(last) == 1 {
				kinds["learned one"]++
			} else if len(last) > 2 {
				kinds["learned several"]++
			}
			if len(want.Put) > 0 && len(want.Put) < len(s.Put)-2 {
				kinds["some stay"]++
			}
			if !slices.ContainsFunc(allClauses(c, s), func(clause []int) bool { return slices.Equal(clause, want.Learned[len(s.Learned)]) }) {
				kinds["together"]++
			}
		case want.Why[len(want.Why)-1] == -1:
			kinds["chosen"]++
		default:
			kinds["due"]++
		}
	})
	for _, kind := range []string{"no", "yes", "learned", "learned one", "learned several", "some stay", "together", "chosen", "due"} {
		if kinds[kind] < 300 {
			t.Error("too few of a kind:", kind, kinds[kind])
		}
	}
}

// runIs asks what a run does, step by step, and that its end is so.
func runIs(t *testing.T, c impl.Cnf) impl.Sat {
	t.Helper()
	far := impl.Sat{}
	for fuel := range 4000 {
		got := impl.SatRun(c, fuel)
		if !sameSat(got, far) || !impl.SatOk(c, got) {
			t.Fatalf("SatRun(%s, %d) = %s, want %s", brief(c), fuel, brief(got), brief(far))
		}
		if far.Code != 0 {
			break
		}
		next := impl.SatStep(c, got)
		if wanted := stepWanted(c, far); !sameSat(next, wanted) {
			t.Fatalf("SatStep(%s, %s) = %s, want %s", brief(c), brief(far), brief(next), brief(wanted))
		}
		far = next
	}
	if got := impl.SatRun(c, 4000); !sameSat(got, far) {
		t.Fatalf("SatRun(%s, 4000) = %s, want %s", brief(c), brief(got), brief(far))
	}
	return far
}

// toldIsSo asks that the end of a run is held against all lists in their order, and that what was learned follows.
func toldIsSo(t *testing.T, c impl.Cnf, s impl.Sat) {
	t.Helper()
	want, right := leastWanted(c)
	if right != (s.Code == impl.SatYes) || right == (s.Code == impl.SatNo) {
		t.Fatalf("of %s is told %d, but a way there is: %v", brief(c), s.Code, right)
	}
	if vals := impl.SatVals(c, s); right && (!slices.Equal(vals, want) || !impl.CnfHas(c, vals)) {
		t.Fatalf("of %s is told %s, want %s", brief(c), brief(vals), brief(want))
	}
	learnedFollow(t, c, s)
	if !right && len(s.Learned) < 300 && !impl.ProofOk(c, append(slices.Clone(s.Learned), nil)) {
		t.Errorf("that there is no way follows not from %s, %s", brief(c), brief(s.Learned))
	}
}

// learnedFollow asks that what was learned is so wherever all clauses have one, and that it follows one behind the other.
func learnedFollow(t *testing.T, c impl.Cnf, s impl.Sat) {
	t.Helper()
	for _, vals := range allVals(c.Many) {
		if !cnfWanted(c, vals) {
			continue
		}
		for _, clause := range s.Learned {
			if !hasWanted(clause, vals) {
				t.Errorf("learned from %s: %s, but %s", brief(c), brief(clause), brief(vals))
			}
		}
	}
	if !impl.ProofOk(c, s.Learned) {
		t.Errorf("not taken for a proof from %s: %s", brief(c), brief(s.Learned))
	}
}

// rightClauses is all clauses that are right among so many marks.
func rightClauses(many int) [][]int {
	list := [][]int{nil}
	for m := 1; m <= many; m++ {
		for _, clause := range slices.Clone(list) {
			list = append(list, append(slices.Clone(clause), m), append(slices.Clone(clause), -m))
		}
	}
	return list
}

// TestSatRunAll runs every list of a few small clauses.
func TestSatRunAll(t *testing.T) {
	for _, e := range []struct{ many, most int }{{0, 2}, {1, 4}, {2, 4}, {3, 2}} {
		clauses := rightClauses(e.many)
		places := []int{}
		for i := range clauses {
			places = append(places, i)
		}
		eachClause(places, e.most, func(picked []int) {
			c := impl.Cnf{Many: e.many}
			for _, i := range picked {
				c.List = append(c.List, clauses[i])
			}
			toldIsSo(t, c, runIs(t, c))
		})
	}
}

// TestSatRunMade runs clauses of up to 10 marks.
func TestSatRunMade(t *testing.T) {
	m := maker{seed: 555}
	yes, no, learned := 0, 0, 0
	for round := range 1500 {
		many := round % 11
		c := m.cnf(many, m.below(4+5*many), 1+m.below(3))
		if round%3 == 0 {
			// Clauses of three, about as many as can be had just so, make a search long.
			c = m.shortCnf(many, 4*many+m.below(2*many+1), 3)
		}
		s := impl.SatRun(c, 4000)
		if round%3 == 0 || round < 300 {
			runIs(t, c)
		}
		toldIsSo(t, c, s)
		if s.Code == impl.SatYes {
			yes++
		} else {
			no++
		}
		learned = max(learned, len(s.Learned))
	}
	if yes < 300 || no < 300 || learned < 8 {
		t.Error("too few of a kind:", yes, no, learned)
	}
}

// TestSatRunMore runs clauses of more marks, held against the first way found mark by mark.
func TestSatRunMore(t *testing.T) {
	m := maker{seed: 5555555}
	yes, no, learned := 0, 0, 0
	for round := range 60 {
		many := 14 + round%13
		c := m.shortCnf(many, 4*many+m.below(many), 3)
		s := impl.SatRun(c, 4000)
		want, right := firstWay(c)
		if right && (s.Code != impl.SatYes || !slices.Equal(impl.SatVals(c, s), want)) || !right && s.Code != impl.SatNo {
			t.Errorf("of %s is told %d, %s, want %s, %v", brief(c), s.Code, brief(s.Put), brief(want), right)
		}
		if !impl.ProofOk(c, s.Learned) || !right && !impl.ProofOk(c, append(s.Learned, nil)) {
			t.Errorf("not taken for a proof from %s: %s", brief(c), brief(s.Learned))
		}
		if right {
			yes++
		} else {
			no++
		}
		learned = max(learned, len(s.Learned))
	}
	if yes < 15 || no < 15 || learned < 30 {
		t.Error("too few of a kind:", yes, no, learned)
	}
}

// TestSatRunWhole has no way, of more and more marks, till too much is to be learned.
func TestSatRunWhole(t *testing.T) {
	for many := range 10 {
		c := wholeCnf(many)
		s := impl.SatRun(c, 4000)
		if s.Code != impl.SatNo || !impl.ProofOk(c, append(slices.Clone(s.Learned), nil)) {
			t.Errorf("all clauses of %d marks: %d, learned %d", many, s.Code, len(s.Learned))
		}
		if many < 6 {
			runIs(t, c)
		}
	}
	for many := 10; many <= 11; many++ {
		c := wholeCnf(many)
		end := impl.SatRun(c, 4000)
		if end.Code != impl.SatMuch || len(end.Learned) != 300 || !impl.SatOk(c, end) || !impl.ProofOk(c, end.Learned) {
			t.Errorf("all clauses of %d marks: %d, learned %d", many, end.Code, len(end.Learned))
		}
		// The bound is met at one step, and passed at one that comes later.
		fuel := sort.Search(4000, func(fuel int) bool { return impl.SatRun(c, fuel).Code != impl.SatGoes })
		for ; fuel > 20 && len(impl.SatRun(c, fuel).Learned) > 298; fuel-- {
			far := impl.SatRun(c, fuel-1)
			if got := impl.SatRun(c, fuel); !sameSat(got, stepWanted(c, far)) || !sameSat(got, impl.SatStep(c, far)) {
				t.Errorf("all clauses of %d marks, fuel %d: %s", many, fuel, brief(got))
			}
		}
	}
}

// TestSatRunOne takes all ways away but one.
func TestSatRunOne(t *testing.T) {
	for many := 1; many <= 7; many++ {
		c := wholeCnf(many)
		for place, vals := range allVals(many) {
			one := impl.Cnf{Many: many, List: slices.Delete(slices.Clone(c.List), place, place+1)}
			s := impl.SatRun(one, 4000)
			if s.Code != impl.SatYes || !slices.Equal(impl.SatVals(one, s), vals) {
				t.Errorf("the only way is %v, but told is %d, %v", vals, s.Code, impl.SatVals(one, s))
			}
		}
	}
}

// TestSatRunHoles has birds in holes: there is a way just if there are as many holes.
func TestSatRunHoles(t *testing.T) {
	for birds := 1; birds <= 5; birds++ {
		for holes := 1; holes <= 5; holes++ {
			c := holesCnf(birds, holes)
			s := impl.SatRun(c, 4000)
			if birds <= holes {
				// The first way has the first bird in the last hole, and so on.
				want := make([]bool, c.Many)
				for b := range birds {
					want[b*holes+holes-1-b] = true
				}
				if s.Code != impl.SatYes || !slices.Equal(impl.SatVals(c, s), want) {
					t.Errorf("%d birds in %d holes: %d, %s", birds, holes, s.Code, brief(s.Put))
				}
			} else if s.Code != impl.SatNo || !impl.ProofOk(c, append(s.Learned, nil)) {
				t.Errorf("%d birds in %d holes: %d, learned %d", birds, holes, s.Code, len(s.Learned))
			}
			if c.Many <= 12 {
				runIs(t, c)
			}
		}
	}
}

func TestSatRunFuel(t *testing.T) {
	form := impl.Sat{Code: impl.SatForm}
	right := []impl.Cnf{{}, {Many: 700}, {Many: 1, List: [][]int{{1}, {-1}}}, {List: [][]int{{}}}, fourMarks(), slowCnf(10, 3)}
	for i, c := range right {
		for _, fuel := range []int{-1, -2, 4001, 4002, 1 << 32, math.MaxInt, math.MinInt, -1 << 32} {
			if got := impl.SatRun(c, fuel); !sameSat(got, form) {
				t.Errorf("%d: SatRun with fuel %d: %s", i, fuel, brief(got))
			}
		}
		for _, fuel := range []int{0, 1, 2, 3, 10, 3999, 4000} {
			if got := impl.SatRun(c, fuel); got.Code == impl.SatForm {
				t.Errorf("%d: SatRun with fuel %d: %s", i, fuel, brief(got))
			}
		}
		if got := impl.SatRun(c, 0); !sameSat(got, impl.Sat{}) {
			t.Errorf("%d: SatRun with no fuel: %s", i, brief(got))
		}
		if got := impl.SatRun(c, 1); !sameSat(got, stepWanted(c, impl.Sat{})) {
			t.Errorf("%d: SatRun with fuel 1: %s", i, brief(got))
		}
	}
	for _, c := range wrongCnfs() {
		for _, fuel := range []int{-1, 0, 1, 4000, 4001} {
			if got := impl.SatRun(c, fuel); !sameSat(got, form) {
				t.Errorf("SatRun of clauses that are not ok, with fuel %d: %s", fuel, brief(got))
			}
		}
	}
}

// TestSatRunEdges has no marks, no clause, and a clause of nothing.
func TestSatRunEdges(t *testing.T) {
	for _, e := range []struct {
		c    impl.Cnf
		fuel int
		want impl.Sat
	}{
		{impl.Cnf{}, 1, impl.Sat{Code: 1}}, {impl.Cnf{}, 4000, impl.Sat{Code: 1}}, {impl.Cnf{List: [][]int{{}}}, 1, impl.Sat{Code: 2}}, {impl.Cnf{List: [][]int{{}, {}}}, 4000, impl.Sat{Code: 2}},
		{impl.Cnf{Many: 2, List: [][]int{{}}}, 4000, impl.Sat{Code: 2}}, {impl.Cnf{Many: 2, List: [][]int{{1}, {2}, {}}}, 4000, impl.Sat{Code: 2}},
		{impl.Cnf{Many: 1}, 1, impl.Sat{Put: []int{-1}, Why: []int{-1}}}, {impl.Cnf{Many: 1}, 2, impl.Sat{Put: []int{-1}, Why: []int{-1}, Code: 1}},
		{impl.Cnf{Many: 2}, 2, impl.Sat{Put: []int{-1, -2}, Why: []int{-1, -1}}}, {impl.Cnf{Many: 2}, 4000, impl.Sat{Put: []int{-1, -2}, Why: []int{-1, -1}, Code: 1}},
		{impl.Cnf{Many: 1, List: [][]int{{1}, {-1}}}, 1, impl.Sat{Put: []int{1}, Why: []int{0}}}, {impl.Cnf{Many: 1, List: [][]int{{1}, {-1}}}, 2, impl.Sat{Put: []int{1}, Why: []int{0}, Code: 2}}, {impl.Cnf{Many: 1, List: [][]int{{-1}, {1}}}, 9, impl.Sat{Put: []int{-1}, Why: []int{0}, Code: 2}},
		{impl.Cnf{Many: 3, List: [][]int{{1, 2}, {1, -2}, {-1, 3}}}, 2, impl.Sat{Put: []int{-1, 2}, Why: []int{-1, 0}}},
		{impl.Cnf{Many: 3, List: [][]int{{1, 2}, {1, -2}, {-1, 3}}}, 3, impl.Sat{Learned: [][]int{{1}}}},
		{impl.Cnf{Many: 3, List: [][]int{{1, 2}, {1, -2}, {-1, 3}}}, 4, impl.Sat{Put: []int{1}, Why: []int{3}, Learned: [][]int{{1}}}},
		{impl.Cnf{Many: 3, List: [][]int{{1, 2}, {1, -2}, {-1, 3}}}, 7, impl.Sat{Put: []int{1, 3, -2}, Why: []int{3, 2, -1}, Learned: [][]int{{1}}, Code: 1}},
		{impl.Cnf{Many: 2, List: [][]int{{1, 2}, {1, -2}, {-1, 2}, {-1, -2}}}, 4000, impl.Sat{Put: []int{1, 2}, Why: []int{4, 2}, Learned: [][]int{{1}}, Code: 2}},
	} {
		if got := impl.SatRun(e.c, e.fuel); !sameSat(got, e.want) {
			t.Errorf("SatRun(%s, %d) = %s, want %s", brief(e.c), e.fuel, brief(got), brief(e.want))
		}
	}
	for _, many := range []int{699, 700} {
		s := impl.Sat{}
		for m := 1; m <= many; m++ {
			s.Put, s.Why = append(s.Put, -m), append(s.Why, -1)
		}
		for _, list := range [][][]int{nil, clones(turnedAll(s.Put), 1)[:0], clones(s.Put, 3)} {
			c := impl.Cnf{Many: many, List: list}
			if got := impl.SatRun(c, many); !sameSat(got, s) {
				t.Errorf("%d marks that are free, fuel for each: %s", many, brief(got))
			}
			s.Code = impl.SatYes
			if got := impl.SatRun(c, many+1); !sameSat(got, s) {
				t.Errorf("%d marks that are free: %s", many, brief(got))
			}
			s.Code = impl.SatGoes
		}
	}
}

// TestSatRunLong has runs that end with the last step that there can be, with one more, and long behind it.
func TestSatRunLong(t *testing.T) {
	for _, e := range []struct{ free, pairs, more, code int }{{564, 6, 6, 1}, {564, 6, 7, 0}, {600, 50, 0, 0}} {
		c := slowCnf(e.free, e.pairs)
		c.Many += e.more
		far := impl.Sat{}
		for range 3998 {
			far = stepWanted(c, far)
		}
		for fuel := 3998; fuel <= 4000; fuel++ {
			if got := impl.SatRun(c, fuel); !sameSat(got, far) || !sameSat(impl.SatStep(c, got), stepWanted(c, far)) {
				t.Errorf("%v, fuel %d: %s", e, fuel, brief(got))
			}
			if fuel < 4000 {
				far = stepWanted(c, far)
			}
		}
		if far.Code != e.code {
			t.Errorf("%v: ends with %d", e, far.Code)
		}
		if e.more == 6 && impl.SatRun(c, 3999).Code != impl.SatGoes {
			t.Error("one step less is enough")
		}
	}
}

// unitIs asks what must be so.
func unitIs(t *testing.T, c impl.Cnf, put []int) ([]int, bool) {
	t.Helper()
	want, wantClash := unitWanted(c.List, put)
	got, clash := impl.UnitAll(c, put)
	if !slices.Equal(got, want) || clash != wantClash {
		t.Errorf("UnitAll(%s, %s) = %s, %v, want %s, %v", brief(c), brief(put), brief(got), clash, brief(want), wantClash)
	}
	return got, clash
}

// noUnit asks that nothing is told.
func noUnit(t *testing.T, c impl.Cnf, put []int, why string) {
	t.Helper()
	if got, clash := impl.UnitAll(c, put); clash || len(got) != 0 {
		t.Errorf("UnitAll, %s: %s, %v", why, brief(got), clash)
	}
}

func TestUnitAllWritten(t *testing.T) {
	three := impl.Cnf{Many: 3, List: [][]int{{1, 2}, {-1, 3}, {-2, -3}}}
	for _, e := range []struct {
		c     impl.Cnf
		put   []int
		want  []int
		clash bool
	}{
		{impl.Cnf{}, nil, nil, false}, {impl.Cnf{List: [][]int{{}}}, nil, nil, true}, {impl.Cnf{Many: 3}, []int{2, -1}, []int{2, -1}, false}, {impl.Cnf{Many: 3}, nil, nil, false},
		{three, nil, nil, false}, {three, []int{-1}, []int{-1, 2, -3}, false}, {three, []int{1}, []int{1, 3, -2}, false}, {three, []int{3}, []int{3, -2, 1}, false}, {three, []int{2}, []int{2, -3, -1}, false},
		{three, []int{-1, -2}, []int{-1, -2}, true}, {three, []int{-2, -1}, []int{-2, -1}, true}, {three, []int{2, 3}, []int{2, 3}, true}, {three, []int{3, 2, 1}, []int{3, 2, 1}, true}, {three, []int{3, 2, -1}, []int{3, 2, -1}, true},
		{three, []int{-1, 2, -3}, []int{-1, 2, -3}, false}, {three, []int{-3, 2}, []int{-3, 2, -1}, false},
		{impl.Cnf{Many: 3, List: [][]int{{1}, {-1}}}, nil, []int{1}, true}, {impl.Cnf{Many: 3, List: [][]int{{-1}, {1}}}, nil, []int{-1}, true}, {impl.Cnf{Many: 3, List: [][]int{{1}, {2}, {-1, -2}, {3}}}, nil, []int{1, 2}, true}, {impl.Cnf{Many: 3, List: [][]int{{3}, {1}, {2}, {-1, -2}}}, nil, []int{3, 1, 2}, true},
		{impl.Cnf{Many: 3, List: [][]int{{1}, {}}}, nil, nil, true}, {impl.Cnf{Many: 3, List: [][]int{{1}, {}}}, []int{2}, []int{2}, true}, {impl.Cnf{Many: 3, List: [][]int{{1}, {-2}}}, []int{2}, []int{2}, true},
		{impl.Cnf{Many: 3, List: [][]int{{1, 2, 3}, {3}, {-1}}}, nil, []int{3, -1}, false}, {impl.Cnf{Many: 4, List: [][]int{{-3, 4}, {-2, 3}, {-1, 2}, {1}}}, nil, []int{1, 2, 3, 4}, false}, {impl.Cnf{Many: 4, List: [][]int{{1}, {-1, 2}, {2, 3}, {4}}}, nil, []int{1, 2, 4}, false},
	} {
		if got, clash := impl.UnitAll(e.c, e.put); !slices.Equal(got, e.want) || clash != e.clash {
			t.Errorf("UnitAll(%s, %s) = %s, %v, want %s, %v", brief(e.c), brief(e.put), brief(got), clash, brief(e.want), e.clash)
		}
		unitIs(t, e.c, e.put)
	}
	long := chainCnf(700)
	got, clash := impl.UnitAll(long, []int{1})
	if len(got) != 700 || got[699] != 700 || clash {
		t.Error("a chain of 700 marks:", got, clash)
	}
	long.List = append(long.List, []int{-1, -700})
	if got, clash := impl.UnitAll(long, []int{1}); len(got) < 2 || !clash {
		t.Error("a chain of 700 marks that clashes:", got, clash)
	}
	unitIs(t, long, []int{1})
	unitIs(t, long, []int{700})
	unitIs(t, long, []int{-350, 351})
}

// TestUnitAllMade holds what must be so against a plain reckoning, with clauses in other orders too.
func TestUnitAllMade(t *testing.T) {
	clashes, goes, longer := 0, 0, 0
	eachSearch(9000, func(m *maker, c impl.Cnf, s impl.Sat) {
		s.Put = s.Put[:m.below(len(s.Put)+1)]
		all, clash := unitIs(t, c, s.Put)
		if clash {
			clashes++
		} else {
			goes++
		}
		if len(all) > len(s.Put)+1 {
			longer++
		}
		for range 3 {
			other := impl.Cnf{Many: c.Many, List: slices.Clone(c.List)}
			for i := range other.List {
				k := m.below(i + 1)
				other.List[i], other.List[k] = other.List[k], other.List[i]
			}
			again, clashed := unitIs(t, other, s.Put)
			if clashed != clash {
				t.Errorf("with clauses in another order a clash is %v: %s, %s", clashed, brief(other), brief(s.Put))
			}
			slices.Sort(again)
			sorted := slices.Sorted(slices.Values(all))
			if !clash && !slices.Equal(again, sorted) {
				t.Errorf("with clauses in another order other numbers must be so: %s, %s", brief(again), brief(sorted))
			}
		}
	})
	if clashes < 500 || goes < 500 || longer < 500 {
		t.Error("too few of a kind:", clashes, goes, longer)
	}
}

func TestUnitAllWrong(t *testing.T) {
	c := impl.Cnf{Many: 3, List: [][]int{{1}, {-1, 2}}}
	eachClause(oddNumbers(), 3, func(put []int) {
		if putWanted(put, 3) {
			unitIs(t, c, put)
		} else {
			noUnit(t, c, put, "put that are not right")
			noUnit(t, impl.Cnf{Many: 3, List: [][]int{{}}}, put, "put that are not right, with a clause of nothing")
		}
	})
	noUnit(t, impl.Cnf{}, []int{1}, "no marks")
	noUnit(t, impl.Cnf{}, []int{-1}, "no marks")
	noUnit(t, impl.Cnf{Many: 700}, []int{701}, "a mark that there is not")
	noUnit(t, impl.Cnf{Many: 700}, append(marksTo(700), 1), "a mark twice, far behind")
	noUnit(t, impl.Cnf{Many: 700}, append(marksTo(700), -1), "a mark twice, far behind")
	if got, clash := impl.UnitAll(impl.Cnf{Many: 700}, marksTo(700)); clash || !slices.Equal(got, marksTo(700)) {
		t.Error("all marks are put:", got, clash)
	}
	for _, wrong := range wrongCnfs() {
		noUnit(t, wrong, nil, "clauses that are not ok")
		noUnit(t, wrong, []int{1}, "clauses that are not ok")
	}
}

func TestRupOkWritten(t *testing.T) {
	d := impl.Cnf{Many: 3, List: [][]int{{1, 2}, {1, -2}, {-1, 3}}}
	four := impl.Cnf{Many: 2, List: [][]int{{1, 2}, {1, -2}, {-1, 2}, {-1, -2}}}
	for _, e := range []struct {
		c      impl.Cnf
		clause []int
		want   bool
	}{
		{d, []int{1}, true}, {d, []int{2}, false}, {d, []int{-1}, false}, {d, nil, false}, {d, []int{1, 2}, true}, {d, []int{1, 3}, true}, {d, []int{1, -3}, true}, {d, []int{-1, 3}, true}, {d, []int{3}, true}, {d, []int{-3}, false}, {d, []int{2, 3}, true}, {d, []int{-2, -3}, false}, {d, []int{-2, 3}, true}, {d, []int{1, 2, 3}, true}, {d, []int{-1, 2, -3}, false},
		{four, nil, false}, {four, []int{1}, true}, {four, []int{-1}, true}, {four, []int{2}, true}, {four, []int{1, 2}, true},
		{impl.Cnf{}, nil, false}, {impl.Cnf{List: [][]int{{}}}, nil, true}, {impl.Cnf{Many: 2, List: [][]int{{}}}, []int{1}, true}, {impl.Cnf{Many: 2, List: [][]int{{1}, {-1}}}, nil, true}, {impl.Cnf{Many: 2, List: [][]int{{1}, {-1}}}, []int{2}, true},
		{impl.Cnf{Many: 2, List: [][]int{{1}}}, nil, false}, {impl.Cnf{Many: 2, List: [][]int{{1}}}, []int{1}, true}, {impl.Cnf{Many: 2, List: [][]int{{1}}}, []int{1, 2}, true}, {impl.Cnf{Many: 2, List: [][]int{{1}}}, []int{-1}, false}, {impl.Cnf{Many: 2, List: [][]int{{1}}}, []int{-1, 2}, false}, {impl.Cnf{Many: 2, List: [][]int{{1, 2}}}, []int{1}, false},
		{impl.Cnf{Many: 700, List: [][]int{marksTo(700)}}, marksTo(700), true}, {impl.Cnf{Many: 700, List: [][]int{marksTo(700)}}, marksTo(699), false}, {impl.Cnf{Many: 700, List: [][]int{marksTo(699)}}, marksTo(700), true}, {chainCnf(700), []int{-1, 700}, true}, {chainCnf(700), []int{1, -700}, false}, {chainCnf(700), []int{-350, 351}, true}, {chainCnf(700), []int{-350, 700}, true}, {chainCnf(700), []int{-351, 350}, false},
	} {
		if got := impl.RupOk(e.c, e.clause); got != e.want {
			t.Errorf("RupOk(%s, %s) = %v", brief(e.c), brief(e.clause), got)
		}
		if got := impl.ProofOk(e.c, [][]int{e.clause}); got != e.want {
			t.Errorf("ProofOk(%s, %s) = %v", brief(e.c), brief(e.clause), got)
		}
	}
}

// TestRupOkWrong has clauses that are not right, and such as are not ok, where all else would follow.
func TestRupOkWrong(t *testing.T) {
	never := impl.Cnf{Many: 3, List: [][]int{{1}, {-1}, {}}}
	eachClause(oddNumbers(), 3, func(clause []int) {
		want := rightWanted(clause, 3)
		if impl.RupOk(never, clause) != want || impl.ProofOk(never, [][]int{clause}) != want || impl.ProofOk(never, [][]int{nil, clause}) != want || impl.ProofOk(never, [][]int{clause, {1}}) != want {
			t.Errorf("%s is not taken for right or wrong as it is (%s)", brief(clause), brief(want))
		}
	})
	for _, wrong := range wrongClauses() {
		if impl.RupOk(never, wrong) || impl.ProofOk(never, [][]int{{1}, wrong, {2}}) {
			t.Error("taken for right:", wrong)
		}
	}
	for i, c := range wrongCnfs() {
		if impl.RupOk(c, nil) || impl.RupOk(c, []int{1}) || impl.RupOk(c, []int{-1, 2}) || impl.ProofOk(c, nil) || impl.ProofOk(c, [][]int{nil}) || impl.ProofOk(c, [][]int{{1}}) {
			t.Error("clauses that are not ok:", i, c.Many, len(c.List))
		}
		if impl.RupOk(impl.Cnf{Many: c.Many, List: append([][]int{{}}, c.List...)}, nil) {
			t.Error("clauses that are not ok, and one of nothing:", i)
		}
	}
}

// TestRupOkMade holds what follows against a plain reckoning and all lists.
func TestRupOkMade(t *testing.T) {
	yes, no, unseen := 0, 0, 0
	m := maker{seed: 5555}
	for round := range 3000 {
		many := round % 7
		c := m.cnf(many, m.below(12), 1+m.below(3))
		if round%2 == 0 {
			c = m.shortCnf(many, 3*many+m.below(3*many+1), 3)
		}
		clause := m.clause(many, 1+m.below(4))
		got := impl.RupOk(c, clause)
		if got != rupWanted(c, clause) {
			t.Errorf("RupOk(%s, %s) = %v", brief(c), brief(clause), got)
		}
		follows := true
		for _, vals := range allVals(many) {
			follows = follows && (!cnfWanted(c, vals) || hasWanted(clause, vals))
		}
		switch {
		case got && !follows:
			t.Errorf("RupOk(%s, %s), but it does not follow", brief(c), brief(clause))
		case got:
			yes++
		case follows:
			unseen++
		default:
			no++
		}
	}
	if yes < 300 || no < 300 || unseen < 20 {
		t.Error("too few of a kind:", yes, no, unseen)
	}
}

// TestProofOkMade holds proofs, and such as are none, against a plain reckoning.
func TestProofOkMade(t *testing.T) {
	yes, no := 0, 0
	m := maker{seed: 55555}
	for round := range 4000 {
		many := round % 7
		c := m.cnf(many, m.below(14), 1+m.below(3))
		list := slices.Clone(impl.SatRun(c, 4000).Learned)
		for range m.below(4) {
			list = slices.Insert(list, m.below(len(list)+1), m.clause(many, 1+m.below(3)))
		}
		want := proofWanted(c, list)
		if got := impl.ProofOk(c, list); got != want {
			t.Errorf("ProofOk(%s, %s) = %v", brief(c), brief(list), got)
		}
		if want && len(list) > 1 {
			yes++
		} else if !want {
			no++
		}
	}
	if yes < 300 || no < 300 {
		t.Error("too few of a kind:", yes, no)
	}
}

// TestProofOkOrder has clauses that follow only from such as stand ahead of them.
func TestProofOkOrder(t *testing.T) {
	four := impl.Cnf{Many: 3, List: [][]int{{1, 2}, {1, -2}, {-1, 2}, {-1, -2}}}
	for _, e := range []struct {
		list [][]int
		want bool
	}{
		{nil, true}, {[][]int{}, true}, {[][]int{{}}, false}, {[][]int{{1}}, true}, {[][]int{{1}, {}}, true}, {[][]int{{}, {1}}, false}, {[][]int{{-1}, {}}, true}, {[][]int{{1}, {-1}, {}}, true}, {[][]int{{3}}, false}, {[][]int{{1}, {3}}, true}, {[][]int{{3}, {1}}, false}, {[][]int{{1}, {}, {3}, {-3}}, true}, {[][]int{{1, 3}, {-3}}, false}, {[][]int{{1, 3}, {1, -3}, {1}, {}}, true}, {[][]int{{1, 3}, {}}, false},
	} {
		if got := impl.ProofOk(four, e.list); got != e.want || proofWanted(four, e.list) != e.want {
			t.Errorf("ProofOk of %s = %s", brief(e.list), brief(got))
		}
	}
	// What is asked of one clause does not stay for the next.
	if impl.ProofOk(impl.Cnf{Many: 3, List: [][]int{{1, 2}, {-2, 3}}}, [][]int{{1, 3}, {3}}) || impl.ProofOk(impl.Cnf{Many: 3, List: [][]int{{1, 2}}}, [][]int{{1, 2}, {1}}) || impl.ProofOk(impl.Cnf{Many: 3, List: [][]int{{1, 2}}}, [][]int{{1, 2}, {1, 2}, {}}) {
		t.Error("what was put for one clause is still there for the next")
	}
}

// TestProofOkMany has more than ClauseMost clauses together, and as many in a list as there may be.
func TestProofOkMany(t *testing.T) {
	for _, given := range []int{2, 2199, 2200, 2201, 2400, 2499, 2500} {
		// From {1, 2} and {1, -2} follows {1}, and with the chain all marks, one behind the other.
		c := impl.Cnf{Many: 700, List: [][]int{{1, 2}, {1, -2}}}
		for m := 1; m < 699 && len(c.List) < given; m++ {
			c.List = append(c.List, []int{-m, -m - 1, m + 2})
		}
		for len(c.List) < given {
			c.List = append(c.List, []int{699, 700})
		}
		list := [][]int{{1}}
		for len(list) < 300 {
			list = append(list, []int{1, len(list) + 1})
		}
		if !impl.ProofOk(c, list) {
			t.Errorf("%d given, and 300", given)
		}
		if impl.ProofOk(c, append(slices.Clone(list), []int{1})) {
			t.Errorf("%d given, and 301", given)
		}
		if impl.ProofOk(c, append(slices.Clone(list[:299]), []int{2})) {
			t.Errorf("%d given, and the last of 300 does not follow", given)
		}
	}
	// All of the list follow from its second one, which follows from its first one, behind all that are given.
	c := impl.Cnf{Many: 700, List: clones([]int{699, 700}, 1896)}
	c.List = append(c.List, []int{1, 696, 697}, []int{1, 696, -697}, []int{1, -696, 697}, []int{1, -696, -697})
	for m := 1; m <= 600; m++ {
		c.List = append(c.List, []int{-m, m + 1, 698})
	}
	list := [][]int{{1, 696}, {1}}
	for m := 2; len(list) < 300; m++ {
		list = append(list, []int{m, 698})
	}
	if len(c.List) != 2500 || !impl.ProofOk(c, list) || !impl.ProofOk(c, list[:2]) || impl.ProofOk(c, list[1:]) || impl.ProofOk(c, list[2:]) {
		t.Error("a chain of clauses that follow, behind as many as there can be")
	}
	full := impl.Cnf{Many: 9, List: clones([]int{8, 9}, 2500)}
	full.List[2498], full.List[2499] = []int{1, 2}, []int{1, -2}
	for place := range 300 {
		list := clones([]int{1, 3}, 300)
		list[place] = []int{3}
		if impl.ProofOk(full, list) {
			t.Error("one that does not follow is not seen:", place)
		}
	}
	full.List[2496], full.List[2497] = []int{-1, 2}, []int{-1, -2}
	many := slices.Repeat([][]int{{1, 3}, {1, 4}}, 149)
	if !impl.ProofOk(full, append(slices.Clone(many), []int{1}, []int{})) || impl.ProofOk(full, append(slices.Clone(many), []int{1, 5}, []int{})) || impl.ProofOk(full, append(slices.Clone(many), []int{1}, []int{}, []int{})) {
		t.Error("what follows from the last that there can be")
	}
}

// roomySat is a search that is the same, whose lists have room behind their ends, with something there.
func roomySat(s impl.Sat) impl.Sat {
	return impl.Sat{
		Put:     append(slices.Clone(s.Put), 777)[:len(s.Put)],
		Why:     append(slices.Clone(s.Why), 777)[:len(s.Why)],
		Learned: roomyCnf(impl.Cnf{List: s.Learned}).List,
		Code:    s.Code,
	}
}

// stayedList says whether a list is as it was, with what lies behind its end.
func stayedList(was []int, list []int) bool {
	return len(list) == len(was) && slices.Equal(list[:len(was)+1], append(slices.Clone(was), 777))
}

// stayedSat says whether a search is as it was, with what lies behind the ends of its lists.
func stayedSat(was impl.Sat, s impl.Sat) bool {
	return stayedList(was.Put, s.Put) && stayedList(was.Why, s.Why) && stayed(impl.Cnf{List: was.Learned}, impl.Cnf{List: s.Learned}) && s.Code == was.Code
}

// TestSatArgumentsStay asks that nothing is written into an argument, or behind its end.
func TestSatArgumentsStay(t *testing.T) {
	ask := func(wasClauses impl.Cnf, was impl.Sat) {
		t.Helper()
		c, s := roomyCnf(wasClauses), roomySat(was)
		impl.SatOk(c, s)
		impl.SatSame(s, s)
		impl.SatSame(s, roomySat(was))
		impl.SatVals(c, s)
		impl.SatStep(c, s)
		impl.SatRun(c, 100)
		impl.UnitAll(c, s.Put)
		impl.ProofOk(c, s.Learned)
		impl.ProofOk(c, c.List)
		for _, clause := range s.Learned {
			impl.RupOk(c, clause)
		}
		if !stayed(wasClauses, c) || !stayedSat(was, s) {
			t.Errorf("an argument was written into: %s, %s", brief(wasClauses), brief(was))
		}
	}
	eachSearch(3000, func(m *maker, c impl.Cnf, s impl.Sat) {
		s.Code = max(0, m.below(9)-5)
		ask(c, s)
		s.Learned = append(s.Learned, []int{3, -2, 1}, nil)
		ask(c, s)
		s.Put = append(s.Put, 0)
		ask(c, s)
	})
	for _, c := range wrongCnfs() {
		ask(c, impl.Sat{Put: []int{2, 1}, Why: []int{-1, 5, 0}, Learned: [][]int{{2, 1}, {}}})
	}
	ask(wholeCnf(7), impl.Sat{Learned: clones([]int{1, 2}, 300), Put: []int{-1, 2}, Why: []int{-1, 130}})
}

// satLists is all lists of numbers of a search.
func satLists(s impl.Sat) [][]int { return slices.Concat([][]int{s.Put, s.Why}, s.Learned) }

// fill writes over all that a search has memory for.
func fill(s impl.Sat) {
	for _, list := range satLists(s) {
		list = list[:cap(list)]
		for i := range list {
			list[i] = 99
		}
	}
	learned := s.Learned[:cap(s.Learned)]
	for i := range learned {
		learned[i] = []int{99}
	}
}

// TestSatAnswerIsNew writes over each list of an answer, and asks that nothing else has turned.
func TestSatAnswerIsNew(t *testing.T) {
	ask := func(c impl.Cnf, was impl.Sat, tell func(c impl.Cnf, s impl.Sat) impl.Sat) {
		t.Helper()
		clauses, s := roomyCnf(c), roomySat(was)
		want := copySat(tell(clauses, s))
		got := tell(clauses, s)
		other := tell(clauses, s)
		for i, list := range satLists(got) {
			whole := list[:cap(list)]
			for k := range whole {
				whole[k] = 99
			}
			for k, behind := range satLists(got) {
				if k > i && !slices.Equal(behind, satLists(want)[k]) {
					t.Errorf("two lists of one answer share memory: %d and %d of %s", i, k, brief(want))
				}
			}
		}
		fill(got)
		if !stayed(c, clauses) || !stayedSat(was, s) || !sameSat(other, want) {
			t.Errorf("an answer shares memory with an argument or another answer: %s, %s", brief(c), brief(was))
		}
		if again := tell(clauses, s); !sameSat(again, want) {
			t.Errorf("an answer shares memory with what is kept: %s, %s", brief(c), brief(was))
		}
	}
	step := func(c impl.Cnf, s impl.Sat) impl.Sat { return impl.SatStep(c, s) }
	run := func(c impl.Cnf, s impl.Sat) impl.Sat { return impl.SatRun(c, 60) }
	unit := func(c impl.Cnf, s impl.Sat) impl.Sat {
		put, _ := impl.UnitAll(c, s.Put)
		return impl.Sat{Put: put}
	}
	eachSearch(3000, func(m *maker, c impl.Cnf, s impl.Sat) {
		s.Code = max(0, m.below(9)-5)
		ask(c, s, step)
		ask(c, s, run)
		ask(c, s, unit)
	})
	ask(impl.Cnf{Many: 3, List: [][]int{{1, 2}}}, impl.Sat{Put: []int{-1, -2}, Why: []int{-1, -1}, Learned: [][]int{{3}}}, step)
	ask(impl.Cnf{Many: 3, List: [][]int{{1, 2}}}, impl.Sat{Put: []int{1, 2, 3}, Why: []int{-1, -1, -1}, Learned: [][]int{{3}, {1, 2}}, Code: 3}, step)
	ask(wholeCnf(6), impl.Sat{}, run)
	c, s := fourMarks(), impl.Sat{Put: []int{4, -2, 3}, Why: []int{3, -1, -1}}
	first, second := impl.SatVals(c, s), impl.SatVals(c, s)
	for i := range first[:cap(first)] {
		first[:cap(first)][i] = i < 2
	}
	if want := []bool{false, false, true, true}; !slices.Equal(second, want) || !slices.Equal(impl.SatVals(c, s), want) {
		t.Error("two answers share memory:", second)
	}
}

// TestSatAgain asks that nothing is kept from call to call.
func TestSatAgain(t *testing.T) {
	c := impl.Cnf{Many: 3, List: [][]int{{1, 2}, {1, -2}, {-1, 3}}}
	for range 3 {
		if s := impl.SatRun(c, 20); !sameSat(s, impl.Sat{Put: []int{1, 3, -2}, Why: []int{3, 2, -1}, Learned: [][]int{{1}}, Code: 1}) {
			t.Error("SatRun:", s)
		}
		if s := impl.SatRun(impl.Cnf{Many: 3}, 4); !sameSat(s, impl.Sat{Put: []int{-1, -2, -3}, Why: []int{-1, -1, -1}, Code: 1}) {
			t.Error("SatRun without clauses:", s)
		}
		if s := impl.SatStep(c, impl.Sat{}); !sameSat(s, impl.Sat{Put: []int{-1}, Why: []int{-1}}) {
			t.Error("SatStep:", s)
		}
		if impl.RupOk(c, []int{2}) || !impl.RupOk(c, []int{1}) || !impl.ProofOk(c, [][]int{{1}, {3}}) || impl.ProofOk(c, [][]int{{2}}) {
			t.Error("what follows is not as it was")
		}
		unitIs(t, c, nil)
		unitIs(t, c, []int{-3})
		noUnit(t, c, []int{4}, "a mark that there is not")
		notOk(t, c, impl.Sat{Code: 4}, "a Code out of its bounds")
		isOk(t, c, impl.Sat{}, "nothing")
	}
}
