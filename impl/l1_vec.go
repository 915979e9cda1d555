package impl

// Vec is a number of a few bits.
type Vec struct {
	Wide int
	N    int
}

// What is done to numbers, and bounds.
const (
	OpNot    = 1
	OpNeg    = 2
	OpAnd    = 3
	OpOr     = 4
	OpXor    = 5
	OpAdd    = 6
	OpSub    = 7
	OpMul    = 8
	OpDiv    = 9
	OpRem    = 10
	OpShl    = 11
	OpShr    = 12
	OpSar    = 13
	OpCat    = 14
	OpSame   = 15
	OpLess   = 16
	OpUnder  = 17
	WideMost = 4
)

// word is a number without its size. It is unsigned, so that what runs over or
// below 0 wraps round and only has to be cut.
type word uint32

// full is the word of so many bits, all of them 1.
func full(wide int) word { return word(1)<<wide - 1 }

// cut is what is left of a word by 2 to the power of wide.
func (w word) cut(wide int) word { return w & full(wide) }

// bit is one bit of a word, as 0 or 1.
func (w word) bit(place int) word { return w >> place & 1 }

// vec is the number of so many bits that a word is, cut to size.
func (w word) vec(wide int) Vec { return Vec{Wide: wide, N: int(w.cut(wide))} }

// vecDo is what is done to numbers of as many bits, before it is cut to size.
type vecDo func(a word, b word, wide int) word

// vecRow is an op and what it does.
type vecRow struct {
	op int
	do vecDo
}

// vecAsk is what is asked of two numbers of as many bits.
type vecAsk func(a Vec, b Vec) bool

// askRow is an op and what it asks.
type askRow struct {
	op  int
	ask vecAsk
}

// unRows is what is done to one number; the second one is not looked at.
func unRows() []vecRow {
	return []vecRow{
		{OpNot, func(a word, _ word, _ int) word { return ^a }},
		{OpNeg, func(a word, _ word, _ int) word { return -a }},
	}
}

// binRows is what is done to two numbers of as many bits.
func binRows() []vecRow {
	return []vecRow{
		{OpAnd, func(a word, b word, _ int) word { return a & b }},
		{OpOr, func(a word, b word, _ int) word { return a | b }},
		{OpXor, func(a word, b word, _ int) word { return a ^ b }},
		{OpAdd, func(a word, b word, _ int) word { return a + b }},
		{OpSub, func(a word, b word, _ int) word { return a - b }},
		{OpMul, func(a word, b word, _ int) word { return a * b }},
		{OpDiv, divided},
		{OpRem, leftOver},
		{OpShl, func(a word, b word, _ int) word { return a << b }},
		{OpShr, func(a word, b word, _ int) word { return a >> b }},
		{OpSar, shiftedSigned},
	}
}

// askRows is what is asked of two numbers.
func askRows() []askRow {
	return []askRow{
		{OpSame, func(a Vec, b Vec) bool { return a.N == b.N }},
		{OpLess, func(a Vec, b Vec) bool { return a.N < b.N }},
		{OpUnder, func(a Vec, b Vec) bool { return VecSigned(a) < VecSigned(b) }},
	}
}

func divided(a word, b word, wide int) word {
	if b == 0 {
		return full(wide)
	}
	return a / b
}

func leftOver(a word, b word, _ int) word {
	if b == 0 {
		return a
	}
	return a % b
}

// shiftedSigned turns a number whose highest bit is 1 ahead and behind, so that
// the zeros that come in from above are ones in the end.
func shiftedSigned(a word, b word, wide int) word {
	if a.bit(wide-1) == 0 {
		return a >> b
	}
	return ^((^a).cut(wide) >> b)
}

// findDo is what an op does, if the rows have it.
func findDo(rows []vecRow, op int) (vecDo, bool) {
	for _, row := range rows {
		if row.op == op {
			return row.do, true
		}
	}
	return nil, false
}

// findAsk is what an op asks, if the rows have it.
func findAsk(rows []askRow, op int) (vecAsk, bool) {
	for _, row := range rows {
		if row.op == op {
			return row.ask, true
		}
	}
	return nil, false
}

// vecPair says whether two numbers are right and have as many bits.
func vecPair(a Vec, b Vec) bool { return VecOk(a) && VecOk(b) && a.Wide == b.Wide }

// vecDone does what the rows say to two numbers of as many bits.
func vecDone(rows []vecRow, op int, a Vec, b Vec) (Vec, bool) {
	do, found := findDo(rows, op)
	if !found || !vecPair(a, b) {
		return Vec{}, false
	}
	return do(word(a.N), word(b.N), a.Wide).vec(a.Wide), true
}

// vecCat stands apart from the rows, as its numbers may differ in their bits.
func vecCat(a Vec, b Vec) (Vec, bool) {
	if !VecOk(a) || !VecOk(b) || a.Wide+b.Wide > WideMost {
		return Vec{}, false
	}
	return (word(a.N)<<b.Wide | word(b.N)).vec(a.Wide + b.Wide), true
}

// VecOk says whether a number is right.
func VecOk(a Vec) bool {
	if a.Wide < 1 || a.Wide > WideMost {
		return false
	}
	return a.N >= 0 && a.N <= int(full(a.Wide))
}

// VecSigned is what a number stands for, if its highest bit counts below 0.
func VecSigned(a Vec) int {
	if !VecOk(a) {
		return 0
	}
	if word(a.N).bit(a.Wide-1) == 0 {
		return a.N
	}
	return a.N - int(full(a.Wide)) - 1
}

// VecUn does something to a number.
func VecUn(op int, a Vec) (Vec, bool) {
	return vecDone(unRows(), op, a, Vec{Wide: a.Wide})
}

// VecBin does something to two numbers.
func VecBin(op int, a Vec, b Vec) (Vec, bool) {
	if op == OpCat {
		return vecCat(a, b)
	}
	return vecDone(binRows(), op, a, b)
}

// VecCmp asks something of two numbers.
func VecCmp(op int, a Vec, b Vec) (bool, bool) {
	ask, found := findAsk(askRows(), op)
	if !found || !vecPair(a, b) {
		return false, false
	}
	return ask(a, b), true
}

// VecCut is some bits of a number.
func VecCut(a Vec, hi int, lo int) (Vec, bool) {
	if !VecOk(a) || lo < 0 || hi < lo || hi >= a.Wide {
		return Vec{}, false
	}
	return (word(a.N) >> lo).vec(hi - lo + 1), true
}

// VecText writes a number.
func VecText(a Vec) string {
	if !VecOk(a) {
		return ""
	}
	text := []rune{'#'}
	for place := a.Wide - 1; place >= 0; place-- {
		text = append(text, '0'+rune(word(a.N).bit(place)))
	}
	return string(text)
}

// VecRead reads a number.
func VecRead(text string) (Vec, bool) {
	n, wide := word(0), 0
	for place, r := range text {
		if place == 0 {
			if r != '#' {
				return Vec{}, false
			}
			continue
		}
		if r != '0' && r != '1' || wide == WideMost {
			return Vec{}, false
		}
		n = n<<1 | word(r-'0')
		wide++
	}
	if wide == 0 {
		return Vec{}, false
	}
	return n.vec(wide), true
}
