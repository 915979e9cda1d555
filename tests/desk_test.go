package tests

import (
	"regexp"
	"slices"
	"strconv"
	"strings"
	"testing"
	"time"

	"loop.example/seedlip/impl"
)

var deskNumberForm = regexp.MustCompile(`\A(0|-?[1-9][0-9]{0,16})\z`)

// deskState is the layers that the lines of a script have made so far, and what was answered since they were last changed.
type deskState struct {
	c   []impl.Layer
	met map[string][]string
}

// newDeskState is layers ahead of a line, of their own memory.
func newDeskState(c []impl.Layer) *deskState {
	return &deskState{copyLayers(c), map[string][]string{}}
}

// deskWord is the word of a code that was told.
func deskWord(code int) string { return []string{"", "yes", "no", "much", "what"}[code] }

// deskWords is what spaces part in a line.
func deskWords(line string) []string {
	return slices.DeleteFunc(strings.Split(line, " "), func(word string) bool { return word == "" })
}

// numbersOf is the numbers of names, each as a line.
func numbersOf(d []impl.Decl, env []int) []string {
	lines := []string{}
	for i, n := range env {
		lines = append(lines, d[i].Name+" "+vecSample(impl.Vec{Wide: d[i].Wide, N: n}).text)
	}
	return lines
}

// changed has the layers changed, if they may be so.
func (s *deskState) changed(ch ctxChange) []string {
	next := ch.made(copyLayers(s.c))
	if !ctxRight(next) {
		return []string{"what"}
	}
	s.c, s.met = next, map[string][]string{}
	return []string{"fine"}
}

// bare is what a line without further words answers.
func (s *deskState) bare(word string) []string {
	d, list := flat(s.c)
	switch word {
	case "push":
		return s.changed(pushChange())
	case "pop":
		return s.changed(popChange())
	case "check":
		env, code := solveWanted(d, list)
		return append([]string{deskWord(code)}, numbersOf(d, env)...)
	}
	places, code := coreWanted(d, list)
	if code != 2 {
		return []string{deskWord(code)}
	}
	lines := []string{}
	for _, place := range places {
		lines = append(lines, strconv.Itoa(place))
	}
	return append(lines, "end")
}

// waysOf is what a line that asks for ways answers.
func (s *deskState) waysOf(most int) []string {
	d, list := flat(s.c)
	ways, code := waysWanted(d, list, most)
	lines := []string{}
	for _, env := range ways {
		line := "way"
		for i, n := range env {
			line += " " + vecSample(impl.Vec{Wide: d[i].Wide, N: n}).text
		}
		lines = append(lines, line)
	}
	return append(lines, deskWord(code))
}

// valueOf is what a line answers that asks what a term is.
func (s *deskState) valueOf(x impl.Term) []string {
	d, list := flat(s.c)
	env, code := solveWanted(d, list)
	if code != 1 {
		return []string{deskWord(code)}
	}
	n, _ := impl.TermEval(d, x, env)
	if wide := sortWanted(d, x); wide > 0 {
		return []string{vecSample(impl.Vec{Wide: wide, N: n}).text}
	}
	return []string{map[int]string{0: "false", 1: "true"}[n]}
}

// ofTerm is what a line answers that has a term behind its first word.
func (s *deskState) ofTerm(word string, x impl.Term) []string {
	d, list := flat(s.c)
	switch word {
	case "assert":
		return s.changed(termChange(x, ""))
	case "fold":
		return []string{impl.TermText(d, foldWanted(d, x))}
	case "value":
		return s.valueOf(x)
	case "prove":
		env, code := proveWanted(d, list, x)
		if code == 1 {
			return append([]string{"not"}, numbersOf(d, env)...)
		}
		return []string{map[int]string{2: "always", 3: "much", 4: "what"}[code]}
	}
	n, code := leastNumber(d, list, x)
	if code != 1 {
		return []string{deskWord(code)}
	}
	return []string{vecSample(impl.Vec{Wide: sortWanted(d, x), N: n}).text}
}

// answer is what a line answers behind those ahead of it.
func (s *deskState) answer(line string) []string {
	told, again := s.met[line]
	if !again {
		told = s.wanted(line)
		if !slices.Equal(told, []string{"fine"}) {
			s.met[line] = told
		}
	}
	return told
}

// wanted is what a line answers, as the document has it.
func (s *deskState) wanted(line string) []string {
	words := deskWords(line)
	if len(words) == 0 {
		return nil
	}
	d, _ := flat(s.c)
	number, _ := strconv.Atoi(words[len(words)-1])
	numbered := deskNumberForm.MatchString(words[len(words)-1])
	switch word := words[0]; word {
	case "push", "pop", "check", "core":
		if len(words) == 1 {
			return s.bare(word)
		}
	case "name":
		if len(words) == 3 && numbered {
			return s.changed(nameChange(impl.Decl{Name: words[1], Wide: number}))
		}
	case "ways":
		if len(words) == 2 && numbered {
			return s.waysOf(number)
		}
	case "assert", "fold", "value", "prove", "least":
		if x, ok := impl.TermRead(d, strings.Join(words[1:], " ")); ok {
			return s.ofTerm(word, x)
		}
	}
	return []string{"what"}
}

// deskAnswers is what each line of a script answers, up to the one that ends it.
func deskAnswers(text string) []string {
	if len(text) > 20000 {
		return []string{"long\n"}
	}
	s, all, many := newDeskState(impl.CtxNew()), []string{}, 0
	for i, line := range strings.Split(text, "\n") {
		if len(deskWords(line)) > 0 && (i >= 200 || many > 20000) {
			return append(all, "full\n")
		}
		answer := ""
		for _, told := range s.answer(line) {
			answer += told + "\n"
		}
		all, many = append(all, answer), many+len(answer)
	}
	return all
}

// deskSays asks that a script answers this.
func deskSays(t *testing.T, text string, want string) {
	t.Helper()
	if told := impl.DeskRun(text); told != want {
		at := 0
		for at < min(len(told), len(want)) && told[at] == want[at] {
			at++
		}
		t.Fatalf("%.1500q answers, behind %d bytes, %.200q, want %.200q", text, at, told[at:], want[at:])
	}
}

// deskRuns asks that a script answers what the document says; it is that.
func deskRuns(t *testing.T, text string) string {
	t.Helper()
	want := strings.Join(deskAnswers(text), "")
	deskSays(t, text, want)
	return want
}

// deskCuts asks that a script, cut behind any of its lines, answers what these lines answer in the whole one, be there a newline at its end or not.
func deskCuts(t *testing.T, lines []string, answers []string) {
	t.Helper()
	for many := range len(lines) + 1 {
		text, want := strings.Join(lines[:many], "\n"), strings.Join(answers[:min(many, len(answers))], "")
		deskSays(t, text, want)
		deskSays(t, text+"\n", want)
	}
}

// deskSteps parts steps, such as "check -> yes/x #0", into lines and what they answer.
func deskSteps(steps []string) ([]string, []string) {
	lines, answers := []string{}, []string{}
	for _, step := range steps {
		line, answer, _ := strings.Cut(step, " -> ")
		if answer != "" {
			answer = strings.ReplaceAll(answer, "/", "\n") + "\n"
		}
		lines, answers = append(lines, line), append(answers, answer)
	}
	return lines, answers
}

// deskTells asks that each step of a script answers what is written there, and that all but what is written by hand says so too.
func deskTells(t *testing.T, steps ...string) {
	t.Helper()
	lines, answers := deskSteps(steps)
	if known := deskAnswers(strings.Join(lines, "\n")); !slices.Equal(known, answers) {
		t.Fatalf("the test itself is not sure of %.1500q: %.1500q, want %.1500q", lines, known, answers)
	}
	deskCuts(t, lines, answers)
}

// deskWrong asks that each of these lines answers what, and does nothing, behind these steps: all that can be asked of the layers is as it was.
func deskWrong(t *testing.T, steps []string, wrong ...string) {
	t.Helper()
	lines, answers := deskSteps(steps)
	head, told := strings.Join(lines, "\n")+"\n", strings.Join(answers, "")
	tail := "check\nways 20\ncore\nvalue x\npop\ncheck\npop\npop\npop\npop\npop\npop\nname q 1\n" + strings.Repeat("assert true\n", 9)
	deskSays(t, head, told)
	want := strings.TrimPrefix(impl.DeskRun(head+tail), told)
	for _, line := range wrong {
		deskRuns(t, line)
		deskSays(t, head+line, told+"what\n")
		deskSays(t, head+line+"\n"+tail, told+"what\n"+want)
		deskSays(t, head+"  "+line+"  \n"+line+"\n"+tail, told+"what\nwhat\n"+want)
		deskRuns(t, head+line+"\n"+tail)
	}
}

// deskExample is the document's example.
func deskExample() []string {
	return []string{
		"name x 4 -> fine", "name y 4 -> fine", "assert (same (mul x y) #1100) -> fine", "assert (less x y) -> fine",
		"check -> yes/x #0001/y #1100",
		"ways 3 -> way #0001 #1100/way #0010 #0110/way #0010 #1110/yes",
		"push -> fine", "assert (same (rem y x) #0001) -> fine",
		"check -> yes/x #0011/y #0100",
		"core -> yes",
		"pop -> fine",
		"prove (less #0001 x) -> not/x #0001/y #1100",
		"least (add x y) -> #0000",
		"fold (if (less x x) y (add x #0000)) -> x",
		"value (cat (cut 1 0 y) (cut 1 0 x)) -> #0001",
	}
}

func TestDeskConstants(t *testing.T) {
	if impl.DeskMaxText != 20000 || impl.DeskMaxLines != 200 || impl.DeskMaxOut != 20000 {
		t.Error(impl.DeskMaxText, impl.DeskMaxLines, impl.DeskMaxOut)
	}
}

// TestDeskDocument has the document's example, sign for sign.
func TestDeskDocument(t *testing.T) {
	deskTells(t, deskExample()...)
	script := "name x 4\nname y 4\nassert (same (mul x y) #1100)\nassert (less x y)\ncheck\nways 3\npush\nassert (same (rem y x) #0001)\ncheck\ncore\npop\nprove (less #0001 x)\nleast (add x y)\nfold (if (less x x) y (add x #0000))\nvalue (cat (cut 1 0 y) (cut 1 0 x))"
	want := "fine\nfine\nfine\nfine\nyes\nx #0001\ny #1100\nway #0001 #1100\nway #0010 #0110\nway #0010 #1110\nyes\nfine\nfine\nyes\nx #0011\ny #0100\nyes\nfine\nnot\nx #0001\ny #1100\n#0000\nx\n#0001\n"
	deskSays(t, script, want)
	deskSays(t, script+"\n", want)
	deskSays(t, script+"\n\n \n", want)
}

// TestDeskWritten has scripts of all kinds, by hand.
func TestDeskWritten(t *testing.T) {
	for _, steps := range [][]string{
		{"name x 2 -> fine", "check -> yes/x #00", "assert (less #01 x) -> fine", "check -> yes/x #10", "value x -> #10", "value (add x x) -> #00", "value (less x #11) -> true", "value (no (less x #11)) -> false", "least x -> #10", "least (not x) -> #00", "prove (less x #11) -> not/x #11", "prove (less #00 x) -> always", "ways 5 -> way #10/way #11/no", "ways 2 -> way #10/way #11/yes", "core -> yes"},
		{"name x 1 -> fine", "push -> fine", "name y 1 -> fine", "assert (same x y) -> fine", "assert (same x #1) -> fine", "check -> yes/x #1/y #1", "ways 4 -> way #1 #1/no", "pop -> fine", "check -> yes/x #0", "value y -> what", "assert (same x y) -> what", "name y 3 -> fine", "check -> yes/x #0/y #000", "least (not y) -> #000"},
		{"assert (no true) -> fine", "check -> no", "core -> 0/end", "ways 3 -> no", "value true -> no", "prove (no true) -> always", "least #101 -> no", "fold (add #01 #11) -> #00"},
		{"name a 1 -> fine", "assert (same a #0) -> fine", "assert true -> fine", "assert (same a #1) -> fine", "assert (same a a) -> fine", "core -> 0/2/end", "push -> fine", "assert (no true) -> fine", "core -> 4/end", "pop -> fine", "core -> 0/2/end", "check -> no"},
		{"fold true -> true", "fold (no true) -> (no true)", "fold (less #0 #1) -> true", "fold (less #1 #0) -> (no true)", "fold (cat #10 #01) -> #1001", "value (no true) -> false", "value #0110 -> #0110", "least #11 -> #11", "prove true -> always", "prove (no true) -> not"},
		{"pop -> what", "push -> fine", "pop -> fine", "pop -> what", "check -> yes"},
		{"check -> yes", "name same 2 -> fine", "name if 2 -> fine", "name push 1 -> fine", "name way 1 -> fine", "assert (same same (not if)) -> fine", "check -> yes/same #00/if #11/push #0/way #0", "value (if (less same if) (cat push way) if) -> #00", "fold if -> if"},
	} {
		deskTells(t, steps...)
	}
}

// TestDeskEmpty has scripts without words, of all ends.
func TestDeskEmpty(t *testing.T) {
	for _, text := range []string{"", "\n", "\n\n", "\n\n\n\n\n", " ", "   ", " \n", "\n ", " \n \n   \n", strings.Repeat(" ", 20000), strings.Repeat("\n", 20000), strings.Repeat(" \n", 10000)} {
		deskSays(t, text, "")
	}
	for _, text := range []string{"push", "push\n", "push\n\n\n", "\npush", "\n\n\npush\n", " push", "push ", "   push   \n   ", " \npush\n "} {
		deskSays(t, text, "fine\n")
	}
	deskSays(t, "push\n\npop", "fine\nfine\n")
}

// TestDeskNames has each line of the table where there are no names, one, and as many as may be.
func TestDeskNames(t *testing.T) {
	deskTells(t, "check -> yes", "core -> yes", "ways 0 -> yes", "ways 1 -> way/yes", "ways 2 -> way/no", "ways 20 -> way/no", "fold #1 -> #1", "value #1 -> #1", "value true -> true", "prove true -> always", "prove (less #1 #1) -> not", "least #10 -> #10", "least true -> what", "assert #1 -> what", "assert x -> what", "assert true -> fine", "push -> fine", "pop -> fine", "assert (no true) -> fine", "core -> 1/end", "check -> no", "ways 0 -> yes", "ways 1 -> no")
	deskTells(t, "name x 1 -> fine", "check -> yes/x #0", "core -> yes", "ways 0 -> yes", "ways 1 -> way #0/yes", "ways 2 -> way #0/way #1/yes", "ways 3 -> way #0/way #1/no", "fold (and x #1) -> (and x #1)", "fold (or x #0) -> x", "value x -> #0", "value (same x #0) -> true", "prove (same x #0) -> not/x #1", "prove (same x x) -> always", "least x -> #0", "least (not x) -> #0", "push -> fine", "pop -> fine", "name y 4 -> fine")
	deskTells(t, "name a 1 -> fine", "name bb 2 -> fine", "name ccc 4 -> fine", "name dddd 1 -> fine", "name e 1 -> what", "check -> yes/a #0/bb #00/ccc #0000/dddd #0", "core -> yes", "ways 0 -> yes", "ways 3 -> way #0 #00 #0000 #0/way #0 #00 #0000 #1/way #0 #00 #0001 #0/yes",
		"assert (less #0101 ccc) -> fine", "assert (less a dddd) -> fine", "assert (same bb (cat dddd a)) -> fine", "check -> yes/a #0/bb #10/ccc #0110/dddd #1", "ways 2 -> way #0 #10 #0110 #1/way #0 #10 #0111 #1/yes", "value (cat bb (cat dddd a)) -> #1010", "prove (less ccc #1111) -> not/a #0/bb #10/ccc #1111/dddd #1", "prove (same bb #10) -> always", "least (mul ccc ccc) -> #0000", "least bb -> #10", "fold (xor bb bb) -> #00", "push -> fine", "name e 1 -> what", "assert (same ccc #0101) -> fine", "core -> 0/3/end", "pop -> fine", "check -> yes/a #0/bb #10/ccc #0110/dddd #1")
}

// TestDeskTold has each question with each word that can be told.
func TestDeskTold(t *testing.T) {
	two := []string{"name x 4 -> fine", "name y 4 -> fine"}
	for _, c := range [][]string{
		{"check -> yes/x #0000/y #0000", "core -> yes", "ways 1 -> way #0000 #0000/yes", "value (less x y) -> false", "prove (less x y) -> not/x #0000/y #0000", "least (sub x #0001) -> #0000"},
		{"assert (less x x) -> fine", "check -> no", "core -> 0/end", "ways 1 -> no", "value (less x y) -> no", "value x -> no", "prove (less x y) -> always", "least x -> no", "fold x -> x"},
		{"assert " + slowYes + " -> fine", "check -> much", "core -> much", "ways 1 -> much", "ways 20 -> much", "ways 0 -> yes", "value (less x y) -> much", "value x -> much", "value #0 -> much", "prove (no (same (mul (add x y) (sub x y)) (sub (mul x x) (mul y y)))) -> much"},
		{"assert " + slowNo + " -> fine", "check -> much", "core -> much", "ways 1 -> much", "value true -> much", "least #1 -> much", "least #0 -> much", "prove true -> always"},
		{"assert " + gates600 + " -> fine", "assert (less x y) -> fine", "check -> much", "core -> much", "ways 1 -> much", "value x -> much", "least y -> much", "prove true -> much", "prove (less x y) -> much"},
		{"prove (no " + slowYes + ") -> much", "prove " + slowYes + " -> not/x #0000/y #0000", "least " + tooMuch + " -> much", "prove " + gates601 + " -> much", "fold " + slowYes + " -> " + slowYes, "check -> yes/x #0000/y #0000"},
		{"check x -> what", "core 0 -> what", "ways 21 -> what", "value z -> what", "prove x -> what", "prove #1 -> what", "least (less x y) -> what", "least true -> what"},
	} {
		deskTells(t, append(slices.Clone(two), c...)...)
	}
	for most := range 21 {
		told := deskRuns(t, "name x 4\nname y 4\nassert "+gates600+"\nways "+strconv.Itoa(most))
		if word := map[bool]string{true: "yes\n", false: "much\n"}[most <= 18]; !strings.HasSuffix(told, word) || strings.Count(told, "way ") != min(most, 18) {
			t.Errorf("ways %d: %q", most, told)
		}
	}
}

// TestDeskOrder has terms whose answer hangs on their order, in one layer and in two.
func TestDeskOrder(t *testing.T) {
	for _, between := range []string{"", "push\n", "push\npush\n", "check\n", "push\ncheck\npop\n"} {
		for _, c := range []struct{ one, two, want string }{{orderOne, orderTwo, "yes\nx #0100\ny #0001\n"}, {orderTwo, orderOne, "much\n"}} {
			told := deskRuns(t, "name x 4\nname y 4\nassert "+c.one+"\n"+between+"assert "+c.two+"\ncheck")
			if !strings.HasSuffix(told, "fine\n"+c.want) {
				t.Errorf("%q between: %q", between, told)
			}
		}
	}
}

// TestDeskName has names of all kinds and sizes, such as may be and such as may not.
func TestDeskName(t *testing.T) {
	for wide := 1; wide <= 4; wide++ {
		bits := strings.Repeat("0", wide)
		deskTells(t, "name x "+strconv.Itoa(wide)+" -> fine", "check -> yes/x #"+bits, "name x "+strconv.Itoa(wide)+" -> what", "name x "+strconv.Itoa(5-wide)+" -> what", "check -> yes/x #"+bits)
	}
	names := []string{"name x 2 -> fine", "assert (less #00 x) -> fine"}
	wrong := []string{"name a 0", "name a 5", "name a 6", "name a 8", "name a 17", "name a 257", "name x 1", "name x 2", "name x 4", "name true 1", "name abcde 1", "name A 1", "name aB 1", "name a1 1", "name #1 1", "name 1 1", "name 4 4", "name a_ 1", "name (a) 1", "name é 1", "name ab. 1", "name -a 1", "name a\x00 1", "name a\xff 1"}
	deskWrong(t, names, wrong...)
	for _, name := range []string{"a", "z", "az", "abcd", "zzzz", "name", "push", "pop", "core", "ways", "fold", "not", "and", "cut", "if", "no", "yes", "what", "end", "way", "tru", "full", "long"} {
		deskTells(t, "name "+name+" 3 -> fine", "check -> yes/"+name+" #000", "value "+name+" -> #000", "name "+name+" 3 -> what", "fold (not (not "+name+")) -> "+name)
	}
	// As many bits and as many names as may be.
	deskTells(t, "name a 4 -> fine", "name b 4 -> fine", "name c 1 -> what", "check -> yes/a #0000/b #0000")
	deskTells(t, "name a 4 -> fine", "name b 3 -> fine", "name c 2 -> what", "name c 1 -> fine", "name d 1 -> what", "check -> yes/a #0000/b #000/c #0")
	deskTells(t, "name a 1 -> fine", "name b 1 -> fine", "name c 1 -> fine", "name d 1 -> fine", "name e 1 -> what", "push -> fine", "name e 1 -> what", "pop -> fine", "check -> yes/a #0/b #0/c #0/d #0")
	// A name in a layer that is gone, with another number of bits now.
	deskTells(t, "push -> fine", "name x 4 -> fine", "name y 4 -> fine", "name z 1 -> what", "check -> yes/x #0000/y #0000", "pop -> fine", "check -> yes", "value x -> what", "fold x -> what", "name z 1 -> fine", "name x 1 -> fine", "check -> yes/z #0/x #0", "value (cat x z) -> #00", "name y 4 -> fine", "check -> yes/z #0/x #0/y #0000")
	deskTells(t, "name x 2 -> fine", "push -> fine", "name x 2 -> what", "name y 2 -> fine", "push -> fine", "name y 2 -> what", "name z 2 -> fine", "check -> yes/x #00/y #00/z #00", "pop -> fine", "check -> yes/x #00/y #00", "pop -> fine", "name z 3 -> fine", "check -> yes/x #00/z #000")
}

// wrongNumbers is words that are no number of a few, or not as it is written.
func wrongNumbers() []string {
	return []string{"-1", "-2", "-4", "-0", "+1", "+2", "+0", "01", "02", "04", "001", "00", "1.", "1.0", ".1", "1e0", "0x1", "0b1", "0o1", "1_0", "1,", "1a", "a1", "a", "#1", "one", "--1", "-", "+", "1-", "٢", "１", "²", "1\x00", "1\xff", "\xff1", "2\t", "\t2", "2\r",
		"100", "12345678901234567", "99999999999999999", "10000000000000000", "10000000000000001", "-99999999999999999", "123456789012345678", "100000000000000001", "999999999999999999", "00000000000000001", "000000000000000001", "4294967297", "4294967298", "-4294967295", "9223372036854775807", "9223372036854775808", "18446744073709551617", "18446744073709551618", "340282366920938463463374607431768211457", "1" + strings.Repeat("0", 400), strings.Repeat("0", 400) + "1", strings.Repeat("9", 1000)}
}

// TestDeskNumbers has numbers that are written in all kinds of ways.
func TestDeskNumbers(t *testing.T) {
	steps := []string{"name x 2 -> fine", "assert (less #01 x) -> fine", "push -> fine", "assert (less x #11) -> fine"}
	for _, word := range wrongNumbers() {
		deskWrong(t, steps, "name a "+word, "ways "+word)
	}
	deskWrong(t, steps, "name a 0", "name a 5", "ways 21", "ways 22", "ways 30", "ways 200", "ways 256", "ways 276")
	for _, word := range []string{"0", "1", "2", "3", "4", "9", "10", "11", "19", "20"} {
		told := deskRuns(t, "name x 2\nways "+word)
		if many, _ := strconv.Atoi(word); strings.Count(told, "way ") != min(4, many) || !strings.HasSuffix(told, map[bool]string{true: "yes\n", false: "no\n"}[many <= 4]) {
			t.Errorf("ways %s: %q", word, told)
		}
	}
}

// TestDeskWays has terms of few ways and of many, and each most that there may be.
func TestDeskWays(t *testing.T) {
	for _, head := range []string{"", "name x 3\n", "name x 4\nname y 1\n", "name x 4\nname y 4\nassert (less x y)\n", "name x 4\nassert (less x #0100)\n", "name a 1\nname b 1\nname c 1\nname d 1\nassert (same a c)\n", "name x 2\nassert (less x #00)\n"} {
		for most := range 22 {
			deskRuns(t, head+"ways "+strconv.Itoa(most)+"\ncheck")
		}
	}
	deskTells(t, "name x 4 -> fine", "assert (less x #0011) -> fine", "ways 2 -> way #0000/way #0001/yes", "ways 3 -> way #0000/way #0001/way #0010/yes", "ways 4 -> way #0000/way #0001/way #0010/no", "ways 20 -> way #0000/way #0001/way #0010/no", "ways 21 -> what", "assert (no true) -> fine", "ways 0 -> yes", "ways 1 -> no", "ways 21 -> what")
}

// TestDeskLayers has as many layers and terms as may be, and one more.
func TestDeskLayers(t *testing.T) {
	push, pop := "push -> fine", "pop -> fine"
	deskTells(t, push, push, push, push, push, "push -> what", "push -> what", pop, push, "push -> what", pop, pop, pop, pop, pop, "pop -> what", "pop -> what", push, pop, "pop -> what")
	steps := []string{"name x 3 -> fine"}
	for range 8 {
		steps = append(steps, "assert (less #010 x) -> fine")
	}
	steps = append(steps, "assert true -> what", "check -> yes/x #011", "core -> yes", "ways 1 -> way #011/yes", "value x -> #011", "prove true -> what", "prove (less #010 x) -> what", "least x -> what", "fold (add x #000) -> x",
		push, "assert true -> what", "name y 1 -> fine", "check -> yes/x #011/y #0", pop, "check -> yes/x #011")
	deskTells(t, steps...)
	deskTells(t, "name x 1 -> fine", "assert true -> fine", push, "assert true -> fine", "assert true -> fine", push, "assert true -> fine", "assert true -> fine", push, "assert true -> fine", "assert true -> fine", "least x -> #0", "prove (same x x) -> always", "assert (same x #1) -> fine", "assert true -> what", "prove true -> what", "least x -> what", pop, "least x -> #0", "assert true -> fine", "assert true -> fine", "assert true -> fine", "assert true -> what", pop, "assert true -> fine", pop, "check -> yes/x #0")
	// Terms that are not true or not, or speak of a name that is gone.
	deskTells(t, push, "name x 2 -> fine", "assert x -> what", "assert #1 -> what", "assert (add x x) -> what", "assert (less x #10) -> fine", pop, "assert (less x #10) -> what", "assert (same x x) -> what", "name x 3 -> fine", "assert (less x #10) -> what", "assert (less x #100) -> fine", "assert x -> what", "check -> yes/x #000", "core -> yes")
}

// TestDeskTerms has terms of as many parts and levels as may be, and more, where a line asks for one.
func TestDeskTerms(t *testing.T) {
	deep := func(levels int) string {
		return strings.Repeat("(no ", levels-1) + "true" + strings.Repeat(")", levels-1)
	}
	deskTells(t, "assert "+deep(7)+" -> fine", "assert "+deep(8)+" -> what", "prove "+deep(7)+" -> what", "prove "+deep(6)+" -> not", "prove "+deep(5)+" -> always", "value "+deep(7)+" -> true", "value "+deep(6)+" -> false", "value "+deep(8)+" -> what", "fold "+deep(7)+" -> true", "fold "+deep(8)+" -> what")
	for parts := 17; parts <= 23; parts++ {
		text := manyTruth(parts).text
		for _, word := range []string{"assert", "fold", "value", "prove", "least"} {
			deskRuns(t, word+" "+text+"\ncheck\n"+word+" "+manyBits(parts).text)
		}
	}
	for levels := 5; levels <= 9; levels++ {
		for _, word := range []string{"assert", "fold", "value", "prove", "least"} {
			deskRuns(t, word+" "+chain(levels).text+"\ncheck\n"+word+" "+chainBits(levels).text)
		}
	}
}

// TestDeskTermSpaces has terms with spaces in all places: those between words count as one, and a word has none within.
func TestDeskTermSpaces(t *testing.T) {
	deskTells(t, "name x 3 -> fine", "assert (less  #001 x) -> fine", "  assert   (less   #010    x)   -> fine", "assert (no  (no (same   x #011))) -> fine", "check -> yes/x #011", "value  (cut  2  1   x) -> #01", "fold (if  true   x  x) -> x", "prove  true -> always", " least  (add  x x)  -> #110", "fold   (add (add  x x)  (not   x)) -> (add (add x x) (not x))")
	steps := []string{"name x 3 -> fine", "assert (less #001 x) -> fine"}
	wrong := []string{}
	for _, word := range []string{"assert", "fold", "value", "prove", "least"} {
		for _, text := range []string{"( less x x)", "(less x x )", "(less x x) )", "( (less x x))", "(le ss x x)", "(same # 001 x)", "(same #0 01 x)", "(not x )", "( not x)", "# 001", "#00 1", "(cut 1 0 x )", "(cut 1 - 0 x)", "tr ue", "true true", "true x", "x x", "x ()", "(no true) true", "(lessx x)", "(less x  x", "less x x", "(less x x))", "(less, x x)", "(less x\tx)", "(less x\u00a0x)", "()", "(", ")", "(no)", "(no true", "(same x #01)", "(same x y)", "y", "(true)", "(x)"} {
			wrong = append(wrong, word+" "+text)
		}
	}
	deskWrong(t, steps, wrong...)
}

// TestDeskWrongWords has lines that begin with no word of the table, or have too few words or too many.
func TestDeskWrongWords(t *testing.T) {
	steps := []string{"name x 2 -> fine", "assert (less #01 x) -> fine", "push -> fine", "assert (less x #11) -> fine"}
	table := []string{"name a 1", "push", "pop", "check", "core", "ways 1", "assert true", "fold true", "value true", "prove true", "least x"}
	wrong := []string{"name", "name a", "name 1", "name a 1 1", "name a b 1", "name a 1 a", "name a 1 .", "push push", "push 1", "push x", "pop pop", "pop 1", "pop true", "check check", "check true", "check x", "core core", "core 0", "core end", "ways", "ways 1 1", "ways x", "ways 1 x", "ways true", "assert", "fold", "value", "prove", "least", "assert true true", "fold x x", "value x y", "prove true (no true)", "least x 1",
		"fly", "x", "true", "(no true)", "1", "#1", "yes", "no", "fine", "what", "end", "way", "always", "not", "full", "long", "solve", "quit", "help", "-", ".", "..", ";", "#", "\"push\"", "'push'", "{", "}"}
	for _, line := range table {
		word, rest, _ := strings.Cut(line, " ")
		for _, other := range []string{strings.ToUpper(word), strings.ToUpper(word[:1]) + word[1:], word + "s", word + word, word[1:], word[:len(word)-1], word + ";", word + ",", "(" + word + ")", "/" + word, word + "\x00", "\x00" + word, word[:2] + " " + word[2:], "x" + word} {
			wrong = append(wrong, strings.TrimSpace(other+" "+rest))
		}
	}
	deskWrong(t, steps, slices.DeleteFunc(wrong, func(line string) bool { return slices.Contains(table, line) })...)
}

// TestDeskOddBytes has bytes that are no letters, digits or spaces: none of them parts words or ends a line, and no line has them.
func TestDeskOddBytes(t *testing.T) {
	steps := []string{"name x 2 -> fine", "assert (less #01 x) -> fine", "push -> fine", "assert (less x #11) -> fine"}
	odd := []string{"\t", "\r", "\v", "\f", "\x00", "\x1f", "\x7f", "\u0085", "\u00a0", "\u2003", "\u2028", "\u2029", "\u3000", "\ufeff", "\u200b", "\ufffd", "\xff", "\xc2", "\xe2\x80", "\x80", "\xa0", "\xf0\x9f\x98", "\xed\xa0\x80", "\xc0\xa0", "\xc0\x8a", "é", "\U0001f600"}
	for _, sign := range odd {
		wrong := []string{sign, sign + sign, sign + " " + sign}
		for _, line := range []string{"name a 1", "push", "pop", "check", "core", "ways 1", "assert true", "fold x", "value x", "prove true", "least x"} {
			wrong = append(wrong, sign+line, line+sign, sign+" "+line, line+" "+sign)
			if word, rest, more := strings.Cut(line, " "); more {
				wrong = append(wrong, word+sign+rest, word+sign+" "+rest, word+" "+sign+rest, word+" "+sign+" "+rest)
			}
		}
		deskWrong(t, steps, wrong...)
	}
	deskSays(t, "push\r\npop\r\n\r\n", "what\nwhat\nwhat\n")
	deskSays(t, "push\rpush", "what\n")
	deskSays(t, "\xe2\x80\npush\n\xc2\npop", "what\nfine\nwhat\nfine\n")
	deskSays(t, "\t\n\t\n \n", "what\nwhat\n")
	for b := range 256 {
		sign := string([]byte{byte(b)})
		if b == ' ' || b == '\n' {
			continue
		}
		deskSays(t, "push"+sign+"pop", "what\n")
		deskSays(t, "push\n"+sign+"\npop\npop", "fine\nwhat\nfine\nwhat\n")
		deskSays(t, "push\npop"+sign+"\npop\npop", "fine\nwhat\nfine\nwhat\n")
	}
}

// TestDeskMaxLines has as many lines as may be ahead of one with words, and more, of all kinds.
func TestDeskMaxLines(t *testing.T) {
	for many := 195; many <= 204; many++ {
		for _, c := range []struct{ line, answer string }{{"", ""}, {"  ", ""}, {"fly", "what\n"}, {"pop", "what\n"}, {"fold #1", "#1\n"}, {"check", "yes\n"}, {"ways 21", "what\n"}} {
			head, told := strings.Repeat(c.line+"\n", many), strings.Repeat(c.answer, min(many, 200))
			if many > 200 && c.answer != "" {
				told += "full\n"
				for _, last := range []string{"", "push", "\n\n", "\npush\n"} {
					deskSays(t, head+last, told)
				}
				continue
			}
			deskSays(t, head, told)
			deskSays(t, strings.TrimSuffix(head, "\n"), told)
			deskSays(t, head+"\n   \n\n\n\n\n\n", told)
			for _, last := range []string{"push", " push ", "fly", "\t", "push\n\n\n\n\n\n"} {
				answer := strings.Join(deskAnswers(last), "")
				if many >= 200 {
					answer = "full\n"
				}
				deskSays(t, head+last, told+answer)
			}
			for _, last := range []string{"\npush\npush", "push\npop\n\npush\n\n\npop", "\n\n\n\n\n\npush\n\npop"} {
				deskRuns(t, head+last)
				deskRuns(t, "\n \n"+head+last)
			}
		}
	}
	// Lines of any kind count: half of them have no words.
	mixed, fine := strings.Repeat("push\n\n pop \n  \n", 50), strings.Repeat("fine\n", 100)
	deskSays(t, mixed, fine)
	deskSays(t, mixed+"push", fine+"full\n")
	deskSays(t, mixed+"\n\n", fine)
	deskSays(t, mixed+"\n\nfly\nfly", fine+"full\n")
	deskSays(t, strings.TrimSuffix(mixed, "  \n")+"push", fine+"fine\n")
	for many, answer := range map[int]string{198: "fine\n", 199: "fine\n", 200: "full\n", 201: "full\n", 19990: "full\n"} {
		deskSays(t, strings.Repeat("\n", many)+"push", answer)
	}
}

// deskBytes is lines that answer just so many bytes, the last of them many at once.
func deskBytes(many int) []string {
	lines, ways := []string{"name a 2", "name b 2", "name c 2", "name d 2"}, []string{}
	many -= 20
	for many >= 30 {
		most := min(20, (many-10)/20)
		ways, many = append(ways, "ways "+strconv.Itoa(most)), many-20*most-4
	}
	for many > 3 {
		lines, many = append(lines, "fold a"), many-2
	}
	lines = append(lines, map[int]string{2: "fold b", 3: "fold #1"}[many])
	return slices.Concat(lines, ways)
}

// TestDeskMaxOut has answers of as many bytes as may be ahead of a line with words, and more.
func TestDeskMaxOut(t *testing.T) {
	for many := 19996; many <= 20005; many++ {
		head := strings.Join(deskBytes(many), "\n")
		told := deskRuns(t, head)
		if len(told) != many || strings.Contains(told, "full") || strings.Contains(told, "what") {
			t.Fatalf("the test itself is not sure of %d bytes: %d", many, len(told))
		}
		deskSays(t, head+"\n\n   \n\n", told)
		for _, last := range []struct{ line, answer string }{{"push", "fine\n"}, {"fold d", "d\n"}, {" fly ", "what\n"}} {
			want := told
			for range 4 {
				if len(want) > 20000 {
					want += "full\n"
					break
				}
				want += last.answer
			}
			deskSays(t, head+"\n"+last.line+"\n\n"+last.line+"\n   \n"+last.line+"\n"+last.line+"\n", want)
		}
		for _, last := range []string{"\t", "check", "ways 21", "long"} {
			if many == 20001 {
				deskSays(t, head+"\n"+last, told+"full\n")
			}
		}
	}
	// The last line may answer many bytes: all of them are told.
	told := deskRuns(t, strings.Join(deskBytes(20000), "\n")+"\nways 20\npush\n")
	if len(told) != 20000+404+5 || !strings.HasSuffix(told, "\nyes\nfull\n") {
		t.Error("the last line:", len(told))
	}
	// Both bounds are met: it is told once.
	full := strings.Join(deskBytes(20001), "\n") + strings.Repeat("\n", 200)
	deskSays(t, full+"push\npush", impl.DeskRun(full)+"full\n")
}

// TestDeskMaxText has scripts of as many bytes as may be, and one more, of all kinds.
func TestDeskMaxText(t *testing.T) {
	for _, c := range []struct{ head, fill, answer string }{
		{"", " ", ""}, {"", "\n", ""}, {"", "x", "what\n"}, {"", "\xff", "what\n"}, {"", "\t", "what\n"}, {"", "(", "what\n"}, {"push\n", " ", "fine\n"}, {"push\n", "\n", "fine\n"}, {"push", " ", "fine\n"}, {"push", "h", "what\n"}, {"name x ", "1", "what\n"}, {"name ", "x", "what\n"}, {"ways ", "9", "what\n"}, {"ways ", "0", "what\n"}, {"assert ", "(", "what\n"}, {"assert ", "(no ", "what\n"}, {"assert #", "0", "what\n"}, {"assert true", " ", "fine\n"}, {"fold (add #01 ", " ", "what\n"}, {"push\nfly ", "fly ", "fine\nwhat\n"},
	} {
		text := c.head + strings.Repeat(c.fill, 20000/len(c.fill)+1)
		deskSays(t, text[:20000], c.answer)
		deskSays(t, text[:19999], c.answer)
		for _, long := range []string{text[:20001-len(c.fill)] + c.fill, text[:20000] + "\n", text[:20000] + " ", text[:20000] + "\npush", "\n" + text[:20000], " " + text[:20000], text[:20000] + text[:20000]} {
			deskSays(t, long, "long\n")
		}
	}
	// A term with as many spaces as there may be.
	for _, wide := range []int{0, 1, 100, 19900} {
		text := "name x 1\nassert (same" + strings.Repeat(" ", wide+1) + "x #1)\ncheck"
		deskSays(t, text, "fine\nfine\nyes\nx #1\n")
	}
	exact := "name x 1\nassert (same x " + strings.Repeat(" ", 20000-len("name x 1\nassert (same x #1)\ncheck")) + "#1)\ncheck"
	deskSays(t, exact, "fine\nfine\nyes\nx #1\n")
	deskSays(t, exact+" ", "long\n")
	// Bytes count, not runes.
	deskSays(t, strings.Repeat("é", 10000), "what\n")
	deskSays(t, strings.Repeat("é", 10000)+" ", "long\n")
	deskSays(t, strings.Repeat("é", 10001), "long\n")
	deskSays(t, strings.Repeat("\U0001f600", 5000), "what\n")
	deskSays(t, strings.Repeat("\U0001f600", 5001), "long\n")
	deskSays(t, strings.Repeat("push\n", 4000), strings.Repeat("fine\n", 5)+strings.Repeat("what\n", 195)+"full\n")
	deskSays(t, strings.Repeat("push\n", 4001), "long\n")
	deskSays(t, strings.Repeat("push\n", 1<<20), "long\n")
}

// deskLine is any line, most of them such as can be done with layers.
func (m *maker) deskLine(c []impl.Layer) string {
	switch kind := m.below(20); kind {
	case 0, 1:
		return "push"
	case 2:
		return "pop"
	case 3, 4, 5, 6, 7, 8:
		return m.change(c).what
	case 9, 10:
		return "check"
	case 11:
		return "core"
	case 12:
		return "ways " + strconv.Itoa(m.below(1+m.below(22)))
	case 13:
		return []string{"", "  ", "fly", "check 1", "ways 01", "name x", "\t", "assert", "value (", "core core", "pop\r", "ways -1"}[m.below(12)]
	case 14, 15, 16, 17:
		m.d, _ = flat(c)
		m.left = 4 + m.below(14)
		return []string{"fold ", "value ", "prove ", "least "}[kind-14] + m.make(m.below(5), 1+m.below(5)).text
	}
	return "prove " + m.ofLayers(c).text
}

// deskLines is any lines behind layers, and the layers that they make. None of them leaves a layer that was there ahead of them.
func (m *maker) deskLines(c []impl.Layer, many int) ([]string, []impl.Layer) {
	s, lines := newDeskState(c), []string{}
	for len(lines) < many {
		line := m.deskLine(s.c)
		if line == "pop" && len(s.c) == len(c) {
			continue
		}
		switch word, _, _ := strings.Cut(line, " "); word {
		case "name", "push", "pop", "assert":
			s.answer(line)
		}
		lines = append(lines, line)
	}
	return lines, s.c
}

// TestDeskMade has any scripts, cut behind any of their lines.
func TestDeskMade(t *testing.T) {
	m, met := maker{seed: 117}, map[string]int{}
	for round := range 120 {
		lines, _ := m.deskLines(impl.CtxNew(), 5+round%36)
		text := strings.Join(lines, "\n")
		answers := deskAnswers(text)
		deskCuts(t, lines, answers)
		for i, answer := range answers {
			word, _, _ := strings.Cut(strings.TrimSpace(lines[i])+" ", " ")
			first, _, _ := strings.Cut(answer+"\n", "\n")
			met[word+" "+strings.Fields(first + " nothing")[0]]++
		}
	}
	for _, kind := range []string{"name fine", "name what", "push fine", "push what", "pop fine", "pop what", "assert fine", "assert what", "check yes", "check no", "core yes", "core 0", "ways way", "ways yes", "ways no", "value true", "value false", "value no", "prove always", "prove not", "prove what", "least no", "least what", "fold true"} {
		if met[kind] == 0 {
			t.Error("none met:", kind, met)
		}
	}
}

// TestDeskAll has all scripts of a few lines of one name or two.
func TestDeskAll(t *testing.T) {
	kinds := []string{"name x 1", "name y 1", "push", "pop", "assert (same x #1)", "assert (less y x)", "assert (no (same x y))", "assert (no true)", "check", "core", "value (cat x x)", "prove (same x #1)", "ways 2", "least (xor x y)", ""}
	work := []string{""}
	for level := range 4 {
		next := []string{}
		for at, text := range work {
			for i, line := range kinds {
				if level < 3 || (at+i)%7 == 0 {
					next = append(next, text+line+"\n")
				}
			}
		}
		work = next
		for _, text := range work {
			deskRuns(t, text)
		}
	}
	if len(work) < 7000 {
		t.Error("too few:", len(work))
	}
}

// TestDeskGone has any lines in a layer that is begun and left, between others: all lines behind it answer what they answer without it.
func TestDeskGone(t *testing.T) {
	m, many := maker{seed: 52}, 0
	for round := range 150 {
		first, c := m.deskLines(impl.CtxNew(), round%20)
		if len(c) == 6 {
			continue
		}
		within, above := m.deskLines(append(copyLayers(c), impl.Layer{}), round%25)
		within = slices.Concat([]string{"push"}, within, slices.Repeat([]string{"pop"}, len(above)-len(c)))
		last, _ := m.deskLines(c, 1+round%15)
		head := strings.Join(append(slices.Clone(first), ""), "\n")
		layer := strings.Join(append(within, ""), "\n")
		tail := strings.Join(last, "\n") + "\ncheck\ncore\nways 5\nvalue true\npush\npop\npop\ncheck"
		told := impl.DeskRun(head)
		rest, ok := strings.CutPrefix(impl.DeskRun(head+tail), told)
		with := impl.DeskRun(head + layer)
		if !ok || !strings.HasPrefix(with, told) {
			t.Fatalf("%q is not what the first lines answer", told)
		}
		if len(with) > 15000 || len(first)+len(within)*2+len(last) > 180 {
			continue
		}
		many++
		deskSays(t, head+layer+tail, with+rest)
		deskSays(t, head+layer+layer+tail, with+strings.TrimPrefix(with, told)+rest)
		deskRuns(t, head+layer+tail)
	}
	if many < 100 {
		t.Error("too few:", many)
	}
}

// TestDeskGoneWritten has one thing at a time in a layer that is gone.
func TestDeskGoneWritten(t *testing.T) {
	head, told := "name x 2\nassert (less #01 x)\ncheck\n", "fine\nfine\nyes\nx #10\n"
	tail := "check\nvalue x\nways 5\ncore\nprove (less x #11)\nleast (not x)\nname y 2\ncheck\npush\npop\npop\nassert (same x #11)\ncheck\nvalue x"
	rest := "yes\nx #10\n#10\nway #10\nway #11\nno\nyes\nnot\nx #11\n#00\nfine\nyes\nx #10\ny #00\nfine\nfine\nwhat\nfine\nyes\nx #11\ny #00\n#11\n"
	deskSays(t, head+tail, told+rest)
	for _, c := range []struct{ within, answer string }{
		{"", ""}, {"check\n", "yes\nx #10\n"}, {"value x\n", "#10\n"}, {"name y 4\n", "fine\n"}, {"name y 4\ncheck\n", "fine\nyes\nx #10\ny #0000\n"}, {"name z 6\n", "what\n"}, {"name x 1\n", "what\n"}, {"assert (less x #01)\n", "fine\n"}, {"assert (less x #01)\ncheck\n", "fine\nno\n"}, {"assert (less x #01)\ncore\n", "fine\n0\n1\nend\n"}, {"assert (same x #11)\ncheck\nvalue x\n", "fine\nyes\nx #11\n#11\n"}, {"assert (no true)\nvalue x\n", "fine\nno\n"}, {"assert x\n", "what\n"}, {"assert (same x y)\n", "what\n"}, {"push\npush\npush\npush\npush\npop\npop\npop\npop\n", "fine\nfine\nfine\nfine\nwhat\nfine\nfine\nfine\nfine\n"}, {"push\nassert (no true)\ncheck\npop\ncheck\n", "fine\nfine\nno\nfine\nyes\nx #10\n"}, {"name a 2\nname b 2\nname c 2\nname d 1\n", "fine\nfine\nfine\nwhat\n"},
		{strings.Repeat("assert true\n", 8), strings.Repeat("fine\n", 7) + "what\n"}, {strings.Repeat("assert (same x #11)\n", 7) + "check\nprove true\n", strings.Repeat("fine\n", 7) + "yes\nx #11\nwhat\n"}, {"fly\nways\n\n  \n\t\n", "what\nwhat\nwhat\n"},
	} {
		with := told + "fine\n" + c.answer + "fine\n"
		deskSays(t, head+"push\n"+c.within+"pop\n"+tail, with+rest)
		deskSays(t, head+"push\npop\npush\n"+c.within+"pop\n"+tail, told+"fine\nfine\nfine\n"+c.answer+"fine\n"+rest)
		deskSays(t, head+"push\n"+c.within+"pop\n\npush\n"+c.within+"pop\n"+tail, with+"fine\n"+c.answer+"fine\n"+rest)
	}
}

// TestDeskSpaces has lines without words put in between any, and spaces ahead of, between and behind words: no answer is another.
func TestDeskSpaces(t *testing.T) {
	m := maker{seed: 9}
	for round := range 100 {
		lines, _ := m.deskLines(impl.CtxNew(), 5+round%30)
		told := impl.DeskRun(strings.Join(lines, "\n"))
		wide, spread := []string{}, []string{}
		for _, line := range lines {
			gap := func(least int) string { return strings.Repeat(" ", least+m.below(4)) }
			words := gap(0)
			for _, word := range deskWords(line) {
				words += word + gap(1)
			}
			wide, spread = append(wide, words), append(append(spread, slices.Repeat([]string{gap(0)}, m.below(4))...), strings.TrimRight(words, " "))
		}
		deskSays(t, strings.Join(wide, "\n"), told)
		deskSays(t, strings.Join(spread, "\n"), told)
		deskSays(t, strings.Join(spread, "\n")+"\n\n \n", told)
	}
	// But lines of any kind count.
	deskSays(t, strings.Repeat("push\npop\n", 60), strings.Repeat("fine\n", 120))
	deskSays(t, strings.Repeat("push\n\npop\n \n", 60), strings.Repeat("fine\n", 100)+"full\n")
}

// TestDeskAny has any words of scripts, in any order, and any bytes.
func TestDeskAny(t *testing.T) {
	m := maker{seed: 4}
	words := []string{"name", "push", "pop", "assert", "check", "core", "ways", "fold", "value", "prove", "least", "x", "y", "true", "1", "2", "3", "20", "(no", "(same", "(less", "x)", "y)", "#01)", "true)", "(add", ")", "(", "#01", "\n", "\n", "\n", "\n", "\n", " ", "\t"}
	usual := []string{"name x 2\n", "name y 2\n", "assert (less x y)\n", "push\n", "pop\n", "check\n"}
	for range 3000 {
		text := ""
		for range m.below(30) {
			if m.below(4) == 0 {
				text += "\n" + usual[m.below(len(usual))]
			} else {
				text += words[m.below(len(words))] + " "
			}
		}
		deskRuns(t, text)
		bytes := []byte(text)
		for range m.below(5) {
			if len(bytes) > 0 {
				bytes[m.below(len(bytes))] = byte(m.below(256))
			}
		}
		deskRuns(t, string(bytes))
	}
}

// TestDeskTruth asks of any scripts that what is told is so, by what the terms are at all numbers for their names.
func TestDeskTruth(t *testing.T) {
	codes := map[int]int{}
	for i, d := range someDecls() {
		m := maker{seed: uint64(61 + i), d: d}
		for round := range 60 {
			samples, text := m.someSamples(1+round%4, 4+m.below(9)), ""
			m.left = 8
			value := m.make(1+round%4, 3)
			for _, decl := range d {
				text += "name " + decl.Name + " " + strconv.Itoa(decl.Wide) + "\n"
			}
			for _, s := range samples {
				text += "assert " + s.text + "\n"
			}
			told, ok := strings.CutPrefix(impl.DeskRun(text+"check\nvalue "+value.text+"\nways 20"), strings.Repeat("fine\n", len(d)+len(samples)))
			ways, want := trueWays(d, samples), "no\nno\nno\n"
			if len(ways) > 0 {
				lines := append([]string{"yes"}, numbersOf(d, ways[0])...)
				lines = append(lines, vecSample(value.is(ways[0])).text)
				for _, env := range ways[:min(20, len(ways))] {
					line := "way"
					for at, n := range env {
						line += " " + vecSample(impl.Vec{Wide: d[at].Wide, N: n}).text
					}
					lines = append(lines, line)
				}
				want = strings.Join(append(lines, map[bool]string{true: "yes", false: "no"}[len(ways) >= 20]), "\n") + "\n"
			}
			codes[min(1, len(ways))]++
			if !ok || told != want && !strings.Contains(told, "much") {
				t.Fatalf("%s %s: %q, want %q", textsIn(samples), value.text, told, want)
			}
		}
	}
	if codes[0] < 30 || codes[1] < 100 {
		t.Error("too few:", codes)
	}
}

// TestDeskMuch has scripts that ask for as much as they can: they come to an end.
func TestDeskMuch(t *testing.T) {
	for _, line := range []string{"check", "core", "ways 20", "value x", "prove " + slowYes, "least (mul x y)"} {
		for _, head := range []string{"name x 4\nname y 4\nassert " + slowNo, "name x 4\nname y 4\nassert (same (not (rem y x)) x)", "name x 4\nname y 4" + strings.Repeat("\nassert (less x y)\nassert (same (mul x y) #1011)\nassert (under y x)", 2)} {
			began := time.Now()
			told := impl.DeskRun(head + strings.Repeat("\n"+line, 40))
			if one := strings.Join(deskAnswers(head + "\n" + line)[strings.Count(head, "\n")+1:], ""); !strings.HasSuffix(told, strings.Repeat(one, 40)) || time.Since(began) > time.Minute {
				t.Errorf("%s behind %s: %s, %v", line, head, brief(told), time.Since(began))
			}
		}
	}
}

// TestDeskAgain has scripts that are run one behind the other, and at once: no call knows of another.
func TestDeskAgain(t *testing.T) {
	m := maker{seed: 15}
	texts, told := []string{}, []string{}
	for round := range 30 {
		lines, _ := m.deskLines(impl.CtxNew(), 5+round)
		texts = append(texts, strings.Join(lines, "\n"))
		told = append(told, impl.DeskRun(texts[round]))
	}
	done := make(chan bool)
	for range 4 {
		go func() {
			right := true
			for i, text := range texts {
				right = right && impl.DeskRun(text) == told[i] && impl.DeskRun(texts[29-i]) == told[29-i]
			}
			done <- right
		}()
	}
	for range 4 {
		if !<-done {
			t.Error("another answer")
		}
	}
	deskSays(t, "name x 1\npush", "fine\nfine\n")
	deskSays(t, "value x\npop", "what\nwhat\n")
}

// TestDeskIsNew has answers that lie in no memory of a script.
func TestDeskIsNew(t *testing.T) {
	for _, text := range []string{"name abcd 1\nfold abcd", "fold true", "name x 1\ncheck", "what", "full", "long", "fold #0110"} {
		if told := impl.DeskRun(text); overlap(told, text) {
			t.Errorf("%q answers in its own memory", text)
		}
	}
}
