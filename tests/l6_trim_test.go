package tests

import (
	"math"
	"math/rand"
	"reflect"
	"slices"
	"strconv"
	"strings"
	"testing"

	"loop.example/lairage/impl"
)

// trimWorld has things with two references, things with one, and rows of them; functions hold two references ahead of
// their third instruction, and one, where they wait behind it.
const trimWorld = `group
box - rany! rany! n!
box - rany!
row - rany!
row - n!
glob rany rany n
fun n
own rany rany n
get 0
get 1
call 1
say
drop
num 0
ret
fun n rany
own rany
get 0
get 1
call 1
say
drop
num 0
ret
`

// trimCase is a state, what is reached of it, and the state and its words, trimmed.
type trimCase struct {
	name  string
	from  string
	reach string
	to    string
	words int
}

// listText is a list of numbers as a text.
func listText(all []int) string {
	var words []string
	for _, n := range all {
		words = append(words, strconv.Itoa(n))
	}
	return strings.Join(words, " ")
}

// checkTrimmed holds what is told of a state that can be against what it should be.
func checkTrimmed(t *testing.T, p impl.Prog, m impl.Mean, reach string, want string, words int) {
	t.Helper()
	if !impl.MeanOk(p, m) {
		t.Fatalf("not ok: %s", meanText(m))
	}
	if got := listText(impl.MeanReach(p, m)); got != reach {
		t.Errorf("%s reaches %s, not %s", meanText(m), got, reach)
	}
	trim := impl.MeanTrim(p, m)
	if got := meanText(trim); got != want {
		t.Errorf("%s is trimmed to %s, not %s", meanText(m), got, want)
	}
	if got := impl.MeanWords(p, m); got != words {
		t.Errorf("%s has %d words, not %d", meanText(m), got, words)
	}
	checkStays(t, p, trim, words)
}

// checkStays asks that a state which was trimmed can be, and that nothing is left to trim.
func checkStays(t *testing.T, p impl.Prog, trim impl.Mean, words int) {
	t.Helper()
	if !impl.MeanOk(p, trim) {
		t.Errorf("trimmed, it is not ok: %s", meanText(trim))
	}
	if again := impl.MeanTrim(p, trim); !impl.MeanSame(again, trim) {
		t.Errorf("%s is trimmed again to %s", meanText(trim), meanText(again))
	}
	for at, place := range impl.MeanReach(p, trim) {
		if at != place {
			t.Errorf("%s: %d is reached at %d", meanText(trim), place, at)
		}
	}
	if got := impl.MeanWords(p, trim); got != words {
		t.Errorf("%s has %d words, not %d", meanText(trim), got, words)
	}
}

func checkTrimCases(t *testing.T, text string, cases []trimCase) {
	t.Helper()
	p := readProg(t, text)
	for _, c := range cases {
		t.Run(c.name, func(t *testing.T) {
			checkTrimmed(t, p, meanOf(t, c.from), c.reach, c.to, c.words)
		})
	}
}

// TestTrimOrder has many things that are alike, so that only what names them says which comes first.
func TestTrimOrder(t *testing.T) {
	five := strings.TrimSpace(strings.Repeat("1(-) ", 5))
	checkTrimCases(t, trimWorld, []trimCase{
		{"what all share, in order", five + "|(@3 @1 0)|0:0(- - 0)()||0|0", "3 1", "1(-) 1(-)|(@0 @1 0)|0:0(- - 0)()||0|0", 4},
		{"what all share ahead of places", five + "|(- @4 0)|0:0(@2 @0 0)()||0|0", "4 2 0", "1(-) 1(-) 1(-)|(- @0 0)|0:0(@1 @2 0)()||0|0", 6},
		{"places ahead of what is held", five + "|(- - 0)|0:2(@4 @3 0)(@1 @0)||0|0", "4 3 1 0", "1(-) 1(-) 1(-) 1(-)|(- - 0)|0:2(@0 @1 0)(@2 @3)||0|0", 8},
		{"what is held, from the lowest on", five + "|(- - 0)|0:2(- - 0)(@2 @4)||0|0", "2 4", "1(-) 1(-)|(- - 0)|0:2(- - 0)(@0 @1)||0|0", 4},
		{"the first frame ahead of the others", five + " 1(-)|(- - 0)|0:3(@5 - 0)(@4) 1:3(@3 -)(@2) 1:2(@1 -)(- @0)||0|0", "5 4 3 2 1 0",
			"1(-) 1(-) 1(-) 1(-) 1(-) 1(-)|(- - 0)|0:3(@0 - 0)(@1) 1:3(@2 -)(@3) 1:2(@4 -)(- @5)||0|0", 12},
		{"what is held by the first ahead of places of the next", five + "|(- - 0)|0:3(- - 0)(@3) 1:2(@0 @2)(- @1)||0|0", "3 0 2 1",
			"1(-) 1(-) 1(-) 1(-)|(- - 0)|0:3(- - 0)(@0) 1:2(@1 @2)(- @3)||0|0", 8},
		{"all of them, and of five frames", five + " " + five + "|(@9 @8 0)|0:3(@7 - 0)(@6) 1:3(@5 -)(-) 1:3(- @4)(-) 1:3(- -)(@3) 1:0(@2 @1)()||0|0", "9 8 7 6 5 4 3 2 1",
			strings.TrimSpace(strings.Repeat("1(-) ", 9)) + "|(@0 @1 0)|0:3(@2 - 0)(@3) 1:3(@4 -)(-) 1:3(- @5)(-) 1:3(- -)(@6) 1:0(@7 @8)()||0|0", 18},
		{"what stands in things behind all others", "1(-) 1(@0) 1(-)|(@1 - 0)|0:1(@2 - 0)(@2)||0|0", "1 2 0", "1(@2) 1(-) 1(-)|(@0 - 0)|0:1(@1 - 0)(@1)||0|0", 6},
		{"breadth first", "0(@1 @2 5) 0(@3 @4 6) 0(@5 @6 7) 1(-) 1(-) 1(-) 1(-)|(@0 - 0)|0:0(- - 0)()||0|0", "0 1 2 3 4 5 6",
			"0(@1 @2 5) 0(@3 @4 6) 0(@5 @6 7) 1(-) 1(-) 1(-) 1(-)|(@0 - 0)|0:0(- - 0)()||0|0", 20},
		{"breadth first, made the other way", "1(-) 1(-) 1(-) 1(-) 0(@3 @2 7) 0(@1 @0 6) 0(@5 @4 5)|(- @6 0)|0:0(- - 0)()||0|0", "6 5 4 1 0 3 2",
			"0(@1 @2 5) 0(@3 @4 6) 0(@5 @6 7) 1(-) 1(-) 1(-) 1(-)|(- @0 0)|0:0(- - 0)()||0|0", 20},
		{"two roots, each in order", "1(@2) 1(@3) 1(-) 1(-)|(@1 @0 0)|0:0(- - 0)()||0|0", "1 0 3 2", "1(@2) 1(@3) 1(-) 1(-)|(@0 @1 0)|0:0(- - 0)()||0|0", 8},
		{"a line", "1(-) 1(@0) 1(@1) 1(@2)|(- - 0)|0:1(- - 0)(@3)||0|0", "3 2 1 0", "1(@1) 1(@2) 1(@3) 1(-)|(- - 0)|0:1(- - 0)(@0)||0|0", 8},
		{"the part of a line behind its root", "1(-) 1(@0) 1(@1) 1(@2)|(- - 0)|0:1(- - 0)(@1)||0|0", "1 0", "1(@1) 1(-)|(- - 0)|0:1(- - 0)(@0)||0|0", 4},
	})
}

func TestTrimRounds(t *testing.T) {
	checkTrimCases(t, trimWorld, []trimCase{
		{"itself", "1(-) 1(@1)|(@1 - 0)|0:0(- - 0)()||0|0", "1", "1(@0)|(@0 - 0)|0:0(- - 0)()||0|0", 2},
		{"itself, and not reached", "1(@0) 1(-)|(@1 - 0)|0:0(- - 0)()||0|0", "1", "1(-)|(@0 - 0)|0:0(- - 0)()||0|0", 2},
		{"itself twice", "0(@0 @0 9)|(- - 0)|0:0(- @0 0)()||0|0", "0", "0(@0 @0 9)|(- - 0)|0:0(- @0 0)()||0|0", 4},
		{"two", "1(@1) 1(@0)|(@1 - 0)|0:0(- - 0)()||0|0", "1 0", "1(@1) 1(@0)|(@0 - 0)|0:0(- - 0)()||0|0", 4},
		{"two, both named", "1(@1) 1(@0)|(@0 @1 0)|0:0(- - 0)()||0|0", "0 1", "1(@1) 1(@0)|(@0 @1 0)|0:0(- - 0)()||0|0", 4},
		{"three", "1(@2) 1(@0) 1(@1)|(- - 0)|0:1(- - 0)(@0)||0|0", "0 2 1", "1(@1) 1(@2) 1(@0)|(- - 0)|0:1(- - 0)(@0)||0|0", 6},
		{"three, and the other way round", "1(@2) 1(@0) 1(@1)|(- - 0)|0:1(- - 0)(@2)||0|0", "2 1 0", "1(@1) 1(@2) 1(@0)|(- - 0)|0:1(- - 0)(@0)||0|0", 6},
		{"one round is reached and one is not", "1(@2) 1(@3) 1(@0) 1(@1)|(@3 - 0)|0:0(- - 0)()||0|0", "3 1", "1(@1) 1(@0)|(@0 - 0)|0:0(- - 0)()||0|0", 4},
		{"a round that is not reached names what is", "0(@1 @2 5) 0(@0 @2 6) 1(-)|(@2 - 0)|0:0(- - 0)()||0|0", "2", "1(-)|(@0 - 0)|0:0(- - 0)()||0|0", 2},
		{"a round that is reached leads on", "1(-) 0(@2 @0 5) 1(@1)|(@2 - 0)|0:0(- - 0)()||0|0", "2 1 0", "1(@1) 0(@0 @2 5) 1(-)|(@0 - 0)|0:0(- - 0)()||0|0", 8},
		{"two rounds with one in both", "0(@1 @2 5) 1(@0) 1(@0)|(@2 - 0)|0:0(- - 0)()||0|0", "2 0 1", "1(@1) 0(@2 @0 5) 1(@1)|(@0 - 0)|0:0(- - 0)()||0|0", 8},
		{"none is reached", "1(@1) 1(@2) 1(@0) 1(@3)|(- - 0)|0:0(- - 0)()||0|0", "", "|(- - 0)|0:0(- - 0)()||0|0", 0},
	})
}

func TestTrimNamedTwice(t *testing.T) {
	three := "1(-) 1(-) 1(-)"
	checkTrimCases(t, trimWorld, []trimCase{
		{"by what all share", three + "|(@2 @2 0)|0:0(- - 0)()||0|0", "2", "1(-)|(@0 @0 0)|0:0(- - 0)()||0|0", 2},
		{"by places", three + "|(- - 0)|0:0(@1 @1 0)()||0|0", "1", "1(-)|(- - 0)|0:0(@0 @0 0)()||0|0", 2},
		{"by what is held", three + "|(- - 0)|0:2(- - 0)(@1 @1)||0|0", "1", "1(-)|(- - 0)|0:2(- - 0)(@0 @0)||0|0", 2},
		{"by what all share and by places", three + "|(@0 @2 0)|0:0(@2 @1 0)()||0|0", "0 2 1", "1(-) 1(-) 1(-)|(@0 @1 0)|0:0(@1 @2 0)()||0|0", 6},
		{"by places and by what is held", three + "|(- - 0)|0:2(@2 @0 0)(@0 @2)||0|0", "2 0", "1(-) 1(-)|(- - 0)|0:2(@0 @1 0)(@1 @0)||0|0", 4},
		{"by two frames", three + "|(- - 0)|0:3(@1 - 0)(@2) 1:2(@2 @0)(@1 @0)||0|0", "1 2 0", "1(-) 1(-) 1(-)|(- - 0)|0:3(@0 - 0)(@1) 1:2(@1 @2)(@0 @2)||0|0", 6},
		{"by what all share and by a thing", "1(-) 0(@2 @0 1) 1(-)|(@1 @0 0)|0:0(- - 0)()||0|0", "1 0 2", "0(@2 @1 1) 1(-) 1(-)|(@0 @1 0)|0:0(- - 0)()||0|0", 8},
		{"by what is held last and by a thing", "1(@2) 1(-) 1(-)|(@0 - 0)|0:2(- - 0)(@1 @2)||0|0", "0 1 2", "1(@2) 1(-) 1(-)|(@0 - 0)|0:2(- - 0)(@1 @2)||0|0", 6},
		{"by one thing", "1(-) 1(-) 0(@1 @1 8)|(@2 - 0)|0:0(- - 0)()||0|0", "2 1", "0(@1 @1 8) 1(-)|(@0 - 0)|0:0(- - 0)()||0|0", 6},
		{"by two things", "1(-) 1(@0) 0(- @0 8)|(@2 @1 0)|0:0(- - 0)()||0|0", "2 1 0", "0(- @2 8) 1(@2) 1(-)|(@0 @1 0)|0:0(- - 0)()||0|0", 8},
		{"by two things of which one comes by the other", "1(-) 0(@2 @0 7) 0(@0 @1 8)|(- @1 0)|0:0(- - 0)()||0|0", "1 2 0", "0(@1 @2 7) 0(@2 @0 8) 1(-)|(- @0 0)|0:0(- - 0)()||0|0", 10},
		{"by a row, at its first place", "2(@2 @1 @2 @0 @1 @0) 1(-) 1(-)|(@0 - 0)|0:0(- - 0)()||0|0", "0 2 1", "2(@1 @2 @1 @0 @2 @0) 1(-) 1(-)|(@0 - 0)|0:0(- - 0)()||0|0", 11},
	})
}

func TestTrimWhatNamesNothing(t *testing.T) {
	three := "1(-) 1(-) 1(-)"
	checkTrimCases(t, trimWorld, []trimCase{
		{"numbers, none and chips", three + "|(c0 - 1)|0:2(c1 c2 2)(- c0)||0|0", "", "|(c0 - 1)|0:2(c1 c2 2)(- c0)||0|0", 0},
		{"beside what does", three + "|(c2 @1 1)|0:2(c0 @0 2)(c1 -)||0|0", "1 0", "1(-) 1(-)|(c2 @0 1)|0:2(c0 @1 2)(c1 -)||0|0", 4},
		{"in things", "0(c1 - 2) 1(c0) 2(c2 - c1) 3(0 1 2)|(@0 @2 3)|0:1(- - 1)(@3)||0|0", "0 2 3", "0(c1 - 2) 2(c2 - c1) 3(0 1 2)|(@0 @1 3)|0:1(- - 1)(@2)||0|0", 12},
		{"what was told and asked", three + "|(- - 0)|0:0(- @2 0)()|2 1 0 9975|2|0", "2", "1(-)|(- - 0)|0:0(- @0 0)()|2 1 0 9975|2|0", 2},
		{"a row of nothing", "2() 2() 3()|(@1 - 0)|0:0(- - 0)()||0|0", "1", "2()|(@0 - 0)|0:0(- - 0)()||0|0", 1},
		{"a row of nothing that is named by a row", "2() 2(@0)|(@1 - 0)|0:0(- - 0)()||0|0", "1 0", "2(@1) 2()|(@0 - 0)|0:0(- - 0)()||0|0", 3},
		{"a row of six", "1(-) 1(-) 2(@1 c0 - @2 c1 @0) 1(@2)|(@2 - 0)|0:0(- - 0)()||0|0", "2 1 0", "2(@1 c0 - @0 c1 @2) 1(-) 1(-)|(@0 - 0)|0:0(- - 0)()||0|0", 11},
		{"a row of six things", "1(-) 1(-) 1(-) 1(-) 1(-) 1(-) 2(@5 @3 @1 @0 @2 @4)|(@6 - 0)|0:0(- - 0)()||0|0", "6 5 3 1 0 2 4",
			"2(@1 @2 @3 @4 @5 @6) 1(-) 1(-) 1(-) 1(-) 1(-) 1(-)|(@0 - 0)|0:0(- - 0)()||0|0", 19},
		{"a row of six numbers", "3(5 4 3 2 1 0)|(@0 - 0)|0:0(- - 0)()||0|0", "0", "3(5 4 3 2 1 0)|(@0 - 0)|0:0(- - 0)()||0|0", 7},
		{"no things", "|(- - 0)|0:0(- - 0)()||0|0", "", "|(- - 0)|0:0(- - 0)()||0|0", 0},
		{"no frames", "1(-) 1(-) 1(@0)|(- @2 9)||5 6|1|1", "2 0", "1(@1) 1(-)|(- @0 9)||5 6|1|1", 4},
		{"no frames, and nothing is reached", "1(-) 1(-) 1(@0)|(- - 9)||5 6|1|1", "", "|(- - 9)||5 6|1|1", 0},
	})
	checkTrimCases(t, "group\nbox -\nfun n\nown r0\nget 0\ndrop\nnum 1\nret\n", []trimCase{
		{"nothing that all share", "0() 0()|()|0:1(-)(@1)||0|0", "1", "0()|()|0:1(-)(@0)||0|0", 1},
		{"nothing that all share, and no frames", "0() 0()|()||4|0|1", "", "|()||4|0|1", 0},
	})
	checkTrimCases(t, "fun n\nnum 1\nret\n", []trimCase{
		{"no types", "|()|0:0()()||0|0", "", "|()|0:0()()||0|0", 0},
		{"no types, and no frames", "|()|||0|1", "", "|()|||0|1", 0},
	})
}

// TestTrimEnds asks what is reached where a program has ended: its code says nothing of that.
func TestTrimEnds(t *testing.T) {
	p := readProg(t, trimWorld)
	for code := impl.EndGoes; code <= impl.EndHost; code++ {
		from, to := "1(-) 1(@2) 1(-)|(- @1 4)|0:3(@0 - 5)(c7) 1:2(@2 @1)(- @2)|5 6 7|3|", "1(@2) 1(-) 1(-)|(- @0 4)|0:3(@1 - 5)(c7) 1:2(@2 @0)(- @2)|5 6 7|3|"
		reach, words := "1 0 2", 6
		if code == impl.EndFine {
			from, to = "1(-) 1(@2) 1(-)|(- @1 4)||5 6 7|3|", "1(@1) 1(-)|(- @0 4)||5 6 7|3|"
			reach, words = "1 2", 4
		}
		end := strconv.Itoa(code)
		checkTrimmed(t, p, meanOf(t, from+end), reach, to+end, words)
	}
}

// TestTrimMany has more things than a program makes: of those that can be there is no bound.
func TestTrimMany(t *testing.T) {
	p := readProg(t, trimWorld)
	const all = 3000
	var things []impl.Thing
	for at := range all {
		things = append(things, impl.Thing{Type: 1, Vals: values(thing((at + all - 2) % all))})
	}
	m := meanOf(t, "|(- - 0)|0:1(- - 0)(@7)||0|0")
	m.Things = things
	reach, trim := impl.MeanReach(p, m), impl.MeanTrim(p, m)
	if len(reach) != all/2 || len(trim.Things) != all/2 || impl.MeanWords(p, m) != all {
		t.Fatal(len(reach), len(trim.Things), impl.MeanWords(p, m))
	}
	for at, place := range reach {
		if want := (7 + all - 2*at) % all; place != want {
			t.Fatalf("%d at %d, not %d", place, at, want)
		}
		if want := thing((at + 1) % (all / 2)); trim.Things[at].Vals[0] != want {
			t.Fatalf("%v at %d, not %v", trim.Things[at], at, want)
		}
	}
}

// checkTrimNothing asks for what is told where a program can not be.
func checkTrimNothing(t *testing.T, name string, p impl.Prog, m impl.Mean) {
	t.Helper()
	if got := impl.MeanReach(p, m); len(got) != 0 {
		t.Errorf("%s: %s reaches %v", name, meanText(m), got)
	}
	if got := impl.MeanTrim(p, m); meanText(got) != "|()|||0|10" {
		t.Errorf("%s: %s is trimmed to %s", name, meanText(m), meanText(got))
	}
	if got := impl.MeanWords(p, m); got != 0 {
		t.Errorf("%s: %s has %d words", name, meanText(m), got)
	}
}

func TestTrimWhereItCanNotBe(t *testing.T) {
	for name, p := range noGo(t) {
		for _, text := range []string{"|()|0:0()()||0|0", "|()|||0|1", "|()|||0|10", "0()|()|0:0()()||0|0", "0(5)|(@0)|0:0(@0)()||0|0", "0()|()|0:0(0)()||0|0"} {
			checkTrimNothing(t, name, p, meanOf(t, text))
		}
	}
	p := readProg(t, trimWorld)
	full := meanOf(t, "1(@1) 1(-) 1(@3) 1(-) 0(c1 - 7)|(@0 @4 3)|0:3(@1 - 2)(@0) 1:2(@0 @1)(- @1)|5 6|1|0")
	if !impl.MeanOk(p, full) {
		t.Fatal("not ok")
	}
	for _, n := range []int{5, 6, -1, math.MinInt, math.MaxInt} {
		names := thing(n)
		for name, turn := range map[string]func(m *impl.Mean){
			"shared":          func(m *impl.Mean) { m.Glob[1] = names },
			"place":           func(m *impl.Mean) { m.Frames[1].Locals[1] = names },
			"waiting place":   func(m *impl.Mean) { m.Frames[0].Locals[1] = names },
			"held":            func(m *impl.Mean) { m.Frames[1].Stack[0] = names },
			"waiting held":    func(m *impl.Mean) { m.Frames[0].Stack[0] = names },
			"in what is":      func(m *impl.Mean) { m.Things[1].Vals[0] = names },
			"in what is not":  func(m *impl.Mean) { m.Things[3].Vals[0] = names },
			"in what is last": func(m *impl.Mean) { m.Things[4].Vals[1] = names },
		} {
			checkTrimNothing(t, name, p, turnedMean(full, turn))
		}
	}
	for name, m := range sameTurns(full) {
		if !plainMeanOk(p, m) {
			checkTrimNothing(t, name, p, m)
		} else if got, want := impl.MeanTrim(p, m), plainTrim(m); !impl.MeanSame(got, want) {
			t.Errorf("%s: %s is trimmed to %s, not %s", name, meanText(m), meanText(got), meanText(want))
		}
	}
	for name, m := range map[string]impl.Mean{
		"nothing": {}, "form": {Code: impl.EndForm}, "no room": turnedMean(full, func(m *impl.Mean) { m.Code = impl.EndRoom }),
		"what is not reached is not right": turnedMean(full, func(m *impl.Mean) { m.Things[3].Vals[0] = number(1) }),
	} {
		checkTrimNothing(t, name, p, m)
	}
}

// checkTrimWords holds all that is told of a state against the document's words.
func checkTrimWords(t *testing.T, p impl.Prog, m impl.Mean) impl.Mean {
	t.Helper()
	if got, want := impl.MeanReach(p, m), plainReach(m); !slices.Equal(got, want) {
		t.Fatalf("%q: %s reaches %v, not %v", impl.ProgText(p), meanText(m), got, want)
	}
	trim := impl.MeanTrim(p, m)
	if want := plainTrim(m); !impl.MeanSame(trim, want) {
		t.Fatalf("%q: %s is trimmed to %s, not %s", impl.ProgText(p), meanText(m), meanText(trim), meanText(want))
	}
	words := plainWords(m)
	if got := impl.MeanWords(p, m); got != words {
		t.Fatalf("%q: %s has %d words, not %d", impl.ProgText(p), meanText(m), got, words)
	}
	checkStays(t, p, trim, words)
	return trim
}

// otherOrder is a state whose things were made in another order, some that nothing reaches among them.
func otherOrder(r *rand.Rand, m impl.Mean) impl.Mean {
	own := copyMean(m)
	for range r.Intn(4) {
		if many := len(m.Things); many > 0 {
			own.Things = append(own.Things, copyMean(m).Things[r.Intn(many)])
		}
	}
	return mixed(own, r.Perm(len(own.Things)))
}

// TestTrimPromise goes through programs made up at random, step by step: neither what can not be reached nor in which
// order things were made makes a difference to what a step comes to, but for their places.
func TestTrimPromise(t *testing.T) {
	r := rand.New(rand.NewSource(6))
	lost, turned, many := 0, 0, 0
	for range 300 {
		p, host := soundProg(r), someHost(r)
		// It is trimmed, or mixed, ahead of each step, and goes its own way from there on.
		slim, other := impl.MeanStart(p), impl.MeanStart(p)
		meanWalk(p, host, 60, func(from impl.Mean, to impl.Mean) {
			trim := checkTrimWords(t, p, from)
			mix := otherOrder(r, from)
			if got := impl.MeanTrim(p, mix); !impl.MeanSame(got, trim) {
				t.Fatalf("%q: %s is trimmed to %s, but %s to %s", impl.ProgText(p), meanText(from), meanText(trim), meanText(mix), meanText(got))
			}
			slim, other = impl.MeanStep(p, host, impl.MeanTrim(p, slim)), impl.MeanStep(p, host, otherOrder(r, other))
			want := impl.MeanTrim(p, to)
			for _, behind := range []impl.Mean{impl.MeanStep(p, host, trim), impl.MeanStep(p, host, mix), slim, other} {
				if got := impl.MeanTrim(p, behind); !impl.MeanSame(got, want) || want.Code == impl.EndForm {
					t.Fatalf("%q with %v: behind %s comes %s, and trimmed %s", impl.ProgText(p), host, meanText(from), meanText(want), meanText(got))
				}
				if !slices.Equal(behind.Outs, to.Outs) || behind.Asked != to.Asked || behind.Code != to.Code {
					t.Fatalf("%q with %v: %s tells something else than %s", impl.ProgText(p), host, meanText(behind), meanText(to))
				}
			}
			lost += len(from.Things) - len(trim.Things)
			many = max(many, len(trim.Things))
			if !slices.IsSorted(plainReach(mix)) {
				turned++
			}
		})
	}
	// The programs are such that it is worth it: much is lost, much is reached, and in another order.
	if lost < 1000 || turned < 500 || many < 8 {
		t.Error(lost, turned, many)
	}
}

// TestTrimMarred turns parts of states that programs are in, and holds what is told of them against the document's words.
func TestTrimMarred(t *testing.T) {
	r := rand.New(rand.NewSource(66))
	right, wrong := 0, 0
	for range 150 {
		p, host := soundProg(r), someHost(r)
		var states []impl.Mean
		meanWalk(p, host, 40, func(from impl.Mean, to impl.Mean) { states = append(states, from, to) })
		for range 20 {
			m := marredMean(r, states[r.Intn(len(states))])
			if plainMeanOk(p, m) {
				right++
				checkTrimWords(t, p, m)
			} else {
				wrong++
				checkTrimNothing(t, impl.ProgText(p), p, m)
			}
		}
	}
	if right < 300 || wrong < 300 {
		t.Error(right, wrong)
	}
}

// knot is a state of trimWorld whose things name one another at random.
func knot(r *rand.Rand) impl.Mean {
	many := r.Intn(9)
	some := func(n int) []impl.Val {
		var vals []impl.Val
		for range n {
			switch r.Intn(5) {
			case 0:
				vals = append(vals, none())
			case 1:
				vals = append(vals, chip(r.Intn(9)))
			default:
				if many == 0 {
					vals = append(vals, none())
				} else {
					vals = append(vals, thing(r.Intn(many)))
				}
			}
		}
		return vals
	}
	m := impl.Mean{Glob: append(some(2), number(r.Intn(9)))}
	for range many {
		one := impl.Thing{Type: r.Intn(4)}
		switch one.Type {
		case 0:
			one.Vals = append(some(2), number(r.Intn(9)))
		case 1:
			one.Vals = some(1)
		case 2:
			one.Vals = some(r.Intn(7))
		default:
			one.Vals = values(number(r.Intn(9)))
		}
		m.Things = append(m.Things, one)
	}
	frames := 1 + r.Intn(5)
	for f := range frames {
		own := impl.Frame{Pc: 3, Locals: append(some(2), number(r.Intn(9))), Stack: some(1)}
		if f > 0 {
			own.Fun, own.Locals = 1, own.Locals[:2]
		}
		if f == frames-1 {
			own.Pc, own.Stack = 2, some(2)
		}
		m.Frames = append(m.Frames, own)
	}
	return m
}

func TestTrimKnots(t *testing.T) {
	p := readProg(t, trimWorld)
	r := rand.New(rand.NewSource(666))
	for range 3000 {
		m := knot(r)
		if !impl.MeanOk(p, m) {
			t.Fatalf("not ok: %s", meanText(m))
		}
		trim := checkTrimWords(t, p, m)
		if mix := otherOrder(r, m); !impl.MeanSame(impl.MeanTrim(p, mix), trim) {
			t.Fatalf("%s and %s are trimmed to two", meanText(m), meanText(mix))
		}
	}
}

// TestTrimTurnsNothing hands in what has room behind each list, and writes over all that is answered.
func TestTrimTurnsNothing(t *testing.T) {
	r := rand.New(rand.NewSource(6666))
	world := readProg(t, trimWorld)
	for range 300 {
		p := copyProg(world)
		m := copyMean(knot(r))
		wholeProg, whole := spreadProg(p), spreadMean(m)
		reach, other, trim := impl.MeanReach(p, m), impl.MeanReach(p, m), impl.MeanTrim(p, m)
		impl.MeanWords(p, m)
		text := meanText(trim)
		want := slices.Clone(other)
		for at := range reach[:cap(reach)] {
			reach[:cap(reach)][at] = -66
		}
		if !slices.Equal(other, want) || meanText(trim) != text {
			t.Fatal("two answers are one")
		}
		if scribble(trim) {
			t.Fatalf("two lists are one: %s", text)
		}
		if !slices.Equal(other, want) {
			t.Fatal("two answers are one")
		}
		if !reflect.DeepEqual(spreadMean(m), whole) || !reflect.DeepEqual(spreadProg(p), wholeProg) {
			t.Fatalf("what was handed in is turned: %s", text)
		}
		if got := impl.MeanTrim(p, m); meanText(got) != text {
			t.Fatalf("%s, and then %s", text, meanText(got))
		}
	}
}
