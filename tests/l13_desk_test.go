package tests

import (
	"fmt"
	"math"
	"math/rand"
	"reflect"
	"slices"
	"strconv"
	"strings"
	"testing"

	"loop.example/lairage/impl"
)

// expectDesk asks what a script answers, and holds that against the document's words too.
func expectDesk(t *testing.T, name string, in string, want string) {
	t.Helper()
	if got := impl.DeskRun(in); got != want {
		t.Errorf("%s: %.300q answers %.300q, not %.300q", name, in, got, want)
	}
	if plain := strings.Join(plainDesk(in), ""); plain != want {
		t.Errorf("%s: %.300q answers %.300q by the document's words, not %.300q", name, in, plain, want)
	}
}

func expectDesks(t *testing.T, cases []deskCase) {
	t.Helper()
	for _, c := range cases {
		expectDesk(t, c.name, c.in, c.want)
	}
}

func TestDeskConstants(t *testing.T) {
	if bounds := []int{impl.DeskMaxText, impl.DeskMaxLines, impl.DeskMaxOut}; !slices.Equal(bounds, []int{20000, 300, 40000}) {
		t.Error(bounds)
	}
}

func TestThingText(t *testing.T) {
	most, least := strconv.Itoa(math.MaxInt), strconv.Itoa(math.MinInt)
	for _, c := range []struct {
		typ  int
		vals []impl.Val
		want string
	}{
		{0, nil, "0"}, {0, values(), "0"}, {7, nil, "7"}, {8, nil, "8"}, {12345, nil, "12345"}, {-1, nil, "-1"}, {-2, nil, "-2"}, {-300, values(number(4)), "-300 4"},
		{math.MaxInt, values(none()), most + " -"}, {math.MinInt, values(none()), least + " -"},
		{0, values(number(0)), "0 0"}, {1, values(chip(0)), "1 c0"}, {2, values(thing(0)), "2 @0"}, {3, values(none()), "3 -"},
		{2, values(chip(3), thing(1), number(9), impl.Val{}), "2 c3 @1 9 -"},
		{5, values(number(9972), number(9973), number(1)), "5 9972 9973 1"},
		{5, values(number(-1), chip(-1), thing(-1)), "5 -1 c-1 @-1"},
		{5, values(number(math.MaxInt), chip(math.MaxInt), thing(math.MaxInt)), "5 " + most + " c" + most + " @" + most},
		{5, values(number(math.MinInt), chip(math.MinInt), thing(math.MinInt)), "5 " + least + " c" + least + " @" + least},
		// None has no number, whatever its N is, and so have kinds that are none.
		{4, values(impl.Val{Kind: 2, N: 5}, impl.Val{Kind: 2, N: -1}, impl.Val{Kind: 2, N: math.MaxInt}), "4 - - -"},
		{4, values(impl.Val{Kind: 0, N: 5}, impl.Val{Kind: 5, N: 5}, impl.Val{Kind: -1, N: 5}, impl.Val{Kind: 6}, impl.Val{Kind: -4, N: 1}), "4 - - - - -"},
		{4, values(impl.Val{Kind: math.MaxInt, N: 3}, impl.Val{Kind: math.MinInt, N: 3}, impl.Val{Kind: 1<<32 + 1, N: 3}), "4 - - -"},
		{0, many(6, number(8)), "0 8 8 8 8 8 8"},
		{0, many(2000, chip(12)), "0" + strings.Repeat(" c12", 2000)},
	} {
		one := impl.Thing{Type: c.typ, Vals: c.vals}
		if got := impl.ThingText(one); got != c.want || plainThingText(one) != c.want {
			t.Errorf("%v: %q, not %q", one, got, c.want)
		}
	}
}

// TestThingTextOfAll writes each kind beside each number, and made-up things, against the document's words.
func TestThingTextOfAll(t *testing.T) {
	var all []impl.Val
	for kind := -3; kind <= 8; kind++ {
		for _, n := range edgeNumbers() {
			all = append(all, impl.Val{Kind: kind, N: n})
		}
	}
	r := rand.New(rand.NewSource(130))
	for range 3000 {
		one := impl.Thing{Type: edgeNumbers()[r.Intn(len(edgeNumbers()))]}
		for range r.Intn(9) {
			one.Vals = append(one.Vals, all[r.Intn(len(all))])
		}
		got := impl.ThingText(one)
		if got != plainThingText(one) {
			t.Fatalf("%v: %q, not %q", one, got, plainThingText(one))
		}
		if len(strings.Split(got, " ")) != 1+len(one.Vals) {
			t.Fatalf("%v: %q", one, got)
		}
	}
}

// TestThingTextTurnsNothing has room behind the values, and looks whether anything is written there or among them.
func TestThingTextTurnsNothing(t *testing.T) {
	for _, vals := range [][]impl.Val{nil, values(), values(number(3)), values(chip(1), none(), thing(4), impl.Val{Kind: 9, N: 9})} {
		own := impl.Thing{Type: 3, Vals: withRoom(vals, impl.Val{Kind: 66, N: 66})}
		before := slices.Clone(own.Vals[:cap(own.Vals)])
		text := impl.ThingText(own)
		if !reflect.DeepEqual(before, own.Vals[:cap(own.Vals)]) || own.Type != 3 {
			t.Errorf("%v is changed", vals)
		}
		if again := impl.ThingText(own); again != text {
			t.Errorf("%q, and then %q", text, again)
		}
	}
}

func TestDeskOfTheDocument(t *testing.T) {
	expectDesk(t, "the example", deskExample, deskAnswers)
	expectDesk(t, "without its last newline", strings.TrimSuffix(deskExample, "\n"), deskAnswers)
	expectDesk(t, "with more newlines", "\n\n"+strings.ReplaceAll(deskExample, "\n", "\n\n"), deskAnswers)
	expectDesk(t, "with more spaces", " "+strings.ReplaceAll(strings.ReplaceAll(deskExample, " ", "   "), "\n", "  \n "), deskAnswers)
	expectDesk(t, "twice", deskExample+deskExample, deskAnswers+deskAnswers)
}

func TestDeskOfNothing(t *testing.T) {
	for _, in := range []string{"", " ", "\n", "  ", "\n\n", " \n ", "\n  \n\n   ", strings.Repeat("\n", 301), strings.Repeat("\n", 20000), strings.Repeat(" ", 20000), strings.Repeat(" \n", 10000)} {
		expectDesk(t, "no words", in, "")
	}
}

func TestDeskWords(t *testing.T) {
	expectDesks(t, []deskCase{
		{"no newline at the end", "check", "fine\n"},
		{"a newline at the end", "check\n", "fine\n"},
		{"two newlines at the end", "check\n\n", "fine\n"},
		{"the last of two has no newline", "check\ncanon 0", "fine\n-1\n"},
		{"the last of two is spaces", "check\n   ", "fine\n"},
		{"newlines ahead", "\n\n\ncheck", "fine\n"},
		{"spaces ahead", "   check", "fine\n"},
		{"spaces behind", "check   ", "fine\n"},
		{"spaces ahead and behind", "  check  \n", "fine\n"},
		{"spaces between", "under    0     any", "no\n"},
		{"spaces all around", "  plan   1  0    0 0   \n heap   3 ", "fine\n0 0 0\n"},
		{"lines without words between", "check\n\n  \n\ncheck\n \n", "fine\nfine\n"},
		{"a newline within", "can\non 0", "what\nwhat\n"},
		{"a newline between words", "canon\n0", "what\nwhat\n"},
		{"two lines on one", "check check", "what\n"},
	})
	// Bytes that are no space are of the word at which they stand, and a line of such bytes alone has a word.
	for _, odd := range []string{"\t", "\r", "\v", "\f", "\x00", "\x01", "\x1f", "\x7f", "\x80", "\x85", "\xa0", "\xff", "\xc2", "\xe2\x80", "\xf0\x9f", "\u0085", "\u00a0", "\u2003", "\u2028", "\u3000", "\ufeff", "\u00e9", "\U0001f600", "\ufffd", ";", "#", ",", "\"", "_"} {
		for _, in := range []string{odd, odd + odd, "check" + odd, odd + "check", "ch" + odd + "eck", "check " + odd, odd + " check", "canon" + odd + "0", "canon 0" + odd, "canon " + odd + "0", "canon" + odd + " 0", "under 0" + odd + "any", "under 0 any" + odd, "run 5" + odd, "host" + odd, "host " + odd, "host 1 " + odd, "plan 9 9 0 0" + odd, "plan 9 9 0" + odd + "0", "done" + odd, "prog" + odd, odd + "prog"} {
			expectDesk(t, "an odd byte", in, "what\n")
			expectDesk(t, "an odd byte between others", "check\n"+in+"\ncheck", "fine\nwhat\nfine\n")
			expectDesk(t, "an odd byte and spaces", "  "+in+"  \n", "what\n")
		}
		expectDesk(t, "an odd byte in a program", "prog\nfun n\nnum"+odd+"0\nret\ndone", "what\n")
		expectDesk(t, "an odd byte behind done", "prog\nfun n\nnum 0\nret\ndone"+odd+"\ncheck", "")
		expectDesk(t, "an odd byte alone in a program", "prog\nfun n\nnum 0\n"+odd+"\nret\ndone", "what\n")
	}
	expectDesk(t, "newlines of two bytes", "check\r\ncanon 0\r\n", "what\nwhat\n")
}

// TestDeskAtFirst asks all lines of what a script has at first.
func TestDeskAtFirst(t *testing.T) {
	expectDesks(t, []deskCase{
		{"check", "check", "fine\n"},
		{"text", "text", "fun n\nnum 0\nret\nend\n"},
		{"bytes", "bytes", "6c6169720000010100000201001d\n"},
		{"slim", "slim\ntext", "fine\nfun n\nnum 0\nret\nend\n"},
		{"mean 5", "mean 5", "fine\n"}, {"mean 2", "mean 2", "fine\n"}, {"mean 1", "mean 1", "goes\n"}, {"mean 0", "mean 0", "goes\n"},
		{"run 5", "run 5", "fine\n"}, {"run 2", "run 2", "fine\n"}, {"run 1", "run 1", "goes\n"}, {"run 0", "run 0", "goes\n"},
		{"look 5", "look 5", "end\n"}, {"look 0", "look 0", "end\n"},
		{"heap 5", "heap 5", "0 0 0\n"}, {"heap 0", "heap 0", "0 0 0\n"},
		{"canon 0", "canon 0", "-1\n"}, {"canon -1", "canon -1", "-1\n"},
		{"under 0 any", "under 0 any", "no\n"}, {"under any any", "under any any", "yes\n"}, {"under chip any", "under chip any", "yes\n"}, {"under any chip", "under any chip", "no\n"}, {"under chip chip", "under chip chip", "yes\n"}, {"under 0 0", "under 0 0", "no\n"},
		{"done", "done", "what\n"},
		{"host", "host", "fine\n"},
		{"plan", "plan 120 40 0 0", "fine\n"},
	})
	// The plan at first is that of the most words, and nothing is swept by it.
	expectDesk(t, "nothing is swept", progLines("group\nbox - n\nglob r0\nfun n\nnum 5\nnew 0\nkeep 0\njump 3\n")+"heap 2\nheap 299\nheap 300", "fine\n0 2 0\n0 2 0\n0 2 0\n")
	grows := progLines("group\nrow - n!\nbox - r0 r1\nglob r1\nfun n\nnum 6\nnum 5\nrow 0\ntake 0\nnew 1\nkeep 0\njump 0\n")
	atFirst, planned := impl.DeskRun(grows+"heap 150\nrun 300\nlook 300"), impl.DeskRun("plan 120 40 0 0\n"+grows+"heap 150\nrun 300\nlook 300")
	if planned != "fine\n"+atFirst || !strings.Contains(atFirst, "room\n") {
		t.Errorf("%q, and with the plan %q", atFirst, planned)
	}
	asks := ""
	for fuel := 2; fuel <= 300; fuel += 3 {
		asks += fmt.Sprintln("heap", fuel)
	}
	told := impl.DeskRun(grows + asks)
	for _, plan := range []string{"119 40 0 0", "120 39 0 0", "120 40 1 0", "120 40 0 1"} {
		if other := impl.DeskRun("plan " + plan + "\n" + grows + asks); other == "fine\n"+told {
			t.Errorf("%s makes no difference", plan)
		}
	}
}

func TestDeskMaxText(t *testing.T) {
	for _, c := range []struct {
		name string
		in   string
		want string
	}{
		{"spaces behind", "check" + strings.Repeat(" ", 19995), "fine\n"},
		{"spaces ahead", strings.Repeat(" ", 19995) + "check", "fine\n"},
		{"newlines behind", "check" + strings.Repeat("\n", 19995), "fine\n"},
		{"newlines ahead", strings.Repeat("\n", 19995) + "check", "full\n"},
		{"one word", strings.Repeat("c", 20000), "what\n"},
		{"one number", "host " + strings.Repeat("1", 19995), "what\n"},
		{"many numbers", "host " + strings.Repeat("7 ", 9997) + "7", "fine\n"},
		{"many words", strings.Repeat("a ", 10000), "what\n"},
		{"bytes of no rune", strings.Repeat("\xff", 20000), "what\n"},
		{"a program of one line", "prog\n" + strings.Repeat("x", 19995), ""},
		{"the example", deskExample + strings.Repeat(" ", 20000-len(deskExample)), deskAnswers},
		{"the example behind spaces", strings.Repeat(" ", 20000-len(deskExample)) + deskExample, deskAnswers},
	} {
		if len(c.in) != impl.DeskMaxText {
			t.Fatalf("%s: %d bytes", c.name, len(c.in))
		}
		expectDesk(t, c.name, c.in, c.want)
		expectDesk(t, c.name+", one less", strings.Replace(c.in, "  ", " ", 1), c.want)
		for _, more := range []string{" ", "\n", "x", "\x00", "\ncheck", strings.Repeat(" ", 100000)} {
			expectDesk(t, c.name+", and more", c.in+more, "long\n")
			expectDesk(t, c.name+", and more ahead", more+c.in, "long\n")
		}
	}
	expectDesk(t, "far too long", strings.Repeat("check\n", 100000), "long\n")
	// It is bytes that are counted, not runes.
	expectDesk(t, "runes", strings.Repeat("\u00e9", 10000), "what\n")
	expectDesk(t, "runes, and more", strings.Repeat("\u00e9", 10000)+" ", "long\n")
}

func TestDeskMaxLines(t *testing.T) {
	empty, fine := func(n int) string { return strings.Repeat("\n", n) }, func(n int) string { return strings.Repeat("fine\n", n) }
	checks := func(n int) string { return strings.Repeat("check\n", n) }
	expectDesks(t, []deskCase{
		{"299", checks(299), fine(299)},
		{"300", checks(300), fine(300)},
		{"300 without a newline", checks(299) + "check", fine(300)},
		{"301", checks(301), fine(300) + "full\n"},
		{"301 without a newline", checks(300) + "check", fine(300) + "full\n"},
		{"302", checks(302), fine(300) + "full\n"},
		{"600", checks(600), fine(300) + "full\n"},
		{"a wrong line is the 301st", checks(300) + "fly", fine(300) + "full\n"},
		{"a wrong line is the 300th", checks(299) + "fly\nfly", fine(299) + "what\nfull\n"},
		{"lines without words are counted", empty(299) + "check\n", "fine\n"},
		{"one more", empty(300) + "check\n", "full\n"},
		{"lines of spaces are counted", strings.Repeat("  \n", 299) + "check\ncheck", "fine\nfull\n"},
		{"some of each", strings.Repeat("check\n \n", 150) + "check", fine(150) + "full\n"},
		{"none with words behind", checks(300) + empty(500), fine(300)},
		{"spaces behind", checks(300) + strings.Repeat("  \n", 100) + "   ", fine(300)},
		{"words behind those", checks(300) + empty(50) + "check\n" + empty(50) + "check\n", fine(300) + "full\n"},
		{"no words at all", empty(1000), ""},
		{"the first words are far behind", empty(1000) + "text\ntext", "full\n"},
		{"a program that is done in the 300th", empty(295) + progLines("fun n\nnum 0\nret\n") + "check", "fine\nfull\n"},
		{"a program that would be done in the 301st", empty(296) + progLines("fun n\nnum 0\nret\n") + "check", "full\n"},
		{"a program that begins in the 300th", empty(299) + "prog\nfun n\n", "full\n"},
		{"a program that begins in the 300th, and nothing behind", empty(299) + "prog\n\n  \n", ""},
		{"a program that begins in the 301st", empty(300) + "prog\n", "full\n"},
		{"done is the 301st", empty(299) + "prog\ndone", "full\n"},
		{"a line in a program is the 301st", checks(2) + "prog\n" + strings.Repeat("fun n\n", 297) + "fun n\ndone\n", fine(2) + "full\n"},
		{"lines without words in a program", "prog\n" + empty(298) + "x\n" + empty(9), ""},
		{"lines without words in a program, and one with", "prog\n" + empty(299) + "x\n", "full\n"},
	})
}

func TestDeskMaxOut(t *testing.T) {
	most := impl.DeskMaxOut
	for _, bytes := range []int{most - 3, most - 2, most - 1, most} {
		in := answering(t, bytes)
		told := impl.DeskRun(in)
		expectDesk(t, "not yet full", in, told)
		expectDesk(t, "not yet full, and nothing behind", in+"\n  \n", told)
		expectDesk(t, "not yet full, and a line", in+"canon 0", told+"-1\n")
		expectDesk(t, "not yet full, and what is wrong", in+"\n\nfly\n", told+"what\n")
		expectDesk(t, "not yet full, and a program", in+"prog\nfun n\nret\ndone", told+"fine\n")
		// What is answered to one line may go far beyond; the next one is refused.
		expectDesk(t, "far beyond", in+"text\n", told+"fun n\n"+strings.Repeat("num 9972\n", 29)+"ret\nfun n\n"+strings.Repeat("num 9972\n", 29)+"ret\nend\n")
		if got := impl.DeskRun(in + "text\n\ncheck\ncheck"); !strings.HasSuffix(got, "ret\nend\nfull\n") {
			t.Errorf("%.60q", got[len(told):])
		}
	}
	for _, bytes := range []int{most + 1, most + 2, most + 5} {
		in := answering(t, bytes)
		told := impl.DeskRun(in)
		expectDesk(t, "full, but nothing behind", in, told)
		expectDesk(t, "full, but no words behind", in+"\n  \n   ", told)
		for _, behind := range []string{"check", "fly", "prog", "prog\nfun n\nret\ndone\ntext", "\n \ncanon 0\n", "\t", "\x80", "done", "check\ncheck\ncheck\n"} {
			expectDesk(t, "full", in+behind, told+"full\n")
		}
	}
}

func TestDeskProg(t *testing.T) {
	first := "fun n\nnum 0\nret\nend\n"
	expectDesks(t, []deskCase{
		{"one that is read", "prog\nfun n\nnum 4\nret\ndone\ntext", "fine\nfun n\nnum 4\nret\nend\n"},
		{"with spaces and lines without words", "  prog \n\n  fun    n  \n \n\n num   4\n   ret\n\n  done   \n text", "fine\nfun n\nnum 4\nret\nend\n"},
		{"with all its parts", progLines(fullText) + "text", "fine\n" + fullText + "end\n"},
		{"with all its parts, and spaces", "prog\n" + strings.ReplaceAll(strings.ReplaceAll(fullText, " ", "    "), "\n", " \n\n ") + "done\ntext", "fine\n" + fullText + "end\n"},
		{"one that can not be", "prog\nfun n\ndone\ntext", "what\n" + first},
		{"of no lines", "prog\ndone\ntext", "what\n" + first},
		{"of lines without words", "prog\n\n  \n\ndone\ntext", "what\n" + first},
		{"of one wrong line", "prog\nfly\ndone\ntext", "what\n" + first},
		{"with a wrong line behind", "prog\nfun n\nnum 4\nret\nfly\ndone\ntext", "what\n" + first},
		{"of a word cut by a newline", "prog\nfun n\nnum\n4\nret\ndone\ntext", "what\n" + first},
		{"of two lines on one", "prog\nfun n num 4\nret\ndone\ntext", "what\n" + first},
		{"with a needless zero", "prog\nfun n\nnum 04\nret\ndone\ntext", "what\n" + first},
		{"in other cases", "prog\nFUN n\nnum 4\nret\ndone\ntext", "what\n" + first},
		{"not ok", "prog\nfun r0\nnum 4\nret\ndone\ntext", "what\n" + first},
		{"a wrong one behind a right one", "prog\nfun n\nnum 4\nret\ndone\nprog\nfun n\nnum 5\ndrop 1\nret\ndone\ntext", "fine\nwhat\nfun n\nnum 4\nret\nend\n"},
		{"a right one behind a wrong one", "prog\nfun\ndone\nprog\nfun n\nnum 4\nret\ndone\ntext", "what\nfine\nfun n\nnum 4\nret\nend\n"},
		{"a second one", "prog\nfun n\nnum 4\nret\ndone\ntext\nprog\nfun n\nnum 5\nret\ndone\ntext", "fine\nfun n\nnum 4\nret\nend\nfine\nfun n\nnum 5\nret\nend\n"},
		{"a second one right behind", "prog\nfun n\nnum 4\nret\ndone\nprog\nfun n\nnum 5\nret\ndone\ntext\nbytes", "fine\nfine\nfun n\nnum 5\nret\nend\n6c6169720000010100000201051d\n"},
		{"wrong, but read", "prog\nfun n\nadd\nret\ndone\ntext", "fine\nfun n\nadd\nret\nend\n"},
		{"the same again", "prog\nfun n\nnum 0\nret\ndone\ntext", "fine\n" + first},
		// Lines in a program are lines of it, whatever they say.
		{"check in it", "prog\ncheck\ndone\ncheck", "what\nfine\n"},
		{"all lines in it", "prog\nprog\ncheck\nslim\ntext\nbytes\nmean 5\nrun 5\nlook 5\nheap 5\ncanon 0\nunder 0 any\nplan 1 1 1 1\nhost 5\nfly\ndone\ntext", "what\n" + first},
		{"prog in it", "prog\nprog\nfun n\nnum 4\nret\ndone\ntext", "what\n" + first},
		{"prog in it, and done twice", "prog\nfun n\nprog\nret\ndone\ndone\ntext", "what\nwhat\n" + first},
		{"plan in it does nothing", "prog\nplan 1 0 0 0\nhost 1\ndone\nprog\ngroup\nbox - n\nfun n\nnum 5\nask\nnew 0\ndrop\nnum 0\nret\ndone\nhost 3\nrun 9\nheap 9", "what\nfine\nfine\n5\nfine\n0 2 0\n"},
		{"look and if are of both", "prog\ngroup\nbox - n\nfun n\nnum 1\nnew 0\nlook 0 0\nret\ndone\nrun 9\nlook 3", "fine\nfine\nend\n"},
		// Of done and prog with words behind.
		{"done with words behind in it", "prog\nfun n\nnum 4\nret\ndone 1\ncheck\ntext", ""},
		{"done with words behind in it, and done", "prog\nfun n\nnum 4\nret\ndone 1\ndone\ntext", "what\n" + first},
		{"done twice on a line in it", "prog\nfun n\nnum 4\nret\ndone done\ndone\ntext", "what\n" + first},
		{"prog with words behind in it", "prog\nprog 1\ndone\ntext", "what\n" + first},
		{"DONE in it", "prog\nfun n\nnum 4\nret\nDone\nDONE\ndone\ntext", "what\n" + first},
		{"done outside", "done", "what\n"},
		{"done with words behind outside", "done 1\ndone done\ncheck", "what\nwhat\nfine\n"},
		{"prog with words behind outside", "prog 1\ncheck\nprog prog\ncheck\nprog fun n\ncheck\nprog done\ncheck", "what\nfine\nwhat\nfine\nwhat\nfine\nwhat\nfine\n"},
		{"done twice", "prog\nfun n\nnum 4\nret\ndone\ndone\ntext", "fine\nwhat\nfun n\nnum 4\nret\nend\n"},
		// One that is never done.
		{"never done", "prog", ""},
		{"never done, with lines", "prog\nfun n\nnum 4\nret\n", ""},
		{"never done, and no newline", "prog\nfun n\nnum 4\nret", ""},
		{"never done, with all lines", "check\nprog\ncheck\ntext\nbytes\nrun 5\nfly\nprog\n\n", "fine\n"},
		{"done without a newline", "prog\nfun n\nnum 4\nret\ndone", "fine\n"},
	})
}

func TestDeskPlan(t *testing.T) {
	// Things of two words each, all of which are reached.
	grows := progLines("group\nbox - r0\nglob r0\nfun n\ntake 0\nnew 0\nkeep 0\njump 0\n")
	// One that is old, and not reached any more behind the sixth step.
	forgets := progLines("group\nbox - n\nglob r0\nfun n\nnum 5\nnew 0\nkeep 0\nsweep 0\nnull 0\nkeep 0\njump 6\n")
	expectDesks(t, []deskCase{
		{"next to no room", grows + "plan 1 0 0 0\nrun 100\nheap 100\nlook 100", "fine\nfine\nroom\n0 0 0\nend\n"},
		{"room for one", grows + "plan 2 0 0 0\nrun 2\nrun 5\nrun 6\nheap 100\nlook 100", "fine\nfine\ngoes\ngoes\nroom\n2 0 0\n0 -\nend\n"},
		{"room for one young one", grows + "plan 1 2 0 0\nheap 2\nheap 5\nrun 5\nrun 100\nheap 100", "fine\nfine\n0 2 0\n0 2 0\ngoes\nroom\n0 2 0\n"},
		{"room for two young ones and an old one", grows + "plan 4 4 0 0\nheap 2\nheap 6\nheap 10\nheap 100\nrun 100", "fine\nfine\n0 2 0\n0 4 0\n4 2 0\n4 4 0\nroom\n"},
		{"swept each step", grows + "plan 120 40 1 0\nheap 2\nheap 3\nheap 100", "fine\nfine\n0 2 0\n2 0 0\n50 0 0\n"},
		{"swept each fifth step", grows + "plan 120 40 5 0\nheap 4\nheap 5\nheap 9\nheap 10", "fine\nfine\n0 2 0\n2 0 0\n2 2 0\n4 2 0\n"},
		{"all swept each fifth step", grows + "plan 120 40 0 5\nheap 4\nheap 5\nheap 9\nheap 10", "fine\nfine\n0 2 0\n2 0 0\n2 2 0\n4 2 0\n"},
		{"the young are swept by the third number", forgets + "plan 9 9 7 0\nheap 6\nheap 7\nheap 14", "fine\nfine\n2 0 0\n2 0 0\n2 0 0\n"},
		{"all are swept by the fourth", forgets + "plan 9 9 0 7\nheap 6\nheap 7\nheap 14", "fine\nfine\n2 0 0\n0 0 0\n0 0 0\n"},
		{"ahead of the program", "plan 2 0 0 0\n" + grows + "run 100", "fine\nfine\nroom\n"},
		{"a second one", grows + "plan 2 0 0 0\nplan 1 0 0 0\nheap 100", "fine\nfine\nfine\n0 0 0\n"},
		{"mean asks for none", grows + "plan 1 0 0 0\nmean 100\nmean 300", "fine\nfine\ngoes\ngoes\n"},
	})
	// Numbers at their bounds, and one past them, and words that are none: the plan is the one from before.
	check := func(name string, line string, want string) {
		plan, heap := "2 0 0 0", "2 0 0"
		if want == "fine" {
			plan = strings.TrimPrefix(line, "plan ")
			heap = strings.TrimSuffix(impl.DeskRun("plan " + plan + "\n" + grows + "heap 6")[len("fine\nfine\n"):], "\n")
		}
		expectDesk(t, name, grows+"plan 2 0 0 0\n"+line+"\nheap 6\n", "fine\nfine\n"+want+"\n"+heap+"\n")
	}
	for at, bounds := range [][2]int{{1, 120}, {0, 40}, {0, 300}, {0, 300}} {
		for _, n := range []int{bounds[0], bounds[0] + 1, bounds[1] - 1, bounds[1], bounds[0] - 1, bounds[1] + 1, -1, -7, 301, 1 << 32, 1<<32 + 1, 99999999999999999, -99999999999999999} {
			numbers, want := []int{9, 6, 2, 3}, "fine"
			numbers[at] = n
			if n < bounds[0] || n > bounds[1] {
				want = "what"
			}
			check("a number", strings.Trim(fmt.Sprintln("plan", numbers[0], numbers[1], numbers[2], numbers[3]), "\n"), want)
		}
		for _, word := range append(deskNone(), "any", "chip") {
			words := []string{"9", "6", "2", "3"}
			words[at] = word
			check("a word that is none", "plan "+strings.Join(words, " "), "what")
		}
	}
	for many, line := range []string{"plan", "plan 9", "plan 9 6", "plan 9 6 2", "plan 9 6 2 3", "plan 9 6 2 3 1", "plan 9 6 2 3 0 0", "plan 9 6 2 3 9 6 2 3"} {
		want := "what"
		if many == 4 {
			want = "fine"
		}
		check("so many numbers", line, want)
	}
	check("the least", "plan 1 0 0 0", "fine")
	check("the most", "plan 120 40 300 300", "fine")
}

func TestDeskHost(t *testing.T) {
	asks := progLines("fun n\nnum 5\nask\nsay\njump 0\n")
	expectDesks(t, []deskCase{
		{"none at first", asks + "run 100\nmean 100", "fine\nhost\nhost\n"},
		{"none", asks + "host\nrun 100", "fine\nfine\nhost\n"},
		{"one", asks + "host 8\nrun 100\nmean 100", "fine\nfine\n5\n8\nhost\n5\n8\nhost\n"},
		{"several", asks + "host 8 0 9972 3\nrun 100\nmean 100", "fine\nfine\n5\n8\n5\n0\n5\n9972\n5\n3\nhost\n5\n8\n5\n0\n5\n9972\n5\n3\nhost\n"},
		{"below 0", asks + "host 8 -1 3\nrun 100", "fine\nfine\n5\n8\nhost\n"},
		{"too great", asks + "host 8 9973 3\nrun 100", "fine\nfine\n5\n8\nhost\n"},
		{"far too great", asks + "host 99999999999999999\nrun 100\nhost -99999999999999999\nrun 100", "fine\nfine\nhost\nfine\nhost\n"},
		{"as many as are asked for", asks + "host" + strings.Repeat(" 6", 40) + "\nrun 300", "fine\nfine\n" + strings.Repeat("5\n6\n", 15) + "full\n"},
		{"ahead of the program", "host 7\n" + asks + "run 3", "fine\nfine\n5\n7\ngoes\n"},
		{"others then", asks + "host 7 8\nhost 9\nrun 100", "fine\nfine\nfine\n5\n9\nhost\n"},
		{"none then", asks + "host 7 8\nhost\nrun 100", "fine\nfine\nfine\nhost\n"},
		{"each run begins anew", asks + "host 7\nrun 2\nrun 2\nmean 2\nlook 2\nheap 2", "fine\nfine\n5\ngoes\n5\ngoes\n5\ngoes\nend\n0 0 0\n"},
		{"it stays when the program turns", asks + "host 7\n" + asks + "slim\nrun 3", "fine\nfine\nfine\nfine\n5\n7\ngoes\n"},
	})
	for _, word := range append(deskNone(), "any", "chip") {
		for _, line := range []string{"host " + word, "host 1 " + word, "host " + word + " 1", "host 1 2 " + word + " 3"} {
			expectDesk(t, "a word that is none", asks+"host 7\n"+line+"\nrun 3", "fine\nfine\nwhat\n5\n7\ngoes\n")
		}
	}
	for _, word := range deskNumbers() {
		want := "host\n"
		if n, err := strconv.Atoi(word); err == nil && n >= 0 && n < impl.NumMod {
			want = "5\n" + word + "\ngoes\n"
		}
		expectDesk(t, "a number", asks+"host "+word+"\nrun 3", "fine\nfine\n"+want)
	}
}

func TestDeskCheck(t *testing.T) {
	for _, c := range faultCases() {
		expectDesk(t, "check", progLines(c.text)+"check\ncheck", "fine\n"+c.want+"\n"+c.want+"\n")
		expectDesk(t, "check behind a wrong program", progLines(c.text)+"prog\nfly\ndone\ncheck", "fine\nwhat\n"+c.want+"\n")
	}
}

func TestDeskSlim(t *testing.T) {
	expectDesks(t, []deskCase{
		{"less is done", progLines("fun n\nnum 1\nnum 2\ndrop\nret\n") + "slim\ntext", "fine\nfine\nfun n\nnum 1\nret\nend\n"},
		{"till nothing turns", progLines("fun n\nnum 1\nif 4\nnum 0\nret\nnum 7\nnum 8\ndrop\ndrop\nnum 9\nret\njump 0\n") + "slim\ntext\nslim\ntext", "fine\nfine\nfun n\nnum 1\nif 4\nnum 0\nret\nnum 9\nret\nend\nfine\nfun n\nnum 1\nif 4\nnum 0\nret\nnum 9\nret\nend\n"},
		{"nothing to leave out", progLines("fun n\nnum 1\nret\n") + "slim\ntext", "fine\nfine\nfun n\nnum 1\nret\nend\n"},
		{"wrong, and it stays", progLines("fun n\nnum 1\ndrop\nadd\nret\n") + "slim\ntext\ncheck", "fine\nwhat\nfun n\nnum 1\ndrop\nadd\nret\nend\n0 2 lack\n"},
		{"the second is wrong", progLines("fun n\nnum 1\nnum 2\ndrop\nret\nfun n\nret\n") + "slim\ntext", "fine\nwhat\nfun n\nnum 1\nnum 2\ndrop\nret\nfun n\nret\nend\n"},
		{"can not go, but is not wrong", progLines("fun n n\nget 0\nnum 2\ndrop\nret\n") + "slim\ntext\nrun 5", "fine\nfine\nfun n n\nget 0\nret\nend\nform\n"},
		{"it is the program then", progLines("fun n\nnum 1\nnum 2\ndrop\nret\n") + "run 3\nslim\nrun 2\nrun 1\nbytes\ncheck", "fine\ngoes\nfine\nfine\ngoes\n6c6169720000010100000201011d\nfine\n"},
	})
	r := rand.New(rand.NewSource(131))
	less := 0
	for range 100 {
		p := someWasteful(t, r)
		all := impl.SlimAll(p)
		expectDesk(t, "slim", progLines(impl.ProgText(p))+"slim\ntext\ncheck\nbytes", "fine\nfine\n"+impl.ProgText(all)+"end\nfine\n"+fmt.Sprintf("%x\n", impl.BinOf(all)))
		if !impl.ProgSame(p, all) {
			less++
		}
		q := marred(r, p)
		if impl.ProgOk(q) && impl.CheckAll(q) != (impl.Fault{}) {
			expectDesk(t, "slim of what is wrong", progLines(impl.ProgText(q))+"slim\ntext", "fine\nwhat\n"+impl.ProgText(q)+"end\n")
		}
	}
	if less < 50 {
		t.Error(less)
	}
}

// TestDeskTextAndBytes writes programs: their texts are those that were read, and their bytes are two digits each.
func TestDeskTextAndBytes(t *testing.T) {
	expectDesks(t, []deskCase{
		{"bytes of 0 to 15", progLines("fun n\nnum 0\nnum 1\nnum 2\nnum 3\nnum 4\nnum 5\nnum 6\nnum 7\nnum 8\nnum 9\nnum 10\nnum 11\nnum 12\nnum 13\nnum 14\nnum 15\n") + "bytes",
			"fine\n6c616972" + "000001010000" + "10" + "0100010101020103010401050106010701080109010a010b010c010d010e010f\n"},
		{"bytes of 128 and more", progLines("fun n\nnum 127\nnum 128\nnum 255\nnum 300\nnum 9972\nnum 222\nnum 171\n") + "bytes",
			"fine\n6c616972" + "000001010000" + "07" + "017f" + "018001" + "01ff01" + "01ac02" + "01f44d" + "01de01" + "01ab01" + "\n"},
	})
	seen := map[byte]bool{}
	for _, p := range binProgs(t) {
		text, bin := impl.ProgText(p), impl.BinOf(p)
		expectDesk(t, "text", progLines(text)+"text", "fine\n"+text+"end\n")
		got := strings.TrimSuffix(strings.TrimPrefix(impl.DeskRun(progLines(text)+"bytes"), "fine\n"), "\n")
		if len(got) != 2*len(bin) {
			t.Fatalf("%q: %q", text, got)
		}
		for at := range len(bin) {
			n, err := strconv.ParseUint(got[2*at:2*at+2], 16, 8)
			if err != nil || byte(n) != bin[at] || strings.ToLower(got) != got {
				t.Fatalf("%q: %q", text, got)
			}
			seen[bin[at]] = true
		}
	}
	if len(seen) < 100 {
		t.Errorf("%d bytes were seen", len(seen))
	}
}

func TestDeskMeanAndRun(t *testing.T) {
	for _, c := range endCases() {
		set := strings.Repeat("fine\n", strings.Count(c.set, "\n"))
		for _, word := range []string{"mean", "run"} {
			expectDesk(t, word, progLines(c.text)+c.set+word+" 300", "fine\n"+set+c.want)
			expectDesk(t, word+" ahead of all", c.set+progLines(c.text)+word+" 300\n"+word+" 300", set+"fine\n"+c.want+c.want)
		}
	}
	grows := "group\nbox - r0\nglob r0\nfun n\nnum 6\nsay\ntake 0\nnew 0\nkeep 0\njump 2\n"
	expectDesk(t, "room", progLines(grows)+"plan 4 0 0 0\nrun 300\nmean 300\nrun 11\nrun 12", "fine\nfine\n6\nroom\n6\ngoes\n6\ngoes\n6\nroom\n")
	makes := progLines("group\nbox - n\nfun n\nnum 7\nsay\nnum 5\nnew 0\ndrop\nnum 8\nsay\nnum 0\nret\n")
	expectDesk(t, "room makes no difference to what is meant", makes+"plan 1 0 0 0\nmean 300\nrun 300", "fine\nfine\n7\n8\nfine\n7\nroom\n")
	expectDesk(t, "room for one", makes+"plan 2 0 0 0\nmean 300\nrun 300", "fine\nfine\n7\n8\nfine\n7\n8\nfine\n")
	// Just so many steps are done.
	says := progLines("fun n\nnum 1\nsay\nnum 2\nsay\nnum 0\nret\n")
	for _, word := range []string{"mean", "run"} {
		for fuel, want := range []string{"goes\n", "goes\n", "1\ngoes\n", "1\ngoes\n", "1\n2\ngoes\n", "1\n2\ngoes\n", "1\n2\nfine\n", "1\n2\nfine\n"} {
			expectDesk(t, "so many steps", says+fmt.Sprintln(word, fuel), "fine\n"+want)
		}
	}
}

func TestDeskFuel(t *testing.T) {
	for word, want := range map[string]string{"mean": "goes\n", "run": "goes\n", "look": "end\n", "heap": "0 0 0\n"} {
		goes := progLines("fun n\njump 0\n")
		for _, fuel := range []string{"0", "1", "7", "299", "300"} {
			expectDesk(t, "so many steps", goes+word+" "+fuel, "fine\n"+want)
		}
		for _, fuel := range append(deskNone(), "", "-1", "-2", "-300", "301", "302", "1000", "4294967296", "4294967297", "99999999999999999", "-99999999999999999", "1 1", "0 0", "5 x", "x 5", "any", "chip", "0 0 0") {
			expectDesk(t, "no such steps", goes+word+" "+fuel+"\n"+word+" 5", "fine\nwhat\n"+want)
		}
		expectDesk(t, "no steps are told", goes+word, "fine\nwhat\n")
	}
}

func TestDeskLookAndHeap(t *testing.T) {
	drops := progLines("group\nbox - n\nglob r0\nfun n\nnum 5\nnew 0\ndrop\nnum 6\nnew 0\nkeep 0\nnum 0\nret\n")
	knows := progLines("group\nbox - r0!\nfun n\nown r0\nnull 0\nnew 0\nset 0\nsweep 0\nget 0\nnull 0\nnew 0\nput 0 0\nsweep 0\nnum 0\nret\n")
	kinds := progLines("group\nbox - n rany rchip sany\nbox - s0\nrow - r1\nglob rany\nfun n\nnum 7\nnull any\nnum 3\nchip\nnum 9972\nchip\nnew 0\nnew 1\nset 0\nnum 3\nget 0\nrow 2\nkeep 0\nnum 0\nret\n")
	kinds = strings.Replace(kinds, "fun n\n", "fun n\nown r1\n", 1)
	expectDesks(t, []deskCase{
		{"nothing yet", drops + "look 0\nheap 0\nlook 1\nheap 1", "fine\nend\n0 0 0\nend\n0 0 0\n"},
		{"one that is held", drops + "look 2\nheap 2", "fine\n0 5\nend\n0 2 0\n"},
		{"one that is not reached", drops + "look 3\nheap 3", "fine\nend\n0 2 0\n"},
		{"one of two", drops + "look 6\nheap 6", "fine\n0 6\nend\n0 4 0\n"},
		{"one of two at the end", drops + "look 300\nheap 300\nrun 300", "fine\n0 6\nend\n0 4 0\nfine\n"},
		{"swept", drops + "plan 9 9 0 4\nlook 300\nheap 300", "fine\nfine\n0 6\nend\n2 0 0\n"},
		{"old", knows + "look 4\nheap 4", "fine\n0 -\nend\n2 0 0\n"},
		{"an old one and a young one", knows + "look 7\nheap 7", "fine\n0 -\n0 -\nend\n2 2 0\n"},
		{"an old one names a young one", knows + "look 8\nheap 8", "fine\n0 @1\n0 -\nend\n2 2 1\n"},
		{"both are old", knows + "look 9\nheap 9", "fine\n0 @1\n0 -\nend\n4 0 0\n"},
		{"nothing names them any more", knows + "look 11\nheap 11", "fine\nend\n4 0 0\n"},
		{"all kinds, held", kinds + "look 7", "fine\n0 7 - c3 c9972\nend\n"},
		{"all kinds, one in another", kinds + "look 9", "fine\n1 @1\n0 7 - c3 c9972\nend\n"},
		{"all kinds, in a row, at the end", kinds + "look 300\nheap 300", "fine\n2 @1 @1 @1\n1 @2\n0 7 - c3 c9972\nend\n0 11 0\n"},
		{"little room", kinds + "plan 11 0 0 0\nlook 300\nheap 300\nrun 300", "fine\nfine\n2 @1 @1 @1\n1 @2\n0 7 - c3 c9972\nend\n11 0 0\nfine\n"},
		{"too little room", kinds + "plan 10 0 0 0\nlook 300\nheap 300\nrun 300", "fine\nfine\n1 @1\n0 7 - c3 c9972\nend\n7 0 0\nroom\n"},
		{"far too little room", kinds + "plan 6 0 0 0\nlook 300\nheap 300\nrun 300", "fine\nfine\n0 7 - c3 c9972\nend\n5 0 0\nroom\n"},
		{"no room", kinds + "plan 4 4 0 0\nlook 300\nheap 300\nrun 300", "fine\nfine\nend\n0 0 0\nroom\n"},
		{"a program that is wrong", progLines("fun n\nret\n") + "look 300\nheap 300", "fine\nend\n0 0 0\n"},
		{"a program that takes something", progLines("fun n n\nget 0\nret\n") + "look 300\nheap 300", "fine\nend\n0 0 0\n"},
		{"a program that ended with a trap", progLines("group\nbox -\nfun s0\nnew 0\nnull 0\nsure\ndrop\nret\n") + "run 300\nlook 300\nheap 300", "fine\nnone\n0\nend\n0 1 0\n"},
		{"a program that has ended", progLines("group\nbox -\nfun s0\nnew 0\nret\n") + "look 1\nlook 300\nheap 300", "fine\n0\nend\nend\n0 1 0\n"},
	})
}

// deskFamily has types that are the same and under one another: 3 is the same as 0, 2 is under 1, and 5 under 3.
const deskFamily = "group\nbox - n\ngroup\nbox - n r1\nbox 1 n s2 last\ngroup\nbox - n\ngroup\nrow - n\nbox 3 n n\nfun n\nnum 0\nret\n"

func TestDeskCanon(t *testing.T) {
	for n, want := range map[string]string{
		"0": "0", "1": "1", "2": "2", "3": "0", "4": "4", "5": "5", "6": "-1", "7": "-1", "8": "-1", "100": "-1", "-1": "-1", "-2": "-1", "-3": "-1", "-100": "-1",
		"99999999999999999": "-1", "-99999999999999999": "-1", "4294967296": "-1", "4294967299": "-1",
	} {
		expectDesk(t, "canon", progLines(deskFamily)+"canon "+n, "fine\n"+want+"\n")
		expectDesk(t, "canon of no types", "canon "+n, "-1\n")
	}
	for _, word := range append(deskNone(), "", "any", "chip", "0 0", "0 1", "1 x", "- 1") {
		expectDesk(t, "canon of no number", progLines(deskFamily)+"canon "+word+"\ncanon 3", "fine\nwhat\n0\n")
	}
	expectDesk(t, "canon of a program that is wrong", progLines(strings.Replace(deskFamily, "num 0\n", "", 1))+"check\ncanon 3", "fine\n0 0 lack\n0\n")
}

func TestDeskUnder(t *testing.T) {
	above := map[string]string{"any": "any", "chip": "any chip", "0": "any 0 3", "1": "any 1", "2": "any 1 2", "3": "any 0 3", "4": "any 4", "5": "any 0 3 5"}
	words := []string{"any", "chip", "0", "1", "2", "3", "4", "5", "6", "7", "8", "100", "4294967296", "99999999999999999"}
	for _, lower := range words {
		for _, upper := range words {
			want := "no\n"
			if slices.Contains(strings.Fields(above[lower]), upper) {
				want = "yes\n"
			}
			expectDesk(t, "under", progLines(deskFamily)+"under "+lower+" "+upper, "fine\n"+want)
		}
	}
	for _, wrong := range append(deskNone(), "-1", "-2", "-3", "-99999999999999999", "ANY", "Any", "Chip", "rany", "r0", "anychip", "an", "anyy", "n") {
		for _, line := range []string{"under " + wrong + " any", "under 0 " + wrong, "under " + wrong + " " + wrong, "under any " + wrong, "under " + wrong + " 0"} {
			expectDesk(t, "under of what is none", progLines(deskFamily)+line+"\nunder 5 0", "fine\nwhat\nyes\n")
		}
	}
	for _, line := range []string{"under", "under 0", "under any", "under 0 0 0", "under 0 any chip", "under any any any", "under 0 any 1", "under 0 0 0 0"} {
		expectDesk(t, "under of too few or too many", progLines(deskFamily)+line, "fine\nwhat\n")
	}
}

// TestDeskNumbers asks each word where a number may stand whether it is one.
func TestDeskNumbers(t *testing.T) {
	for _, word := range deskNumbers() {
		expectDesk(t, "a number", "canon "+word+"\nhost "+word+" "+word, "-1\nfine\n")
		if !strings.HasPrefix(word, "-") {
			expectDesk(t, "a number to be under", "under "+word+" any", "no\n")
		} else {
			expectDesk(t, "a number below 0 to be under", "under "+word+" any", "what\n")
		}
	}
	for _, word := range deskNone() {
		for _, line := range []string{"canon " + word, "host " + word, "mean " + word, "run " + word, "look " + word, "heap " + word, "plan 1 0 0 " + word, "under " + word + " any"} {
			expectDesk(t, "no number", line, "what\n")
		}
	}
	// All numbers of few digits, and needless zeros ahead of each.
	for n := -1200; n <= 1200; n++ {
		word := strconv.Itoa(n)
		sign, digits := "", strings.TrimPrefix(word, "-")
		if n < 0 {
			sign = "-"
		}
		if got := impl.DeskRun(script("canon "+word, "canon "+sign+"0"+digits, "canon +"+digits, "canon "+word+"-")); got != "-1\nwhat\nwhat\nwhat\n" {
			t.Fatalf("%d: %q", n, got)
		}
	}
	// As many digits as there may be, and one more.
	for digits := 1; digits <= 25; digits++ {
		for _, sign := range []string{"", "-"} {
			for _, digit := range "123456789" {
				want := "fine\n"
				if digits > 17 {
					want = "what\n"
				}
				word := sign + strings.Repeat(string(digit), digits)
				if got := impl.DeskRun("host " + word); got != want {
					t.Fatalf("%s: %q", word, got)
				}
			}
		}
	}
}

// TestDeskOtherLines has lines that are nearly right: in other cases, with more behind, with less, and with words that are of others.
func TestDeskOtherLines(t *testing.T) {
	right := []string{"check", "slim", "text", "bytes", "prog", "host", "host 1 2", "plan 1 2 3 4", "mean 5", "run 5", "look 5", "heap 5", "canon 0", "under 0 any"}
	for _, line := range right {
		word, _, _ := strings.Cut(line, " ")
		for _, wrong := range []string{strings.ToUpper(line), strings.ToUpper(line[:1]) + line[1:], word[:len(word)-1], word + "s", "x" + line, word + word, line + " x", line + " check", line + " any", line + " -", "0 " + line, "x " + line, "- " + line, line[:1] + " " + line[1:], strings.Replace(line, " ", "\t", 1) + "\t", strings.Replace(line, " ", ",", 1) + ",", strings.Replace(line, " ", "=", 1) + "="} {
			expectDesk(t, "nearly "+line, wrong, "what\n")
			expectDesk(t, "nearly "+line+" between others", "check\n"+wrong+"\ncheck", "fine\nwhat\nfine\n")
		}
		if !strings.HasPrefix(line, "host") {
			expectDesk(t, "a number more", line+" 1", "what\n")
			expectDesk(t, "a zero more", line+" 0", "what\n")
		}
	}
	for _, line := range []string{"fly", "done", "fine", "what", "full", "long", "end", "yes", "no", "goes", "form", "0", "7", "-1", "any", "chip", "num 0", "ret", "fun n", "group", "box - n", "glob n", "own n", "-", "!", "@0", "c3", "help", "quit", "exit", "mean", "run", "look", "heap", "canon", "under", "plan", "kin", "size", "print", "MEAN 5", "Run 5", "check;", "check\\n", "\"check\"", "chec k"} {
		expectDesk(t, "another line", line, "what\n")
		expectDesk(t, "another line, twice", line+"\n  "+line+"  ", "what\nwhat\n")
	}
	// Nothing is done by a line that is wrong.
	set := progLines("group\nbox - n\nfun n\nnum 5\nask\nnew 0\ndrop\nnum 0\nret\n") + "host 3\nplan 9 2 0 0\n"
	asks := "text\nrun 300\nheap 300\nlook 3\n"
	want := strings.TrimPrefix(impl.DeskRun(set+asks), "fine\nfine\nfine\n")
	for _, line := range []string{"host 4 x", "plan 0 0 0 0", "plan 1 0 0", "prog 1", "done", "slim 1", "host -0", "plan 01 0 0 0", "run 301", "mean -1", "PROG", "HOST 4"} {
		expectDesk(t, "nothing is done", set+line+"\n"+asks, "fine\nfine\nfine\nwhat\n"+want)
	}
}

// TestDeskAgainstWords holds made-up scripts against the document's words, line by line: what the first lines answer stands ahead
// of what all answer, at each line's end, and what comes behind it is the answer of the next line.
func TestDeskAgainstWords(t *testing.T) {
	s := scripter{rand.New(rand.NewSource(132)), t}
	words := map[string]int{}
	for range 450 {
		in := s.script(3 + s.Intn(14))
		answers := plainDesk(in)
		told, at := "", 0
		for _, answer := range answers {
			end := strings.IndexByte(in[at:], '\n')
			if end < 0 {
				end = len(in) - at
			}
			// The lines up to here, with and without the newline behind the last one.
			told += answer
			for _, first := range []string{in[:at+end], in[:min(at+end+1, len(in))]} {
				if got := impl.DeskRun(first); got != told {
					t.Fatalf("%q answers %q, not %q", first, got, told)
				}
			}
			at = min(at+end+1, len(in))
			for _, word := range strings.Fields(answer) {
				words[word]++
			}
		}
		if whole := impl.DeskRun(in); whole != told {
			t.Fatalf("%q answers %q, not %q", in, whole, told)
		}
	}
	for _, word := range strings.Fields("fine what end yes no goes none cast place long deep full host room form name lack sort rest") {
		if words[word] < 3 {
			t.Errorf("%s was answered %d times", word, words[word])
		}
	}
}

// TestDeskMarred turns, strikes and doubles bytes of scripts, and lines of them.
func TestDeskMarred(t *testing.T) {
	s := scripter{rand.New(rand.NewSource(133)), t}
	check := func(in string) {
		if got, want := impl.DeskRun(in), strings.Join(plainDesk(in), ""); got != want {
			t.Fatalf("%q answers %q, not %q", in, got, want)
		}
	}
	short := script("plan 9 2 3 0", "prog", "group", "box - n", "fun n", "num 5", "ask", "new 0", "drop", "num 0", "ret", "done", "host 3", "run 300", "look 3", "under 0 any", "canon 0", "bytes")
	for at := range short {
		check(short[:at] + short[at+1:])
		check(short[:at] + short[at:at+1] + short[at:])
		for _, put := range []string{" ", "\n", "\t", "0", "1", "-", "+", "x", "\x80", "d", " 0 ", "\n\n"} {
			check(short[:at] + put + short[at+1:])
			check(short[:at] + put + short[at:])
		}
	}
	for range 400 {
		lines := strings.SplitAfter(s.script(4+s.Intn(10)), "\n")
		for range 1 + s.Intn(3) {
			at, to := s.Intn(len(lines)), s.Intn(len(lines))
			switch s.Intn(4) {
			case 0:
				lines[at], lines[to] = lines[to], lines[at]
			case 1:
				lines[at] = lines[to]
			case 2:
				lines[at] = ""
			case 3:
				lines[at] = s.line() + "\n"
			}
		}
		check(strings.Join(lines, ""))
	}
}

// TestDeskFirstLines puts scripts behind one another: the first answers what it answers alone, also where it is full behind it.
func TestDeskFirstLines(t *testing.T) {
	s := scripter{rand.New(rand.NewSource(134)), t}
	full := 0
	for range 40 {
		first := s.script(6) + "\n"
		all := first
		for len(all) < 8000 {
			all += strings.Repeat(s.pick("text\n", "bytes\n", "check\n", "\n", "fly\n", "run 9\n"), 1+s.Intn(40))
		}
		told := impl.DeskRun(all)
		if !strings.HasPrefix(told, impl.DeskRun(first)) || told != strings.Join(plainDesk(all), "") {
			t.Fatalf("%q answers %q", all, told)
		}
		if strings.HasSuffix(told, "full\n") {
			full++
		}
		at := 0
		for _, line := range strings.SplitAfter(all, "\n") {
			if at += len(line); s.Intn(40) == 0 && !strings.HasPrefix(told, impl.DeskRun(all[:at])) {
				t.Fatalf("%q does not answer first what its first %d bytes answer", all, at)
			}
		}
	}
	if full < 20 {
		t.Error(full)
	}
}

// TestDeskPromise runs made-up programs with the plan of the beginning: each answers what it means, unless there is no room.
func TestDeskPromise(t *testing.T) {
	r := rand.New(rand.NewSource(135))
	ends := map[string]int{}
	for at := range 900 {
		p := soundProg(r)
		switch at % 4 {
		case 1:
			p = busyProg(t, r)
		case 2:
			p = someWasteful(t, r)
		case 3:
			p = readProg(t, hoardText(r))
		}
		host := "host"
		for range r.Intn(12) {
			host = fmt.Sprint(host, " ", r.Intn(impl.NumMod+3)-1)
		}
		fuel := []int{300, 300, r.Intn(301), r.Intn(40)}[r.Intn(4)]
		set := progLines(impl.ProgText(p)) + host + "\n"
		mean, run := impl.DeskRun(set+fmt.Sprintln("mean", fuel)), impl.DeskRun(set+fmt.Sprintln("run", fuel))
		told := strings.Fields(run)
		ends[told[len(told)-1]]++
		if outs, room := strings.CutSuffix(run, "room\n"); room {
			if !strings.HasPrefix(mean, outs) {
				t.Fatalf("%q tells %q, and means %q", set, run, mean)
			}
			continue
		}
		if mean != run {
			t.Fatalf("%q tells %q, and means %q", set, run, mean)
		}
		// One that is slim tells the same, where it ends.
		if slim := impl.DeskRun(set + "slim\nrun 300"); !strings.HasSuffix(run, "goes\n") && slim != strings.Replace(run, "fine\n", "fine\nfine\n", 1) {
			t.Fatalf("%q tells %q, and %q, if it is slim", set, run, slim)
		}
	}
	for _, word := range strings.Fields("goes fine none cast place host room") {
		if ends[word] < 5 {
			t.Errorf("%s: %d times", word, ends[word])
		}
	}
}

// TestDeskKeepsNothing runs scripts one behind the other: what one has set is not there in the next.
func TestDeskKeepsNothing(t *testing.T) {
	atFirst := "check\ntext\nbytes\nrun 5\nheap 5\ncanon 0"
	want := impl.DeskRun(atFirst)
	asks := progLines("fun n\nnum 5\nask\nsay\nnum 0\nret\n") + "run 300"
	s := scripter{rand.New(rand.NewSource(136)), t}
	for _, in := range []string{deskExample, "prog", "prog\nfun n", "host 1 2 3", "plan 1 0 1 1", progLines(fullText), strings.Repeat("x", 20001), strings.Repeat("check\n", 400), s.script(12), s.script(12)} {
		told := impl.DeskRun(in)
		if got := impl.DeskRun(atFirst); got != want {
			t.Errorf("behind %.60q: %q", in, got)
		}
		if got := impl.DeskRun(asks); got != "fine\nhost\n" {
			t.Errorf("behind %.60q: %q", in, got)
		}
		if again := impl.DeskRun(strings.Clone(in)); again != told {
			t.Errorf("%.60q: %q, and then %q", in, told, again)
		}
	}
}
