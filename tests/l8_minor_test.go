package tests

import (
	"fmt"
	"math"
	"math/rand"
	"reflect"
	"slices"
	"strings"
	"testing"

	"loop.example/lairage/impl"
)

// rootHeap has old things at 0, 4 and 6 and young ones at 30, 34 and 35, with words behind both that nothing stands in.
const rootHeap = "30+12|0(- - 5) 1(c7) 2(@0 @30)|0(@0 - 7) 3() 3(1 2)|8"

func TestRootsOk(t *testing.T) {
	g := typesOf(t, minorWorld)
	h := heapOf(t, rootHeap)
	for text, want := range map[string]bool{
		"0": true, "1": true, "30": true, "62": true, "9972": true, "9973": false, "-1": false, fmt.Sprint(math.MinInt): false, fmt.Sprint(math.MaxInt): false,
		"-":  true,
		"c0": true, "c1": true, "c30": true, "c9972": true, "c9973": false, "c-1": false, fmt.Sprint("c", math.MinInt): false, fmt.Sprint("c", math.MaxInt): false,
		"@0": true, "@4": true, "@6": true, "@30": true, "@34": true, "@35": true,
		"@-1": false, "@9": false, "@10": false, "@29": false, "@38": false, "@41": false, "@42": false, "@43": false, "@119": false, "@120": false, "@159": false, "@160": false, "@161": false,
		fmt.Sprint("@", math.MinInt): false, fmt.Sprint("@", math.MaxInt): false,
	} {
		checkRoot(t, g, h, valOf(t, text), want)
	}
	for _, at := range []int{1, 2, 3, 5, 7, 8, 31, 32, 33, 36, 37} {
		checkRoot(t, g, h, thing(at), false)
	}
	for _, n := range []int{1, -1, 9973, math.MinInt, math.MaxInt} {
		checkRoot(t, g, h, impl.Val{Kind: impl.ValNone, N: n}, false)
	}
	for _, kind := range []int{0, 5, -1, 6, math.MinInt, math.MaxInt} {
		for _, n := range []int{0, 1, 4, 30} {
			checkRoot(t, g, h, impl.Val{Kind: kind, N: n}, false)
		}
	}
}

// checkRoot asks for one root, alone and at each place among others; what can not be a root can not be swept from.
func checkRoot(t *testing.T, g [][]impl.Type, h impl.Heap, v impl.Val, want bool) {
	t.Helper()
	for _, roots := range [][]impl.Val{
		values(v), values(v, none()), values(thing(0), v), values(number(5), v, thing(30)), values(v, v), append(many(200, thing(34)), v),
	} {
		if got := impl.RootsOk(g, h, roots); got != want || plainRootsOk(g, h, roots) != want {
			t.Errorf("%s of %s: %v", valText(v), valsText(roots), got)
		}
		swept, moved, ok := impl.HeapMinor(g, h, roots)
		if ok != want || !want && (heapText(swept) != heapText(impl.Heap{}) || len(moved) != 0) {
			t.Errorf("%s of %s: %v, %s, %s", valText(v), valsText(roots), ok, heapText(swept), valsText(moved))
		}
	}
}

// TestRootsOfNothing asks for roots that are none, and for roots where there are no things.
func TestRootsOfNothing(t *testing.T) {
	world := typesOf(t, minorWorld)
	for _, text := range []string{rootHeap, "1+0|||", "1+40|||", "120+0|||", "120+40|||", "9+9|1(c7)||", "9+9||1(c7)|"} {
		h := heapOf(t, text)
		if !impl.RootsOk(world, h, nil) || !impl.RootsOk(world, h, []impl.Val{}) {
			t.Errorf("%s: no roots are not ok", text)
		}
	}
	empty := impl.HeapNew(5, 5)
	for name, g := range map[string][][]impl.Type{"world": world, "no types": nil} {
		if !impl.RootsOk(g, empty, nil) || !impl.RootsOk(g, empty, values(number(3), none(), chip(4))) {
			t.Errorf("%s: what names nothing is not ok", name)
		}
		for at := -1; at < 12; at++ {
			checkRoot(t, g, empty, thing(at), false)
		}
	}
}

// checkMinorNothing asks for what is told of roots of a heap that is not ok.
func checkMinorNothing(t *testing.T, name string, g [][]impl.Type, h impl.Heap) {
	t.Helper()
	for _, roots := range [][]impl.Val{nil, {}, values(number(0)), values(none()), values(chip(1), none()), values(thing(0)), values(thing(h.Old)), values(thing(-1))} {
		if impl.RootsOk(g, h, roots) {
			t.Errorf("%s: %s are roots", name, valsText(roots))
		}
		swept, moved, ok := impl.HeapMinor(g, h, roots)
		if ok || heapText(swept) != heapText(impl.Heap{}) || len(moved) != 0 {
			t.Errorf("%s from %s: %v, %s, %s", name, valsText(roots), ok, heapText(swept), valsText(moved))
		}
	}
}

func TestMinorOfHeapsThatAreNotOk(t *testing.T) {
	g := typesOf(t, heapWorld)
	for name, h := range brokenHeaps(t) {
		checkMinorNothing(t, name, g, h)
	}
	for name, g := range badFamilies() {
		for _, text := range []string{"5+5|||", "5+5|0()||", "5+5||0()|", "5+5|0(1)||", "5+5|0()|0()|"} {
			checkMinorNothing(t, name, g, heapOf(t, text))
		}
	}
}

// minorCase is a heap and roots, and both behind a sweep of the young; no text of a heap, if there is none.
type minorCase struct {
	name  string
	from  string
	roots string
	to    string
	moved string
}

func checkMinorCases(t *testing.T, world string, cases []minorCase) {
	t.Helper()
	g := typesOf(t, world)
	for _, c := range cases {
		t.Run(c.name, func(t *testing.T) {
			h, want := fromAndTo(t, g, c.from, c.to)
			roots := valsOf(t, c.roots)
			if !impl.RootsOk(g, h, roots) {
				t.Fatalf("%s: %s are no roots", c.from, c.roots)
			}
			got, moved, ok := impl.HeapMinor(g, h, roots)
			if ok != (c.to != "") || heapText(got) != heapText(want) || valsText(moved) != "("+c.moved+")" {
				t.Errorf("%s from (%s): %v, %s, %s", c.from, c.roots, ok, heapText(got), valsText(moved))
			}
			checkMinor(t, g, h, roots)
		})
	}
}

func TestMinorOrder(t *testing.T) {
	three := "|1(c1) 1(c2) 1(c3)|"
	checkMinorCases(t, minorWorld, []minorCase{
		{"a root", "10+10|" + three, "@12", "10+10|1(c2)||", "@0"},
		{"roots, in their order", "10+10|" + three, "@14 @10", "10+10|1(c3) 1(c1)||", "@0 @2"},
		{"roots, the other way", "10+10|" + three, "@10 @14", "10+10|1(c1) 1(c3)||", "@0 @2"},
		{"roots with others between", "10+10|" + three, "- @14 c12 12 @12 0", "10+10|1(c3) 1(c2)||", "- @0 c12 12 @2 0"},
		{"behind old things", "12+10|3(8 9) 3()" + three, "@16 @0 @12", "12+10|3(8 9) 3() 1(c3) 1(c1)||", "@4 @0 @6"},
		{"a log, in its order", "12+10|2(@14 @12)" + three + "1 2", "", "12+10|2(@3 @5) 1(c2) 1(c1)||", ""},
		{"a log, not by places", "12+10|2(@14 @12)" + three + "2 1", "", "12+10|2(@5 @3) 1(c1) 1(c2)||", ""},
		{"a log of many things, not by places", "16+10|1(@16) 2(c0 @18) 1(@20)" + three + "4 6 1", "", "16+10|1(@11) 2(c0 @7) 1(@9) 1(c2) 1(c3) 1(c1)||", ""},
		{"roots ahead of a log", "12+10|2(@14 @12)" + three + "1 2", "@16", "12+10|2(@5 @7) 1(c3) 1(c2) 1(c1)||", "@3"},
		{"roots ahead of a log, not by places", "12+10|2(@14 @12)" + three + "2 1", "@16", "12+10|2(@7 @5) 1(c3) 1(c1) 1(c2)||", "@3"},
		{"a log ahead of what stands in things", "12+10|1(@14)|1(c1) 1(c2) 1(@12)|1", "@16", "12+10|1(@4) 1(@6) 1(c2) 1(c1)||", "@2"},
		{"all roots ahead of what stands in things", "12+10||1(c1) 1(c2) 1(@12)|", "@16 @14", "12+10|1(@4) 1(c2) 1(c1)||", "@0 @2"},
		{"all of a log ahead of what stands in things", "12+10|2(@16 @14)|1(c1) 1(c2) 1(@12)|1 2", "", "12+10|2(@3 @5) 1(@7) 1(c2) 1(c1)||", ""},
		{"values in their order", "10+10||1(c1) 1(c2) 0(@12 @10 5)|", "@14", "10+10|0(@4 @6 5) 1(c2) 1(c1)||", "@0"},
		{"a row's in their order", "12+12||1(c1) 1(c2) 1(c3) 2(@14 c0 @16 - @12)|", "@18", "12+12|2(@6 c0 @8 - @10) 1(c2) 1(c3) 1(c1)||", "@0"},
		{"breadth first", "20+20||0(@24 @28 5) 0(@32 @34 6) 0(@36 @38 7) 1(c3) 1(c4) 1(c5) 1(c6)|", "@20",
			"20+20|0(@4 @8 5) 0(@12 @14 6) 0(@16 @18 7) 1(c3) 1(c4) 1(c5) 1(c6)||", "@0"},
		{"breadth first, made the other way", "20+20||1(c6) 1(c5) 1(c4) 1(c3) 0(@22 @20 7) 0(@26 @24 6) 0(@32 @28 5)|", "@36",
			"20+20|0(@4 @8 5) 0(@12 @14 6) 0(@16 @18 7) 1(c3) 1(c4) 1(c5) 1(c6)||", "@0"},
		{"breadth first, of two roots", "12+12||1(@16) 1(@18) 1(c5) 1(c6)|", "@14 @12", "12+12|1(@4) 1(@6) 1(c6) 1(c5)||", "@0 @2"},
		{"a line", "8+8||1(c9) 1(@8) 1(@10) 1(@12)|", "@14", "8+8|1(@2) 1(@4) 1(@6) 1(c9)||", "@0"},
		{"the part of a line behind its root", "8+8||1(c9) 1(@8) 1(@10) 1(@12)|", "@10", "8+8|1(@2) 1(c9)||", "@0"},
	})
}

func TestMinorNamedTwice(t *testing.T) {
	checkMinorCases(t, minorWorld, []minorCase{
		{"by two roots", "6+6||1(c1) 1(c2)|", "@8 @8", "6+6|1(c2)||", "@0 @0"},
		{"by three roots, with others between", "6+6||1(c1) 1(c2)|", "@8 @6 @8 - @6 @8", "6+6|1(c2) 1(c1)||", "@0 @2 @0 - @2 @0"},
		{"by a root and a word of a log", "8+6|1(@10)|1(c1) 1(c2)|1", "@10", "8+6|1(@2) 1(c2)||", "@2"},
		{"by a root behind another, and a word of a log", "8+6|1(@8)|1(c1) 1(c2)|1", "@10 @8", "8+6|1(@4) 1(c2) 1(c1)||", "@2 @4"},
		{"by two words of a log", "9+6|2(@11 @11)|1(c1) 1(c2)|2 1", "", "9+6|2(@3 @3) 1(c2)||", ""},
		{"by words of two old things", "9+6|1(@11) 1(@11)|1(c1) 1(c2)|3 1", "@0", "9+6|1(@4) 1(@4) 1(c2)||", "@0"},
		{"by a root and a young thing", "9+9||1(c1) 1(c2) 1(@9)|", "@13 @9", "9+9|1(@2) 1(c1)||", "@0 @2"},
		{"by a word of a log and a young thing", "12+9|1(@14)|1(c1) 1(c2) 0(@12 @14 6)|1", "@16", "12+9|1(@6) 0(@8 @6 6) 1(c2) 1(c1)||", "@2"},
		{"by one young thing", "9+9||1(c1) 0(@9 @9 5)|", "@11", "9+9|0(@4 @4 5) 1(c1)||", "@0"},
		{"by two young things", "9+9||1(c1) 1(@9) 1(@9)|", "@13 @11", "9+9|1(@4) 1(@4) 1(c1)||", "@0 @2"},
		{"by two young things of which one comes by the other", "12+12||1(c1) 0(@18 @12 7) 0(@12 @14 8)|", "@14", "12+12|0(@4 @8 7) 0(@8 @0 8) 1(c1)||", "@0"},
		{"by a row, at its first place", "11+11||2(@20 @18 @20 @11 @18 @11) 1(c3) 1(c4)|", "@11", "11+11|2(@7 @9 @7 @0 @9 @0) 1(c4) 1(c3)||", "@0"},
	})
}

func TestMinorRounds(t *testing.T) {
	two, three := "6+6||1(@8) 1(@6)|", "6+6||1(@10) 1(@6) 1(@8)|"
	checkMinorCases(t, minorWorld, []minorCase{
		{"itself", "6+6||1(c1) 1(@8)|", "@8", "6+6|1(@0)||", "@0"},
		{"itself twice", "6+6||0(@6 @6 9)|", "@6", "6+6|0(@0 @0 9)||", "@0"},
		{"itself, by a log", "6+6|1(@8)|1(c1) 1(@8)|1", "", "6+6|1(@2) 1(@2)||", ""},
		{"itself, and not met", "6+6||1(@6) 1(c1)|", "@8", "6+6|1(c1)||", "@0"},
		{"two", two, "@6", "6+6|1(@2) 1(@0)||", "@0"},
		{"two, by the other one", two, "@8", "6+6|1(@2) 1(@0)||", "@0"},
		{"two, both named", two, "@8 @6", "6+6|1(@2) 1(@0)||", "@0 @2"},
		{"two, by a log", "6+6|1(@8)|1(@8) 1(@6)|1", "", "6+6|1(@2) 1(@4) 1(@2)||", ""},
		{"two of two kinds", "9+9||0(c1 @13 5) 2(- @9)|", "@13", "9+9|2(- @3) 0(c1 @0 5)||", "@0"},
		{"two, each naming itself too", "9+9||0(@9 @13 5) 0(@9 @13 6)|", "@13", "9+9|0(@4 @0 6) 0(@4 @0 5)||", "@0"},
		{"two, of which none is met", two, "", "6+6|||", ""},
		{"three", three, "@6", "6+6|1(@2) 1(@4) 1(@0)||", "@0"},
		{"three, from the last one on", three, "@10", "6+6|1(@2) 1(@4) 1(@0)||", "@0"},
		{"three, all named", three, "@8 @6 @10", "6+6|1(@2) 1(@4) 1(@0)||", "@0 @2 @4"},
		{"three, named the other way", three, "@10 @6 @8", "6+6|1(@4) 1(@0) 1(@2)||", "@0 @2 @4"},
		{"three, of which none is met", three, "c6 8 -", "6+6|||", "c6 8 -"},
		{"one round is met and one is not", "8+8||1(@12) 1(@14) 1(@8) 1(@10)|", "@14", "8+8|1(@2) 1(@0)||", "@0"},
		{"a round that is not met names what is", "12+12||0(@16 @20 5) 0(@12 @20 6) 1(c1)|", "@20", "12+12|1(c1)||", "@0"},
		{"a round that is met leads on", "9+9||1(c1) 0(@15 @9 5) 1(@11)|", "@15", "9+9|1(@2) 0(@0 @6 5) 1(c1)||", "@0"},
		{"two rounds with one in both", "9+9||0(@13 @15 5) 1(@9) 1(@9)|", "@15", "9+9|1(@2) 0(@6 @0 5) 1(@2)||", "@0"},
		{"a round through an old thing", "9+9|1(@11)|1(c1) 1(@0)|1", "@0", "9+9|1(@2) 1(@0)||", "@0"},
		{"a round through an old thing, which no root names", "9+9|1(@11)|1(c1) 1(@0)|1", "", "9+9|1(@2) 1(@0)||", ""},
		{"a round through two of both ages", "9+9|1(@9) 1(@11)|1(@2) 1(@0)|3 1", "", "9+9|1(@6) 1(@4) 1(@0) 1(@2)||", ""},
	})
}

// TestMinorLog has words that are known, most of which name nothing young any more.
func TestMinorLog(t *testing.T) {
	checkMinorCases(t, minorWorld, []minorCase{
		{"none", "9+9|2(- -)|1(c1)|1", "", "9+9|2(- -)||", ""},
		{"a chip", "9+9|1(c9)|1(c1)|1", "", "9+9|1(c9)||", ""},
		{"an old thing", "9+9|1(c5) 1(@0)|1(c1)|3", "", "9+9|1(c5) 1(@0)||", ""},
		{"itself", "9+9|1(@0)|1(c1)|1", "", "9+9|1(@0)||", ""},
		{"all of these, and one that does", "16+9|2(- c16 @0 @18 c18 @7) 2(-)|1(c1) 1(c2)|3 1 2 4 6 5 8", "@16", "16+9|2(- c16 @0 @11 c18 @7) 2(-) 1(c1) 1(c2)||", "@9"},
		{"an old thing that no root names", "9+9|1(@11)|1(c1) 1(@9)|1", "", "9+9|1(@2) 1(@4) 1(c1)||", ""},
		{"an old thing that is named by an old one", "9+9|1(@2) 1(@11)|1(c1) 1(c2)|3", "@0", "9+9|1(@2) 1(@4) 1(c2)||", "@0"},
		{"a sure one", "12+9|1(c3) 4(@12 26 -)|1(c1)|3", "", "12+9|1(c3) 4(@6 26 -) 1(c1)||", ""},
		{"a sure one that is a chip, and one that is none", "12+9|4(c12 26 -)|1(c1)|3 1", "", "12+9|4(c12 26 -)||", ""},
		{"a sure one that is old", "12+9|1(c3) 4(@0 26 c12)|1(c1)|5 3", "@12", "12+9|1(c3) 4(@0 26 c12) 1(c1)||", "@6"},
		{"a word right ahead of what is written", "11+2|2(c1 c2 c3 c4 c5) 2(c6 c7 @11)|3()|9", "", "11+2|2(c1 c2 c3 c4 c5) 2(c6 c7 @10) 3()||", ""},
	})
}

// TestMinorNumbers has numbers whose words are also those of young things and of chips, and chips that are told by a young thing's place.
func TestMinorNumbers(t *testing.T) {
	checkMinorCases(t, minorWorld, []minorCase{
		{"in a young row", "12+12||3(26 25 36) 1(c1)|", "@12", "12+12|3(26 25 36)||", "@0"},
		{"in an old row", "9+9|3(20 19)|1(c1)|", "", "9+9|3(20 19)||", ""},
		{"in an old row beside what is known", "9+9|3(20 19) 1(@9)|1(c1)|4", "", "9+9|3(20 19) 1(@5) 1(c1)||", ""},
		{"in a young thing", "9+9||0(c13 - 28) 1(c1)|", "@9", "9+9|0(c13 - 28)||", "@0"},
		{"in a young thing beside a reference", "9+9||0(@13 c13 28) 1(c1)|", "@9", "9+9|0(@4 c13 28) 1(c1)||", "@0"},
		{"in a young thing with a sure reference", "9+9||4(@13 28 c13) 1(c1)|", "@9", "9+9|4(@4 28 c13) 1(c1)||", "@0"},
		{"in an old thing beside what is known", "12+9|0(@12 c12 26)|1(c1)|2 1", "", "12+9|0(@4 c12 26) 1(c1)||", ""},
		{"roots", "9+9||1(c1)|", "20 19 9 c9 0 c0", "9+9|||", "20 19 9 c9 0 c0"},
	})
}

func TestMinorNamesOld(t *testing.T) {
	checkMinorCases(t, minorWorld, []minorCase{
		{"by a young thing", "9+9|1(c5) 3(7)|1(@0) 1(@2)|", "@11", "9+9|1(c5) 3(7) 1(@2)||", "@4"},
		{"by young things and old ones", "12+12|1(c5) 1(@0)|0(@2 @16 6) 1(@0)|", "@12 @2", "12+12|1(c5) 1(@0) 0(@2 @8 6) 1(@0)||", "@4 @2"},
		{"an old thing is not looked at", "9+9|2(- c1 @0)|1(c1) 1(@0)|", "@0 @11", "9+9|2(- c1 @0) 1(@0)||", "@0 @4"},
		{"by roots", "9+9|1(c5) 3()|1(c1)|", "0 9972 - c0 c9972 @0 @2 @0 9 c9", "9+9|1(c5) 3()||", "0 9972 - c0 c9972 @0 @2 @0 9 c9"},
	})
	checkMinorCases(t, heapWorld, []minorCase{
		{"with things of many types", fullHeap, "@24 @0 @20 @23", "20+12|0(7 @14) 1(1 - c5 c6) 3(@0 @3) 2(1 2) 0(8 @0) 3()||", "@11 @0 @14 @17"},
		{"with a log alone", fullHeap, "", "20+12|0(7 @11) 1(1 - c5 c6) 3(@0 @3) 0(8 @0)||", ""},
		{"of types under one another", "24+20|0(1 -) 1(2 @0 @3 c9972) 4(@3 c0)|5(@0 -) 6(@3 - @24) 7(@8 @24 @27 -)|", "@31",
			"24+20|0(1 -) 1(2 @0 @3 c9972) 4(@3 c0) 7(@8 @16 @19 -) 5(@0 -) 6(@3 - @16)||", "@11"},
	})
}

func TestMinorOfLittle(t *testing.T) {
	checkMinorCases(t, minorWorld, []minorCase{
		{"no roots", "9+9|1(c5)|1(c1) 1(@9)|", "", "9+9|1(c5)||", ""},
		{"no roots, and a log", "9+9|1(@11)|1(c1) 1(@9)|1", "", "9+9|1(@2) 1(@4) 1(c1)||", ""},
		{"no roots, and a log that names nothing young", "9+9|1(c5)|1(c1) 1(@9)|1", "", "9+9|1(c5)||", ""},
		{"no young things", "9+9|1(c5) 1(@0)||", "@2 @0 5", "9+9|1(c5) 1(@0)||", "@2 @0 5"},
		{"no young things, and a log", "9+9|2(- c9 @0)||3 2 1", "@0 -", "9+9|2(- c9 @0)||", "@0 -"},
		{"no old things", "9+9||1(c5) 1(c6)|", "@9 @11", "9+9|1(c5) 1(c6)||", "@0 @2"},
		{"no things", "9+9|||", "", "9+9|||", ""},
		{"no things, and roots", "9+9|||", "- c1 5 - 0", "9+9|||", "- c1 5 - 0"},
		{"no words for young things", "9+0|1(c5) 1(@0)||", "@2", "9+0|1(c5) 1(@0)||", "@2"},
		{"no words for young things, and a log", "9+0|1(c5) 1(@0)||3 1", "@2 c9", "9+0|1(c5) 1(@0)||", "@2 c9"},
		{"no words for young things, and no more for old ones", "2+0|1(c5)||1", "@0", "2+0|1(c5)||", "@0"},
		{"one word for each", "1+1||3()|", "@1", "1+1|3()||", "@0"},
		{"a row of nothing", "9+9||3() 2() 3()|", "@10", "9+9|2()||", "@0"},
		{"rows of nothing", "9+9||3() 2() 3()|", "@11 @9 @10 @9", "9+9|3() 3() 2()||", "@0 @1 @2 @1"},
		{"a row of nothing that is named by a row", "9+9||2() 2(@9)|", "@10", "9+9|2(@2) 2()||", "@0"},
		{"a row of nothing that is known", "9+9|1(@10)|2() 3()|1", "", "9+9|1(@2) 3()||", ""},
		{"a row of six", "7+7||2(@7 c7 - @7 c0 c9972)|", "@7", "7+7|2(@0 c7 - @0 c0 c9972)||", "@0"},
		{"a row of six numbers", "7+7||3(0 1 16 9972 15 14)|", "@7", "7+7|3(0 1 16 9972 15 14)||", "@0"},
		{"a row of six things", "19+19||3(1) 3(2) 3(3) 3(4) 3(5) 3(6) 2(@29 @25 @21 @19 @23 @27)|", "@31",
			"19+19|2(@7 @9 @11 @13 @15 @17) 3(6) 3(4) 3(2) 3(1) 3(3) 3(5)||", "@0"},
		{"a row of six that is known", "20+6|2(@24 @20 - @22 c1 @24)|1(c1) 1(c2) 1(c3)|4 6 5 3 2 1", "", "20+6|2(@9 @11 - @7 c1 @9) 1(c2) 1(c3) 1(c1)||", ""},
	})
	checkMinorCases(t, "group\nbox -\nbox - rany\n", []minorCase{
		{"boxes of nothing", "4+4||0() 0() 0()|", "@6 @4", "4+4|0() 0()||", "@0 @1"},
		{"a field that is not turned", "6+6|0()|1(@0) 1(@6)|", "@8", "6+6|0() 1(@3) 1(@0)||", "@1"},
	})
}

func TestMinorRoom(t *testing.T) {
	six := "3() 3() 3() 3() 3() 3()"
	old, young := strings.Repeat("1(c1) ", 40), strings.Repeat("1(c2) ", 20)
	checkMinorCases(t, minorWorld, []minorCase{
		{"just as much", "8+6|3(1)|2(- c1 @8 - -)|", "@8", "8+6|3(1) 2(- c1 @2 - -)||", "@2"},
		{"just as much, and nothing is met", "8+6|3(1)|2(- c1 @8 - -)|", "", "8+6|3(1)||", ""},
		{"just as much, and less is met", "8+6|3(1)|" + six + "|", "@13 @0", "8+6|3(1) 3()||", "@2 @0"},
		{"just as much, and nothing old", "6+6||" + six + "|", "@11 @6", "6+6|3() 3()||", "@0 @1"},
		{"one more", "7+6|3(1)|2(- c1 @7 - -)|", "@7", "", ""},
		{"one more, and nothing is met", "7+6|3(1)|2(- c1 @7 - -)|", "", "", ""},
		{"one more, and less is met", "7+6|3(1)|" + six + "|", "@7", "", ""},
		{"one more, and less is met by a log", "7+6|1(@7)|" + six + "|1", "", "", ""},
		{"one more, and nothing old", "5+6||" + six + "|", "@5", "", ""},
		{"one more, and roots that name nothing young", "7+6|3(1)|" + six + "|", "@0 5 - c7", "", ""},
		{"no room, and no young things", "2+6|3(1)||", "@0", "2+6|3(1)||", "@0"},
		{"no room, and a young thing", "2+6|3(1)|3()|", "@0", "", ""},
		{"a word of room, and a young thing", "3+6|3(1)|3()|", "@3", "3+6|3(1) 3()||", "@2"},
		{"as many words as there may be", "120+40|" + old + "|" + young + "|", "@158 @120", "120+40|" + old + "1(c2) 1(c2)||", "@80 @82"},
		{"as many words as there may be, and one more", "120+40|" + old + "3()|" + young + "|", "@158 @120", "", ""},
		{"as many words as there may be, and all are met", "120+40|" + old + "|" + line(120, 20) + "|", "@120", "120+40|" + old + line(80, 20) + "||", "@80"},
	})
}

// line is things that stand one behind the other, each of which names the next one, and the last the first one.
func line(from int, many int) string {
	text := ""
	for i := range many {
		text += fmt.Sprintf("1(@%d) ", from+2*((i+1)%many))
	}
	return text
}

// checkMinor holds a sweep against the document's words, and against what it was ahead.
func checkMinor(t *testing.T, g [][]impl.Type, h impl.Heap, roots []impl.Val) (impl.Heap, []impl.Val, bool) {
	t.Helper()
	want, now, fine := plainMinor(g, h, roots)
	swept, moved, ok := impl.HeapMinor(g, h, roots)
	if ok != fine || heapText(swept) != heapText(want) || !slices.Equal(moved, now) {
		t.Fatalf("%v, %s from %s: %v, %s, %s, not %s, %s", g, heapText(h), valsText(roots), ok, heapText(swept), valsText(moved), heapText(want), valsText(now))
	}
	if !ok {
		return h, roots, false
	}
	if !impl.HeapOk(g, swept) || !impl.RootsOk(g, swept, moved) {
		t.Fatalf("%v, %s from %s: it is not ok behind it: %s, %s", g, heapText(h), valsText(roots), heapText(swept), valsText(moved))
	}
	if swept.YoungAt != 0 || len(swept.Log) != 0 || swept.Old != h.Old || len(swept.Words) != len(h.Words) || slices.ContainsFunc(swept.Words[swept.OldAt:], func(w int) bool { return w != 0 }) {
		t.Fatalf("%v, %s from %s: something young is left, or its size is another: %s", g, heapText(h), valsText(roots), heapText(swept))
	}
	checkAllThere(t, g, h, roots, swept, moved)
	again, stay, ok := impl.HeapMinor(g, swept, moved)
	if !ok || !impl.HeapSame(again, swept) || !slices.Equal(stay, moved) {
		t.Fatalf("%v: a second sweep of %s gives %v, %s, %s", g, heapText(swept), ok, heapText(again), valsText(stay))
	}
	return swept, moved, true
}

// checkAllThere goes from the roots, and then from each old thing, through both heaps at once: what is reached is the same,
// thing by thing, an old thing is where it was, and nothing else is there.
func checkAllThere(t *testing.T, g [][]impl.Type, h impl.Heap, roots []impl.Val, swept impl.Heap, moved []impl.Val) {
	t.Helper()
	both := twinsOf(g, h, swept)
	same := both.same(roots, moved)
	for at := range both.one {
		if at < h.Old {
			same = same && both.same(values(thing(at)), values(thing(at)))
		}
	}
	for was, now := range both.now {
		same = same && (was >= h.Old || now == was)
	}
	if !same || len(both.now) != len(both.two) {
		t.Fatalf("%v: %s, %s came of %s, %s: %v", g, heapText(swept), valsText(moved), heapText(h), valsText(roots), both.now)
	}
}

// minorStep is one step of a program that makes, puts, sweeps, and forgets, at random.
func minorStep(t *testing.T, r *rand.Rand, g [][]impl.Type, h impl.Heap, roots []impl.Val) (impl.Heap, []impl.Val) {
	switch r.Intn(12) {
	case 0:
		h, roots, _ = checkMinor(t, g, h, roots)
	case 1, 2:
		all, _ := plainHeapPlaced(g, h)
		roots = append(slices.Clone(roots), someRoot(r, all))
	case 3, 4:
		if len(roots) > 0 {
			roots = slices.Delete(slices.Clone(roots), 0, 1+r.Intn(len(roots)))
		}
	case 5, 6, 7, 8:
		a, vals := someMaking(r, g, h)
		if made, at, ok := impl.HeapMake(g, h, a, vals); ok {
			return made, append(slices.Clone(roots), thing(at))
		}
	default:
		a, i, v := somePutting(r, g, h)
		if put, ok := impl.HeapPut(g, h, a, i, v); ok {
			h = put
		}
	}
	return h, roots
}

// TestMinorPromise makes, puts and sweeps at random, step by step, each heap coming of the one ahead.
func TestMinorPromise(t *testing.T) {
	r := rand.New(rand.NewSource(8))
	swept, kept, lost, known, full := 0, 0, 0, 0, 0
	for range 300 {
		g := someHeapTypes(t, r)
		h := impl.HeapNew(1+r.Intn(impl.OldMost), r.Intn(impl.YoungMost+1))
		var roots []impl.Val
		for range 60 {
			h, roots = minorStep(t, r, g, h, roots)
			// Also where it is not swept, as it would be.
			to, _, ok := checkMinor(t, g, h, roots)
			if !ok {
				full++
				continue
			}
			swept++
			kept += to.OldAt - h.OldAt
			lost += h.YoungAt + h.OldAt - to.OldAt
			if bare, _, _ := impl.HeapMinor(g, h, nil); bare.OldAt > h.OldAt {
				known++
			}
		}
	}
	// The steps are such that it is worth it.
	if swept < 5000 || kept < 20000 || lost < 5000 || known < 200 || full < 300 {
		t.Error(swept, kept, lost, known, full)
	}
}

// TestMinorKnots sweeps heaps whose things name one another at random, and such with a part turned.
func TestMinorKnots(t *testing.T) {
	r := rand.New(rand.NewSource(88))
	g := typesOf(t, minorWorld)
	swept, kept, full, wrong := 0, 0, 0, 0
	for range 2500 {
		h := knottedHeap(r, g)
		roots := someRoots(r, g, h)
		if !impl.RootsOk(g, h, roots) {
			t.Fatalf("%s are no roots of %s", valsText(roots), heapText(h))
		}
		if to, _, ok := checkMinor(t, g, h, roots); ok {
			swept++
			kept += to.OldAt - h.OldAt
		} else {
			full++
		}
		h = turnedHeap(h, func(h *impl.Heap) { slices.Reverse(h.Log) })
		checkMinor(t, g, h, roots)
		if r.Intn(2) == 0 {
			h = marredHeap(r, h)
		} else {
			roots = marredRoots(r, h, roots)
		}
		ok := plainRootsOk(g, h, roots)
		if got := impl.RootsOk(g, h, roots); got != ok {
			t.Fatalf("%s of %s: %v", valsText(roots), heapText(h), got)
		}
		if !ok {
			wrong++
		}
		checkMinor(t, g, h, roots)
	}
	if swept < 1000 || kept < 5000 || full < 200 || wrong < 500 {
		t.Error(swept, kept, full, wrong)
	}
}

// TestMinorTurnsNothing hands in what has room behind each list, and writes over all that is answered.
func TestMinorTurnsNothing(t *testing.T) {
	r := rand.New(rand.NewSource(888))
	answers := 0
	for range 400 {
		g := copyGroups(typesOf(t, minorWorld))
		h := copyHeap(knottedHeap(r, g))
		roots := withRoom(someRoots(r, g, h), impl.Val{Kind: 66, N: 66})
		wholeTypes, whole, wholeRoots := spread(g), spreadHeap(h), slices.Clone(roots[:cap(roots)])
		impl.RootsOk(g, h, roots)
		swept, moved, ok := impl.HeapMinor(g, h, roots)
		other, also, _ := impl.HeapMinor(g, h, roots)
		text := fmt.Sprint(swept, moved, ok)
		if scribbleHeap(swept) {
			t.Fatalf("two lists are one: %s", text)
		}
		for at := range moved[:cap(moved)] {
			moved[:cap(moved)][at] = impl.Val{Kind: -66}
		}
		if got := fmt.Sprint(other, also, ok); got != text {
			t.Fatalf("two answers are one: %s, %s", text, got)
		}
		if !reflect.DeepEqual(spread(g), wholeTypes) || !reflect.DeepEqual(spreadHeap(h), whole) || !slices.Equal(roots[:cap(roots)], wholeRoots) {
			t.Fatalf("what was handed in is turned: %s", text)
		}
		if got := fmt.Sprint(impl.HeapMinor(g, h, roots)); got != text {
			t.Fatalf("%s, and then %s", text, got)
		}
		answers += len(swept.Words) + len(moved)
	}
	if answers < 10000 {
		t.Error(answers)
	}
}
