package tests

import (
	"fmt"
	"math"
	"math/rand"
	"reflect"
	"slices"
	"strings"
	"testing"

	"loop.example/lairage/impl"
)

func TestRoomConstants(t *testing.T) {
	if rooms := []int{impl.RoomNone, impl.RoomYoung, impl.RoomOld}; !slices.Equal(rooms, []int{0, 1, 2}) {
		t.Error(rooms)
	}
}

// majorCase is a heap and roots: where what is reached begins, how many words that has, and both behind a sweep of all; no
// text of a heap, if there is none.
type majorCase struct {
	name  string
	from  string
	roots string
	reach string
	live  int
	to    string
	moved string
}

func checkMajorCases(t *testing.T, world string, cases []majorCase) {
	t.Helper()
	g := typesOf(t, world)
	for _, c := range cases {
		t.Run(c.name, func(t *testing.T) {
			h, want := fromAndTo(t, g, c.from, c.to)
			roots := valsOf(t, c.roots)
			if !impl.RootsOk(g, h, roots) {
				t.Fatalf("%s: %s are no roots", c.from, c.roots)
			}
			if got := impl.HeapReach(g, h, roots); listText(got) != c.reach {
				t.Errorf("%s from (%s): %v is reached", c.from, c.roots, got)
			}
			if got := impl.HeapLive(g, h, roots); got != c.live {
				t.Errorf("%s from (%s): %d words are reached", c.from, c.roots, got)
			}
			got, moved, ok := impl.HeapMajor(g, h, roots)
			if ok != (c.to != "") || heapText(got) != heapText(want) || valsText(moved) != "("+c.moved+")" {
				t.Errorf("%s from (%s): %v, %s, %s", c.from, c.roots, ok, heapText(got), valsText(moved))
			}
			checkMajor(t, g, h, roots)
		})
	}
}

func TestMajorOrder(t *testing.T) {
	both, long := "10+10|1(c1) 1(c2)|1(c3) 1(c4)|", "12+12|1(@14) 1(@12) 1(c9)|1(@4) 1(@2)|1 3"
	checkMajorCases(t, minorWorld, []majorCase{
		{"an old root", "10+10|1(c1) 1(c2) 1(c3)||", "@2", "2", 2, "10+10|1(c2)||", "@0"},
		{"a young root", "10+10||1(c1) 1(c2) 1(c3)|", "@14", "14", 2, "10+10|1(c3)||", "@0"},
		{"a root of each", both, "@2 @12", "2 12", 4, "10+10|1(c2) 1(c4)||", "@0 @2"},
		{"a root of each, the other way", both, "@12 @2", "2 12", 4, "10+10|1(c2) 1(c4)||", "@2 @0"},
		{"all, by places", both, "@0 @2 @10 @12", "0 2 10 12", 8, "10+10|1(c1) 1(c2) 1(c3) 1(c4)||", "@0 @2 @4 @6"},
		{"all, the other way", both, "@12 @10 @2 @0", "0 2 10 12", 8, "10+10|1(c1) 1(c2) 1(c3) 1(c4)||", "@6 @4 @2 @0"},
		{"the ends", both, "@12 @0", "0 12", 4, "10+10|1(c1) 1(c4)||", "@2 @0"},
		{"roots with others between", both, "- @12 c12 26 @2 0 c0", "2 12", 4, "10+10|1(c2) 1(c4)||", "- @2 c12 26 @0 0 c0"},
		{"by an old thing ahead", "12+12|1(@2) 1(c2) 1(c3)||", "@0", "0 2", 4, "12+12|1(@2) 1(c2)||", "@0"},
		{"by an old thing behind", "12+12|1(c1) 1(c2) 1(@0)||", "@4", "0 4", 4, "12+12|1(c1) 1(@0)||", "@2"},
		{"by a young thing ahead", "12+12||1(@14) 1(c2) 1(c3)|", "@12", "12 14", 4, "12+12|1(@2) 1(c2)||", "@0"},
		{"by a young thing behind", "12+12||1(c1) 1(c2) 1(@12)|", "@16", "12 16", 4, "12+12|1(c1) 1(@0)||", "@2"},
		{"a long line", long, "@0", "0 2 4 12 14", 10, "12+12|1(@8) 1(@6) 1(c9) 1(@4) 1(@2)||", "@0"},
		{"the part of a line behind its root", long, "@2", "2 4 12", 6, "12+12|1(@4) 1(c9) 1(@2)||", "@0"},
		{"the end of a line", long, "@4", "4", 2, "12+12|1(c9)||", "@0"},
		{"values in their order", "12+12|0(@14 @12 5)|1(c1) 1(c2)|1 2", "@0", "0 12 14", 8, "12+12|0(@6 @4 5) 1(c1) 1(c2)||", "@0"},
		{"a row's", "14+14|2(@16 c0 @14 - @6) 1(c5)|1(c1) 1(c2)|1 3", "@0", "0 6 14 16", 12, "14+14|2(@10 c0 @8 - @6) 1(c5) 1(c1) 1(c2)||", "@0"},
		{"of things of many sizes", "20+20|3(1 2) 0(c1 - 5) 3() 2(@3 - @7)|3(3) 4(@22 9 c3) 1(@22)|", "@8 @26", "3 7 8 22 26", 15, "20+20|0(c1 - 5) 3() 2(@0 - @4) 4(@9 9 c3) 1(@9)||", "@5 @13"},
	})
}

// linePlaces is where the things of a line begin.
func linePlaces(from int, many int) string {
	var all []int
	for i := range many {
		all = append(all, from+2*i)
	}
	return listText(all)
}

// TestMajorOfLines has as many things as there can be that name one another.
func TestMajorOfLines(t *testing.T) {
	old, young := "120+40|"+line(0, 60)+"|1(c1)|", "120+40|1(c1)|"+line(120, 20)+"|"
	checkMajorCases(t, minorWorld, []majorCase{
		{"old ones, from the first on", old, "@0", linePlaces(0, 60), 120, "120+40|" + line(0, 60) + "||", "@0"},
		{"old ones, from one within on", old, "@58", linePlaces(0, 60), 120, "120+40|" + line(0, 60) + "||", "@58"},
		{"young ones, from the first on", young, "@120", linePlaces(120, 20), 40, "120+40|" + line(0, 20) + "||", "@0"},
		{"young ones, from the last on", young, "@158", linePlaces(120, 20), 40, "120+40|" + line(0, 20) + "||", "@38"},
	})
}

func TestMajorNamedTwice(t *testing.T) {
	checkMajorCases(t, minorWorld, []majorCase{
		{"by roots", "6+6|1(c1)|1(c2)|", "@6 @6 @0 @6 @0", "0 6", 4, "6+6|1(c1) 1(c2)||", "@2 @2 @0 @2 @0"},
		{"by a root and an old thing", "9+9|1(c1) 1(@0)||", "@2 @0", "0 2", 4, "9+9|1(c1) 1(@0)||", "@2 @0"},
		{"by a root and a young thing", "9+9||1(c1) 1(c2) 1(@11)|", "@11 @13", "11 13", 4, "9+9|1(c2) 1(@0)||", "@0 @2"},
		{"by things of both ages", "9+9|1(c1) 1(@0)|1(@0)|", "@9 @2", "0 2 9", 6, "9+9|1(c1) 1(@0) 1(@0)||", "@4 @2"},
		{"by things of both ages, a young one", "9+9|1(c1) 1(@11)|1(@11) 1(c2)|3", "@9 @2", "2 9 11", 6, "9+9|1(@4) 1(@4) 1(c2)||", "@2 @0"},
		{"by one thing", "9+9||1(c1) 0(@9 @9 5)|", "@11", "9 11", 6, "9+9|1(c1) 0(@0 @0 5)||", "@2"},
		{"by a row", "11+11|2(@11 @13 @11 @0 @13 @0)|1(c3) 1(c4)|5 2 3 1", "@0", "0 11 13", 11, "11+11|2(@7 @9 @7 @0 @9 @0) 1(c3) 1(c4)||", "@0"},
		{"by one of which the other comes", "12+12|0(@4 @8 7) 0(@8 @0 8) 1(c1)||", "@0", "0 4 8", 10, "12+12|0(@4 @8 7) 0(@8 @0 8) 1(c1)||", "@0"},
	})
}

func TestMajorRounds(t *testing.T) {
	two, three := "6+6|1(@6)|1(@0)|1", "6+6|1(@2) 1(@6)|1(@0)|3"
	checkMajorCases(t, minorWorld, []majorCase{
		{"itself, old", "6+6|1(c1) 1(@2)||", "@2", "2", 2, "6+6|1(@0)||", "@0"},
		{"itself, young", "6+6||1(c1) 1(@8)|", "@8", "8", 2, "6+6|1(@0)||", "@0"},
		{"itself twice", "6+6|3()|0(@6 @6 9)|", "@6", "6", 4, "6+6|0(@0 @0 9)||", "@0"},
		{"itself, and nothing else names it", "6+6|1(@0) 1(c1)|1(@6)|", "@2", "2", 2, "6+6|1(c1)||", "@0"},
		{"two old", "6+6|1(@2) 1(@0)||", "@2", "0 2", 4, "6+6|1(@2) 1(@0)||", "@2"},
		{"two young", "6+6|3()|1(@8) 1(@6)|", "@8", "6 8", 4, "6+6|1(@2) 1(@0)||", "@2"},
		{"two of both ages, by the young one", two, "@6", "0 6", 4, "6+6|1(@2) 1(@0)||", "@2"},
		{"two of both ages, by the old one", two, "@0", "0 6", 4, "6+6|1(@2) 1(@0)||", "@0"},
		{"two, both named", two, "@6 @0", "0 6", 4, "6+6|1(@2) 1(@0)||", "@2 @0"},
		{"two, that nothing else names", two, "", "", 0, "6+6|||", ""},
		{"two old, that nothing else names", "6+6|1(@2) 1(@0)|1(c1)|", "@6", "6", 2, "6+6|1(c1)||", "@0"},
		{"two young, that nothing else names", "6+6|1(c1)|1(@8) 1(@6)|", "@0", "0", 2, "6+6|1(c1)||", "@0"},
		{"two, each naming itself too", "9+9|0(@0 @9 5)|0(@0 @9 6)|2", "@9", "0 9", 8, "9+9|0(@0 @4 5) 0(@0 @4 6)||", "@4"},
		{"three", three, "@2", "0 2 6", 6, "6+6|1(@2) 1(@4) 1(@0)||", "@2"},
		{"three, from the last one on", three, "@6", "0 2 6", 6, "6+6|1(@2) 1(@4) 1(@0)||", "@4"},
		{"three, all named", three, "@2 @6 @0", "0 2 6", 6, "6+6|1(@2) 1(@4) 1(@0)||", "@2 @4 @0"},
		{"three, that nothing else names", three, "c0 2 - 6", "", 0, "6+6|||", "c0 2 - 6"},
		{"one round is reached and one is not", "9+9|1(@2) 1(@0)|1(@11) 1(@9)|", "@11", "9 11", 4, "9+9|1(@2) 1(@0)||", "@2"},
		{"a round that is not reached names what is", "12+12|0(@4 @8 5) 0(@0 @8 6) 1(c1)||", "@8", "8", 2, "12+12|1(c1)||", "@0"},
		{"a round leads on", "9+9|1(c1) 0(@6 @0 5) 1(@2)||", "@6", "0 2 6", 8, "9+9|1(c1) 0(@6 @0 5) 1(@2)||", "@6"},
		{"two rounds with one in both", "9+9|1(c1)|0(@13 @15 5) 1(@9) 1(@9)|", "@15", "9 13 15", 8, "9+9|0(@4 @6 5) 1(@0) 1(@0)||", "@6"},
	})
}

// TestMajorThroughOtherAge has things that are reached through one of the other age alone, and words of Log that nothing
// reached stands in.
func TestMajorThroughOtherAge(t *testing.T) {
	checkMajorCases(t, minorWorld, []majorCase{
		{"a young one through an old one", "9+9|1(c1) 1(@11)|1(c2) 1(c3)|3", "@2", "2 11", 4, "9+9|1(@2) 1(c3)||", "@0"},
		{"a young one through two old ones", "9+9|1(@2) 1(@11)|1(c2) 1(c3)|3", "@0", "0 2 11", 6, "9+9|1(@2) 1(@4) 1(c3)||", "@0"},
		{"an old one through a young one", "9+9|1(c1) 1(c2)|1(c3) 1(@2)|", "@11", "2 11", 4, "9+9|1(c2) 1(@0)||", "@2"},
		{"an old one through two young ones", "9+9|1(c1) 1(c2)|1(@2) 1(@9)|", "@11", "2 9 11", 6, "9+9|1(c2) 1(@0) 1(@2)||", "@4"},
		{"to and fro", "9+9|1(c1) 1(@9)|1(@0) 1(@2)|3", "@11", "0 2 9 11", 8, "9+9|1(c1) 1(@4) 1(@0) 1(@2)||", "@6"},
		{"a sure one", "9+9|4(@11 5 -)|1(c2) 1(c3)|1", "@0", "0 11", 6, "9+9|4(@4 5 -) 1(c3)||", "@0"},
		{"a known word that nothing reached stands in", "9+9|1(@9) 1(c2)|1(c3)|1", "@2", "2", 2, "9+9|1(c2)||", "@0"},
		{"a known word, and no roots", "9+9|1(@9) 1(c2)|1(c3)|1 3", "", "", 0, "9+9|||", ""},
		{"a known word in what is reached", "9+9|1(@9) 1(c2)|1(c3)|1 3", "@0", "0 9", 4, "9+9|1(@2) 1(c3)||", "@0"},
		{"known words that name nothing young", "9+9|2(- c9 @0)|1(c3)|3 1 2", "@0", "0", 4, "9+9|2(- c9 @0)||", "@0"},
	})
}

// TestMajorNumbers has numbers whose words are also those of things and of chips, and chips that are told by a thing's place.
func TestMajorNumbers(t *testing.T) {
	checkMajorCases(t, minorWorld, []majorCase{
		{"in an old row", "12+12|3(2 10 26 9) 1(c1)|1(c2)|", "@0", "0", 5, "12+12|3(2 10 26 9)||", "@0"},
		{"in a young row", "12+12|1(c1)|3(2 26 34) 1(c2)|", "@12", "12", 4, "12+12|3(2 26 34)||", "@0"},
		{"in a box", "12+12|1(c1) 0(c0 c12 2)|1(c2)|", "@2", "2", 4, "12+12|0(c0 c12 2)||", "@0"},
		{"in a box beside references", "12+12|1(c1) 0(@12 c12 26)|1(c2)|3", "@2", "2 12", 6, "12+12|0(@4 c12 26) 1(c2)||", "@0"},
		{"in a box with a sure reference", "12+12|1(c1) 4(@12 2 c0)|1(c2)|3", "@2", "2 12", 6, "12+12|4(@4 2 c0) 1(c2)||", "@0"},
		{"a sure reference to a chip", "12+12|1(c1) 4(c0 2 c12)|1(c2)|3", "@2", "2", 4, "12+12|4(c0 2 c12)||", "@0"},
		{"none", "12+12|1(c1) 0(- - 2)|1(-)|", "@2 @12", "2 12", 6, "12+12|0(- - 2) 1(-)||", "@0 @4"},
		{"roots", "9+9|1(c1)|1(c2)|", "2 0 9 c9 c0 20 - 9972 c9972", "", 0, "9+9|||", "2 0 9 c9 c0 20 - 9972 c9972"},
	})
}

func TestMajorOfLittle(t *testing.T) {
	checkMajorCases(t, minorWorld, []majorCase{
		{"no roots", "9+9|1(c5) 1(@0)|1(@9)|", "", "", 0, "9+9|||", ""},
		{"no things", "9+9|||", "", "", 0, "9+9|||", ""},
		{"no things, and roots", "9+9|||", "- c1 5 - 0", "", 0, "9+9|||", "- c1 5 - 0"},
		{"no young things", "9+9|1(c5) 1(@0)||3", "@0 5", "0", 2, "9+9|1(c5)||", "@0 5"},
		{"no old things", "9+9||1(c5) 1(c6)|", "@11", "11", 2, "9+9|1(c6)||", "@0"},
		{"no words for young things", "9+0|1(c5) 1(@2)||3 1", "@2", "2", 2, "9+0|1(@0)||", "@0"},
		{"one word for each", "1+1||3()|", "@1", "1", 1, "1+1|3()||", "@0"},
		{"rows of nothing", "9+9|3() 2() 3()|2() 3()|", "@10 @1 @2 @1", "1 2 10", 3, "9+9|2() 3() 3()||", "@2 @0 @1 @0"},
		{"a row of nothing that is named by a row", "9+9|2()|2(@9 @0) 3()|", "@9", "0 9", 4, "9+9|2() 2(@1 @0)||", "@1"},
		{"rows of six", "14+7|2(- - - - - -)|2(@0 c7 - @0 c0 c9972)|", "@14", "0 14", 14, "14+7|2(- - - - - -) 2(@0 c7 - @0 c0 c9972)||", "@7"},
		{"a row of six numbers", "9+9|3()|3(0 1 16 9972 15 14)|", "@9", "9", 7, "9+9|3(0 1 16 9972 15 14)||", "@0"},
		{"a row of six things", "19+12|2(@19 @7 @23 @9 @19 @23) 3(1) 3(2) 3(7)|3(3) 3(4) 3(5)|5 3 1 6", "@0", "0 7 9 19 23", 15, "19+12|2(@11 @7 @13 @9 @11 @13) 3(1) 3(2) 3(3) 3(5)||", "@0"},
	})
	checkMajorCases(t, "group\nbox -\nbox - rany\n", []majorCase{
		{"boxes of nothing", "4+4|0() 0()|0() 0() 0()|", "@6 @1", "1 6", 2, "4+4|0() 0()||", "@1 @0"},
		{"a field that is not turned", "6+6|0() 1(@0)|1(@1) 1(@6)|", "@8", "0 1 6 8", 7, "", ""},
		{"a field that is not turned, with room", "7+6|0() 1(@0)|1(@1) 1(@7)|", "@9", "0 1 7 9", 7, "7+6|0() 1(@0) 1(@1) 1(@3)||", "@5"},
	})
	checkMajorCases(t, heapWorld, []majorCase{
		{"with things of many types", fullHeap, "@24 @8 @23", "0 3 8 20 23 24", 18, "20+12|0(7 @11) 1(1 - c5 c6) 3(@0 @3) 0(8 @0) 3() 2(1 2)||", "@15 @8 @14"},
		{"with some of many types", fullHeap, "@23 @0", "0 20 23", 7, "20+12|0(7 @3) 0(8 @0) 3()||", "@6 @0"},
		{"of types under one another", "24+20|0(1 -) 1(2 @0 @3 c9972) 4(@3 c0)|5(@0 -) 6(@3 - @24) 7(@8 @24 @27 -)|", "@27",
			"0 3 24 27", 15, "24+20|0(1 -) 1(2 @0 @3 c9972) 5(@0 -) 6(@3 - @8)||", "@11"},
	})
}

func TestMajorRoom(t *testing.T) {
	six := "3() 3() 3() 3() 3() 3()"
	most, both := "120+40|"+line(0, 40), linePlaces(0, 40)+" "+linePlaces(120, 20)
	checkMajorCases(t, minorWorld, []majorCase{
		{"just as much", "4+6|1(c1)|1(c2) 1(c3)|", "@0 @4", "0 4", 4, "4+6|1(c1) 1(c2)||", "@0 @2"},
		{"one more", "3+6|1(c1)|1(c2) 1(c3)|", "@0 @3", "0 3", 4, "", ""},
		{"one more, by what is named", "3+6|1(@5)|1(c2) 1(c3)|1", "@0", "0 5", 4, "", ""},
		{"one more, but less of it is reached", "3+6|1(c1)|1(c2) 1(c3)|", "@3 - c0", "3", 2, "3+6|1(c2)||", "@0 - c0"},
		{"just as much, all of it young", "4+7||1(c2) 3() 2(- - -)|", "@7", "7", 4, "4+7|2(- - -)||", "@0"},
		{"one more, all of it young", "3+7||1(c2) 3() 2(- - -)|", "@6", "6", 4, "", ""},
		{"no room behind old things, and they are reached", "2+6|1(c1)|3()|", "@0", "0", 2, "2+6|1(c1)||", "@0"},
		{"no room behind old things, and they are not", "2+6|1(c1)|3()|", "@2", "2", 1, "2+6|3()||", "@0"},
		{"no room behind old things, and both are", "2+6|1(c1)|3()|", "@0 @2", "0 2", 3, "", ""},
		{"more young ones than room, but few are reached", "7+6|3(1)|" + six + "|", "@0 @7 @12", "0 7 12", 4, "7+6|3(1) 3() 3()||", "@0 @2 @3"},
		{"as many words as there may be", most + "|" + line(120, 20) + "|", "@0 @120", both, 120, most + line(80, 20) + "||", "@0 @80"},
		{"as many words as there may be, and one more", most + "3()|" + line(120, 20) + "|", "@0 @120 @80", linePlaces(0, 41) + " " + linePlaces(120, 20), 121, "", ""},
		{"as many words as there may be, and one more that is not reached", most + "3()|" + line(120, 20) + "|", "@0 @120", both, 120, most + line(80, 20) + "||", "@0 @80"},
	})
}

// checkMajor holds what is told of a sweep of all against the document's words, and against what it was ahead.
func checkMajor(t *testing.T, g [][]impl.Type, h impl.Heap, roots []impl.Val) bool {
	t.Helper()
	_, reached := plainReachedThings(g, h, roots)
	live := plainLive(g, h, roots)
	if got := impl.HeapReach(g, h, roots); !slices.Equal(got, reached) {
		t.Fatalf("%v, %s from %s: %v is reached, not %v", g, heapText(h), valsText(roots), got, reached)
	}
	if got := impl.HeapLive(g, h, roots); got != live {
		t.Fatalf("%v, %s from %s: %d words are reached, not %d", g, heapText(h), valsText(roots), got, live)
	}
	want, now, fine := plainMajor(g, h, roots)
	swept, moved, ok := impl.HeapMajor(g, h, roots)
	if ok != fine || heapText(swept) != heapText(want) || !slices.Equal(moved, now) {
		t.Fatalf("%v, %s from %s: %v, %s, %s, not %s, %s", g, heapText(h), valsText(roots), ok, heapText(swept), valsText(moved), heapText(want), valsText(now))
	}
	if !ok {
		return false
	}
	if !impl.HeapOk(g, swept) || !impl.RootsOk(g, swept, moved) {
		t.Fatalf("%v, %s from %s: it is not ok behind it: %s, %s", g, heapText(h), valsText(roots), heapText(swept), valsText(moved))
	}
	if swept.OldAt != live || swept.YoungAt != 0 || len(swept.Log) != 0 || swept.Old != h.Old || len(swept.Words) != len(h.Words) || slices.ContainsFunc(swept.Words[live:], func(w int) bool { return w != 0 }) {
		t.Fatalf("%v, %s from %s: something else is left, or its size is another: %s", g, heapText(h), valsText(roots), heapText(swept))
	}
	both := checkReached(t, g, h, roots, swept, moved)
	places := impl.HeapThings(g, swept)
	for i, was := range reached {
		if len(places) != len(reached) || both.now[was] != places[i] {
			t.Fatalf("%v, %s from %s: not in order, or not alone: %s", g, heapText(h), valsText(roots), heapText(swept))
		}
	}
	again, stay, ok := impl.HeapMajor(g, swept, moved)
	if !ok || !impl.HeapSame(again, swept) || !slices.Equal(stay, moved) {
		t.Fatalf("%v: a second sweep of %s gives %v, %s, %s", g, heapText(swept), ok, heapText(again), valsText(stay))
	}
	checkMinorAhead(t, g, h, roots, swept, moved)
	return true
}

// checkReached goes from the roots through both heaps at once: what is reached is the same, thing by thing.
func checkReached(t *testing.T, g [][]impl.Type, h impl.Heap, roots []impl.Val, swept impl.Heap, moved []impl.Val) twins {
	t.Helper()
	both := twinsOf(g, h, swept)
	if !both.same(roots, moved) {
		t.Fatalf("%v: %s, %s came of %s, %s: %v", g, heapText(swept), valsText(moved), heapText(h), valsText(roots), both.now)
	}
	return both
}

// checkMinorAhead sweeps the young first, where that has room, and then all: the same things are there, and say the same.
func checkMinorAhead(t *testing.T, g [][]impl.Type, h impl.Heap, roots []impl.Val, swept impl.Heap, moved []impl.Val) {
	t.Helper()
	young, to, ok := impl.HeapMinor(g, h, roots)
	if !ok {
		return
	}
	later, there, ok := impl.HeapMajor(g, young, to)
	if !ok || later.OldAt != swept.OldAt {
		t.Fatalf("%v, %s from %s: %s, but with a sweep of the young ahead %v, %s", g, heapText(h), valsText(roots), heapText(swept), ok, heapText(later))
	}
	both := checkReached(t, g, swept, moved, later, there)
	if len(both.now) != len(both.one) || len(both.now) != len(both.two) {
		t.Fatalf("%v, %s from %s: %s, but with a sweep of the young ahead %s", g, heapText(h), valsText(roots), heapText(swept), heapText(later))
	}
}

// checkMajorNothing asks for what is told of a heap and roots of which one is not ok.
func checkMajorNothing(t *testing.T, name string, g [][]impl.Type, h impl.Heap, roots []impl.Val) {
	t.Helper()
	nothing := heapText(impl.Heap{})
	if got := impl.HeapReach(g, h, roots); len(got) != 0 {
		t.Errorf("%s from %s: %v is reached", name, valsText(roots), got)
	}
	if got := impl.HeapLive(g, h, roots); got != 0 {
		t.Errorf("%s from %s: %d words are reached", name, valsText(roots), got)
	}
	if swept, moved, ok := impl.HeapMajor(g, h, roots); ok || heapText(swept) != nothing || len(moved) != 0 {
		t.Errorf("%s from %s: %v, %s, %s", name, valsText(roots), ok, heapText(swept), valsText(moved))
	}
	for _, n := range []int{-1, 0, 1, 2, 7, 8} {
		if swept, moved, room := impl.HeapWant(g, h, roots, n); room != impl.RoomNone || heapText(swept) != nothing || len(moved) != 0 {
			t.Errorf("%s from %s, %d wanted: %d, %s, %s", name, valsText(roots), n, room, heapText(swept), valsText(moved))
		}
	}
}

func TestMajorOfRootsThatAreNotOk(t *testing.T) {
	g := typesOf(t, minorWorld)
	h := heapOf(t, rootHeap)
	wrong := values(number(-1), number(9973), chip(-1), chip(9973), number(math.MinInt), chip(math.MaxInt),
		impl.Val{}, impl.Val{Kind: impl.ValNone, N: 1}, impl.Val{Kind: 5}, impl.Val{Kind: -1}, impl.Val{Kind: math.MaxInt, N: 4})
	for at := -3; at < 170; at++ {
		if !slices.Contains([]int{0, 4, 6, 30, 34, 35}, at) {
			wrong = append(wrong, thing(at))
		}
	}
	for _, v := range append(wrong, thing(math.MinInt), thing(math.MaxInt)) {
		for _, roots := range [][]impl.Val{values(v), values(v, none()), values(thing(0), v), values(number(5), v, thing(30)), append(many(200, thing(34)), v)} {
			checkMajorNothing(t, rootHeap, g, h, roots)
		}
	}
	// Where nothing begins, a word that is 0 is no thing, though a thing of the first type may be such a word.
	dots := groups(group(box(-1)))
	for at := 2; at < 12; at++ {
		if at != 6 {
			checkMajorNothing(t, "dots", dots, heapOf(t, "6+6|0() 0()|0()|"), values(thing(at)))
		}
	}
	// Many roots are as good as one.
	if got := impl.HeapReach(g, h, many(200, thing(34))); !slices.Equal(got, []int{34}) {
		t.Error(got)
	}
}

func TestMajorOfHeapsThatAreNotOk(t *testing.T) {
	check := func(name string, g [][]impl.Type, h impl.Heap) {
		for _, roots := range [][]impl.Val{nil, {}, values(number(0)), values(none()), values(chip(1), none()), values(thing(0)), values(thing(h.Old)), values(thing(-1))} {
			checkMajorNothing(t, name, g, h, roots)
		}
		for a := -1; a < 4; a++ {
			for _, vals := range [][]impl.Val{nil, values(number(1)), values(none()), values(number(1), none())} {
				if got, at, ok := impl.HeapGrow(g, h, a, vals); ok || at != 0 || heapText(got) != heapText(impl.Heap{}) {
					t.Errorf("%s: made at %d: %s", name, at, heapText(got))
				}
			}
		}
	}
	for name, h := range brokenHeaps(t) {
		check(name, typesOf(t, heapWorld), h)
	}
	for name, g := range badFamilies() {
		for _, text := range []string{"5+5|||", "5+5|0()||", "5+5||0()|", "5+5|0(1)||", "5+5|0()|0()|"} {
			check(name, g, heapOf(t, text))
		}
	}
}

// wantCase is a heap, roots, and how many words are wanted: where there is room, and both behind that. No text of a heap
// stands for the one that was given, with its roots.
type wantCase struct {
	name  string
	from  string
	roots string
	n     int
	room  int
	to    string
	moved string
}

func checkWantCases(t *testing.T, world string, cases []wantCase) {
	t.Helper()
	g := typesOf(t, world)
	for _, c := range cases {
		t.Run(c.name, func(t *testing.T) {
			if c.to == "" {
				c.to, c.moved = c.from, c.roots
			}
			h, want := fromAndTo(t, g, c.from, c.to)
			roots := valsOf(t, c.roots)
			got, moved, room := impl.HeapWant(g, h, roots, c.n)
			if room != c.room || heapText(got) != heapText(want) || valsText(moved) != "("+c.moved+")" {
				t.Errorf("%s from (%s), %d wanted: %d, %s, %s", c.from, c.roots, c.n, room, heapText(got), valsText(moved))
			}
			for n := -1; n <= 8; n++ {
				checkWant(t, g, h, roots, n)
			}
		})
	}
}

func TestWantAsItIs(t *testing.T) {
	from := "9+6|1(@9)|1(c1) 3()|1"
	checkWantCases(t, minorWorld, []wantCase{
		{"a word", from, "@11", 1, impl.RoomYoung, "", ""},
		{"just enough", from, "@11", 3, impl.RoomYoung, "", ""},
		{"just enough, and no roots", from, "", 3, impl.RoomYoung, "", ""},
		{"just enough, and what is reached is more than all old words", "3+9|1(@3)|2(- - -) 1(c2)|1", "@0 @3 @7", 3, impl.RoomYoung, "", ""},
		{"a word too little", from, "@0 @11", 4, impl.RoomYoung, "9+6|1(@3) 3() 1(c1)||", "@0 @2"},
		{"no young things, and just enough", "9+4|1(c1)||1", "@0", 4, impl.RoomYoung, "", ""},
		{"no young things, and a word too little", "9+4|1(c1)||1", "@0", 5, impl.RoomOld, "9+4|1(c1)||", "@0"},
		{"no things", "9+7|||", "5 c9 -", 7, impl.RoomYoung, "", ""},
		{"no room for old ones", "2+3|1(c1)|1(c2)|", "@0 @2", 1, impl.RoomYoung, "", ""},
		{"as many words as there may be", "120+40|" + line(0, 60) + "|" + line(120, 16) + "3()|", "@0 @120", 7, impl.RoomYoung, "", ""},
	})
}

// TestWantSweep has young things that must be swept: the young alone, or all, or not at all.
func TestWantSweep(t *testing.T) {
	six := "3() 3() 3() 3() 3() 3()"
	checkWantCases(t, minorWorld, []wantCase{
		{"young ones just as much as there is room", "8+6|3(1)|2(- c1 @8 - -)|", "@8", 1, impl.RoomYoung, "8+6|3(1) 2(- c1 @2 - -)||", "@2"},
		{"just as much, and nothing is reached", "8+6|1(c1)|" + six + "|1", "", 6, impl.RoomYoung, "8+6|1(c1)||", ""},
		{"just as much, and a known word", "8+6|1(@13)|" + six + "|1", "", 6, impl.RoomYoung, "8+6|1(@2) 3()||", ""},
		{"one more", "7+6|3(1)|2(- c1 @7 - -)|", "@7", 1, impl.RoomYoung, "7+6|2(- c1 @0 - -)||", "@0"},
		{"one more, and nothing is reached", "7+6|1(c1)|" + six + "|1", "", 6, impl.RoomYoung, "7+6|||", ""},
		{"one more, and a known word that nothing reached stands in", "7+6|1(@12)|" + six + "|1", "@7", 6, impl.RoomYoung, "7+6|3()||", "@0"},
		{"one more, and what is reached just fits", "7+6|3(1)|3() 2(- - - -)|", "@0 @8", 1, impl.RoomYoung, "7+6|3(1) 2(- - - -)||", "@0 @2"},
		{"one more, and what is reached is one too much", "7+6|3(1)|2(- c1 @7 - -)|", "@7 @0", 1, impl.RoomNone, "", ""},
		{"one more, one too much, and a known word", "7+6|1(@7)|2(- c1 @7 - -)|1", "@0 5 -", 6, impl.RoomNone, "", ""},
		{"one more, one too much, and more is wanted than there is", "7+6|1(@7)|2(- c1 @7 - -)|1", "@0", 7, impl.RoomNone, "", ""},
		{"many more than there is room, and little is reached", "3+9||2(- - - - - -) 1(c7)|", "@10", 1, impl.RoomYoung, "3+9|1(c7)||", "@0"},
		{"no room at all, and nothing young", "4+3|2(- - -)||2 1", "@0", 4, impl.RoomNone, "", ""},
		{"no room at all, nothing young, and nothing is reached", "4+3|2(- - -)||2 1", "", 4, impl.RoomOld, "4+3|||", ""},
	})
}

// TestWantBehindSweep has no room but behind a sweep.
func TestWantBehindSweep(t *testing.T) {
	checkWantCases(t, minorWorld, []wantCase{
		{"as much as there is for young ones", "12+4|1(c1)|1(c2)|", "@0 @12", 4, impl.RoomYoung, "12+4|1(c1) 1(c2)||", "@0 @2"},
		{"one more", "12+4|1(c1)|1(c2)|", "@0 @12", 5, impl.RoomOld, "12+4|1(c1) 1(c2)||", "@0 @2"},
		{"as much as there is for young ones, and no room for it among old ones", "5+4|1(c1)|1(c2)|", "@0 @5", 4, impl.RoomYoung, "5+4|1(c1) 1(c2)||", "@0 @2"},
		{"just as much as there is behind old ones", "9+4|1(c1)|1(c2)|", "@0 @9", 5, impl.RoomOld, "9+4|1(c1) 1(c2)||", "@0 @2"},
		{"just as much, with what is not reached", "9+4|1(c1)|1(c2)|", "@9", 5, impl.RoomOld, "9+4|1(c1) 1(c2)||", "@2"},
		{"one more, and all is reached", "8+4|1(c1)|1(c2)|", "@0 @8", 5, impl.RoomNone, "", ""},
		{"one more, and an old one is not reached", "8+4|1(c1)|1(c2)|", "@8", 5, impl.RoomOld, "8+4|1(c2)||", "@0"},
		{"what is young is not reached, and that is enough", "8+4|1(c1)|1(c2)|", "- 5", 6, impl.RoomOld, "8+4|1(c1)||", "- 5"},
		{"all is swept first, and there is room among old ones", "9+6|2(- - -)|2(- c1 - - -)|", "", 7, impl.RoomOld, "9+6|||", ""},
		{"all is swept first, and there is just room", "9+6|1(c1) 1(c2)|2(- c1 - - -)|", "@2", 7, impl.RoomOld, "9+6|1(c2)||", "@0"},
		{"all is swept first, and there is a word too little", "9+6|3(1 2) 1(c2)|2(- c1 - - -)|", "@0", 7, impl.RoomNone, "", ""},
		{"all is swept first, and there is none", "9+6|2(- - -)|2(- c1 - - -)|", "@9", 7, impl.RoomNone, "", ""},
	})
}

// TestWantBehindMajor has no room but behind a sweep of all, if at all.
func TestWantBehindMajor(t *testing.T) {
	checkWantCases(t, minorWorld, []wantCase{
		{"just as much", "7+4|1(c1)|1(c2)|", "@7", 5, impl.RoomOld, "7+4|1(c2)||", "@0"},
		{"one more", "7+4|1(c1)|1(c2)|", "@7", 6, impl.RoomNone, "", ""},
		{"just as much, and a known word that nothing reached stands in", "9+4|1(@9) 1(c1)|1(c2)|1", "@2", 7, impl.RoomOld, "9+4|1(c1)||", "@0"},
		{"one more, and known words", "9+4|1(@9) 1(c1)|1(c2)|3 1", "@0", 6, impl.RoomNone, "", ""},
		{"in the order of the first sweep", "10+5|1(c9) 1(c8)|1(c1) 1(c2)|", "@12 @10", 6, impl.RoomOld, "10+5|1(c2) 1(c1)||", "@0 @2"},
		{"in that order, and one more", "9+5|1(c9) 1(c8)|1(c1) 1(c2)|", "@11 @9", 6, impl.RoomNone, "", ""},
		{"nothing is reached", "8+4|1(c1)|1(c2)|", "- 5", 7, impl.RoomOld, "8+4|||", "- 5"},
		{"nothing is reached, and no room is left ahead", "8+4|2(- - -) 3(1)|1(c2)|", "", 7, impl.RoomOld, "8+4|||", ""},
	})
}

// TestWantMoreThanYoung wants more than all words for young things, which may be none.
func TestWantMoreThanYoung(t *testing.T) {
	checkWantCases(t, minorWorld, []wantCase{
		{"more than there is for young ones", "20+2|1(@20)|3() 3()|1", "@0 @21", 3, impl.RoomOld, "20+2|1(@3) 3() 3()||", "@0 @2"},
		{"much more than there is for young ones", "20+2|1(@20)|3() 3()|1", "@0", 7, impl.RoomOld, "20+2|1(@2) 3()||", "@0"},
		{"just as much", "20+2|1(@20)|3() 3()|1", "@0", 2, impl.RoomYoung, "20+2|1(@2) 3()||", "@0"},
		{"more than there is for both", "4+2|1(c1)||", "@0", 3, impl.RoomNone, "", ""},
		{"more than there are words", "3+2|||", "", 7, impl.RoomNone, "", ""},
		{"more than each, less than both", "3+2|||", "", 4, impl.RoomNone, "", ""},
		{"as many as there are words for old ones", "3+2|||", "c1", 3, impl.RoomOld, "", ""},
		{"no words for young ones", "9+0|1(c1) 1(c2)||3", "@0 @2", 5, impl.RoomOld, "9+0|1(c1) 1(c2)||", "@0 @2"},
		{"no words for young ones, and one is wanted", "9+0|1(c1) 1(c2)||3", "", 1, impl.RoomOld, "9+0|1(c1) 1(c2)||", ""},
		{"no words for young ones, and all must be swept", "9+0|1(c1) 1(c2)||3", "@2", 6, impl.RoomOld, "9+0|1(c2)||", "@0"},
		{"no words for young ones, and all is reached", "9+0|1(c1) 1(c2)||3", "@0 @2", 6, impl.RoomNone, "", ""},
		{"no words for young ones, and no room", "2+0|1(@0)||1", "@0", 1, impl.RoomNone, "", ""},
		{"no words but one", "1+0|||", "", 1, impl.RoomOld, "", ""},
		{"no words but one, and two are wanted", "1+0|||", "", 2, impl.RoomNone, "", ""},
		{"no old things, and just as much", "7+4||1(c1) 1(@7)|", "@7", 5, impl.RoomOld, "7+4|1(c1)||", "@0"},
		{"no old things, and one more", "7+4||1(c1) 1(@7)|", "@7", 6, impl.RoomNone, "", ""},
		{"no old things, and all is reached", "7+4||1(c1) 1(@7)|", "@9", 5, impl.RoomNone, "", ""},
		{"no old things, and all is swept first", "3+4||1(c1) 1(@3)|", "@3", 4, impl.RoomYoung, "3+4|1(c1)||", "@0"},
		{"no old things, and too many are reached", "3+4||1(c1) 1(@3)|", "@5", 1, impl.RoomNone, "", ""},
	})
}

// TestWantNumbers wants each number of words that there may be, and such as there may not.
func TestWantNumbers(t *testing.T) {
	g := typesOf(t, minorWorld)
	h := heapOf(t, "20+9|1(@20)|1(c1)|1")
	roots := values(thing(0), number(7))
	for _, n := range edgeNumbers() {
		got, moved, room := impl.HeapWant(g, h, roots, n)
		if n >= 1 && n <= 7 {
			if room != impl.RoomYoung || heapText(got) != heapText(h) || !slices.Equal(moved, roots) {
				t.Errorf("%d wanted: %d, %s, %s", n, room, heapText(got), valsText(moved))
			}
		} else if room != impl.RoomNone || heapText(got) != heapText(impl.Heap{}) || len(moved) != 0 {
			t.Errorf("%d wanted: %d, %s, %s", n, room, heapText(got), valsText(moved))
		}
		checkWant(t, g, h, roots, n)
	}
}

// checkWant holds what is told of room against the document's words, and against what it was ahead.
func checkWant(t *testing.T, g [][]impl.Type, h impl.Heap, roots []impl.Val, n int) int {
	t.Helper()
	want, now, asked := plainWant(g, h, roots, n)
	got, moved, room := impl.HeapWant(g, h, roots, n)
	if room != asked || heapText(got) != heapText(want) || !slices.Equal(moved, now) {
		t.Fatalf("%v, %s from %s, %d wanted: %d, %s, %s, not %d, %s, %s", g, heapText(h), valsText(roots), n, room, heapText(got), valsText(moved), asked, heapText(want), valsText(now))
	}
	if n < 1 || n > 7 || !plainRootsOk(g, h, roots) {
		return room
	}
	if !impl.HeapOk(g, got) || !impl.RootsOk(g, got, moved) || got.Old != h.Old || len(got.Words) != len(h.Words) {
		t.Fatalf("%v, %s from %s, %d wanted: it is not ok behind it: %s, %s", g, heapText(h), valsText(roots), n, heapText(got), valsText(moved))
	}
	checkReached(t, g, h, roots, got, moved)
	live, others := plainLive(g, h, roots), len(h.Words)-h.Old
	tooMuch := live > h.Old || n > others && n > h.Old-live
	if room == impl.RoomNone && (!tooMuch || !impl.HeapSame(got, h) || !slices.Equal(moved, roots)) {
		t.Fatalf("%v, %s from %s, %d wanted: no room, but %d of %d words are reached: %s", g, heapText(h), valsText(roots), n, live, h.Old, heapText(got))
	}
	if a, vals, ok := makingOf(g, got, n); ok && room != impl.RoomNone {
		making := map[int]heapMaker{impl.RoomYoung: impl.HeapMake, impl.RoomOld: impl.HeapGrow}[room]
		if made, at, ok := making(g, got, a, vals); !ok || !impl.HeapOk(g, made) || !impl.RootsOk(g, made, append(slices.Clone(moved), thing(at))) {
			t.Fatalf("%v, %s: there was room for %d words, and %d of %s is not made: %s", g, heapText(got), n, a, valsText(vals), heapText(made))
		}
	}
	return room
}

func TestHeapGrow(t *testing.T) {
	checkMakeCases(t, typesOf(t, heapWorld), impl.HeapGrow, []makeCase{
		// Of each type.
		{"9+5|||", 0, "5 -", 0, "9+5|0(5 -)||"},
		{"9+5|||", 1, "5 - c7 c8", 0, "9+5|1(5 - c7 c8)||"},
		{"9+5|||", 2, "1 2 3", 0, "9+5|2(1 2 3)||"},
		{"9+5|||", 3, "- -", 0, "9+5|3(- -)||"},
		{"9+5|0(1 -)||", 4, "@0 c9", 3, "9+5|0(1 -) 4(@0 c9)||"},
		{"9+5|0(1 -)||", 5, "@0 -", 3, "9+5|0(1 -) 5(@0 -)||"},
		{"9+5|0(1 -)||", 6, "@0 - @0", 3, "9+5|0(1 -) 6(@0 - @0)||"},
		{"9+5|0(1 -) 5(@0 -)||", 7, "@3 -", 6, "9+5|0(1 -) 5(@0 -) 7(@3 -)||"},
		// Behind all others, which stay as they are, with their log.
		{"9+5|0(1 @0)||2", 0, "9972 @0", 3, "9+5|0(1 @0) 0(9972 @0)||2"},
		{"14+5|0(1 -) 4(@0 c5) 3(- @0)||5 2 8 7", 3, "@0 - -", 9, "14+5|0(1 -) 4(@0 c5) 3(- @0) 3(@0 - -)||5 2 8 7"},
		// With young things, whatever they are, and whatever room there is.
		{"9+5||3()|", 0, "5 -", 0, ""}, {"9+5|0(1 -)|0(1 @0)|", 2, "", 0, ""}, {"9+5|0(1 @9)|0(1 -)|2", 3, "@0", 0, ""}, {"9+5|0(1 @9)|0(1 -)|2", 3, "@9", 0, ""}, {"120+1||3()|", 2, "", 0, ""},
		// No such type.
		{"9+5|||", -1, "5 -", 0, ""}, {"9+5|||", 8, "5 -", 0, ""}, {"9+5|||", 8, "", 0, ""}, {"9+5|||", math.MinInt, "", 0, ""}, {"9+5|||", math.MaxInt, "", 0, ""},
		// Too few, too many.
		{"9+5|||", 0, "", 0, ""}, {"9+5|||", 0, "5", 0, ""}, {"9+5|||", 0, "5 - -", 0, ""}, {"9+5|||", 1, "5 - c7", 0, ""}, {"9+5|||", 1, "5 - c7 c8 c8", 0, ""},
		{"40+5|||", 0, "5 - " + strings.Repeat("- ", 16), 0, ""}, {"40+5|||", 2, strings.Repeat("1 ", 16), 0, ""},
		// One that does not fit, at each place.
		{"9+5|||", 0, "- -", 0, ""}, {"9+5|||", 0, "9973 -", 0, ""}, {"9+5|||", 0, "5 5", 0, ""}, {"9+5|||", 0, "5 c5", 0, ""}, {"9+5|||", 1, "5 - 0 c8", 0, ""}, {"9+5|||", 1, "5 - - -", 0, ""},
		{"9+5|0(1 -)||", 4, "- c9", 0, ""}, {"9+5|0(1 -)||", 4, "@0 @0", 0, ""}, {"9+5|0(1 -)||", 4, "@1 -", 0, ""}, {"9+5|0(1 -)||", 4, "@3 -", 0, ""}, {"9+5|0(1 -)||", 4, "@9 -", 0, ""}, {"9+5|0(1 -)||", 6, "@0 - -", 0, ""}, {"9+5|2(1)||", 4, "@0 -", 0, ""},
		{"9+5|||", 2, "1 2 -", 0, ""}, {"9+5|||", 2, "9973 2", 0, ""}, {"9+5|||", 3, "- - c0", 0, ""},
		// It can not name itself, as it is not there yet.
		{"9+5|||", 0, "5 @0", 0, ""}, {"9+5|0(1 -)||", 3, "@3", 0, ""},
		// A row of nothing, of six, and of seven.
		{"9+5|||", 2, "", 0, "9+5|2()||"}, {"9+5|||", 7, "", 0, "9+5|7()||"}, {"9+5|3()||", 3, "", 1, "9+5|3() 3()||"},
		{"9+5|||", 2, "1 2 3 4 5 6", 0, "9+5|2(1 2 3 4 5 6)||"}, {"9+5|||", 2, "1 2 3 4 5 6 7", 0, ""}, {"9+5|||", 3, "- - - - - - -", 0, ""},
		// Just enough room, and a word too little.
		{"3+5|||", 0, "5 -", 0, "3+5|0(5 -)||"}, {"2+5|||", 0, "5 -", 0, ""}, {"1+5|||", 2, "", 0, "1+5|2()||"}, {"1+5|2()||", 2, "", 0, ""}, {"7+5|||", 2, "1 2 3 4 5 6", 0, "7+5|2(1 2 3 4 5 6)||"}, {"6+5|||", 2, "1 2 3 4 5 6", 0, ""},
		{"6+5|2(1 2)||", 0, "5 -", 3, "6+5|2(1 2) 0(5 -)||"}, {"5+5|2(1 2)||", 0, "5 -", 0, ""}, {"4+5|2(1 2)||", 3, "", 3, "4+5|2(1 2) 3()||"}, {"3+5|2(1 2)||", 3, "", 0, ""},
		{"120+40|" + strings.Repeat("2(1 2 3 4) ", 23) + "||", 2, "1 2 3 4", 115, "120+40|" + strings.Repeat("2(1 2 3 4) ", 24) + "||"},
		{"120+40|" + strings.Repeat("2(1 2 3 4) ", 23) + "||", 2, "1 2 3 4 5", 0, ""},
		{"120+40|" + strings.Repeat("2(1 2 3 4) ", 24) + "||", 2, "", 0, ""},
		// Room for young things is not room for it, and it needs none.
		{"2+40|||", 0, "5 -", 0, ""}, {"3+0|||", 0, "5 -", 0, "3+0|0(5 -)||"},
	})
	checkMakeCases(t, groups(group(box(-1))), impl.HeapGrow, []makeCase{
		{"2+1|||", 0, "", 0, "2+1|0()||"}, {"2+1|0()||", 0, "", 1, "2+1|0() 0()||"}, {"2+1|0() 0()||", 0, "", 0, ""}, {"2+1|||", 0, "-", 0, ""}, {"2+1|||", 1, "", 0, ""},
		// A young thing that is a word that is 0 is there all the same.
		{"2+1||0()|", 0, "", 0, ""},
	})
	if got, at, ok := impl.HeapGrow(nil, impl.HeapNew(5, 5), 0, nil); ok || at != 0 || heapText(got) != heapText(impl.Heap{}) {
		t.Error("something is made where there are no types")
	}
	for _, odd := range values(impl.Val{Kind: 7, N: 1}, impl.Val{}, impl.Val{Kind: impl.ValNone, N: 3}) {
		if _, _, ok := impl.HeapGrow(typesOf(t, heapWorld), impl.HeapNew(5, 5), 0, values(number(1), odd)); ok {
			t.Errorf("%v fits", odd)
		}
	}
}

// checkGrow holds a thing that is made old against the document's words.
func checkGrow(t *testing.T, g [][]impl.Type, h impl.Heap, a int, vals []impl.Val) bool {
	t.Helper()
	want, at, fine := plainGrow(g, h, a, vals)
	got, place, ok := impl.HeapGrow(g, h, a, vals)
	if ok != fine || place != at || heapText(got) != heapText(want) {
		t.Fatalf("%v, %s: %d of %s: %v, at %d: %s", g, heapText(h), a, valsText(vals), ok, place, heapText(got))
	}
	if ok {
		checkHeapStep(t, g, h, got, place)
	}
	return ok
}

// TestMajorPromise makes, puts and sweeps at random, step by step, each heap coming of the one ahead, and asks at each step
// for a sweep of all, for room of each size, and for an old thing.
func TestMajorPromise(t *testing.T) {
	r := rand.New(rand.NewSource(9))
	swept, full, grown, refused := 0, 0, 0, 0
	var rooms [3]int
	for range 150 {
		g := someHeapTypes(t, r)
		h := impl.HeapNew(1+r.Intn([]int{12, 40, impl.OldMost}[r.Intn(3)]), r.Intn([]int{4, 12, impl.YoungMost + 1}[r.Intn(3)]))
		var roots []impl.Val
		for range 60 {
			h, roots = majorStep(t, r, g, h, roots)
			if !impl.RootsOk(g, h, roots) {
				t.Fatalf("%v: %s are no roots of %s", g, valsText(roots), heapText(h))
			}
			if checkMajor(t, g, h, roots) {
				swept++
			} else {
				full++
			}
			for n := 1; n <= 7; n++ {
				rooms[checkWant(t, g, h, roots, n)]++
			}
			a, vals := someMaking(r, g, h)
			if checkGrow(t, g, h, a, vals) {
				grown++
			} else {
				refused++
			}
		}
	}
	// The steps are such that it is worth it.
	if swept < 3000 || full < 100 || grown < 300 || refused < 300 || slices.Min(rooms[:]) < 1000 {
		t.Error(swept, full, grown, refused, rooms)
	}
}

// TestMajorKnots sweeps heaps whose things name one another at random, and such with a part turned.
func TestMajorKnots(t *testing.T) {
	r := rand.New(rand.NewSource(99))
	g := typesOf(t, minorWorld)
	swept, full, lost, wrong := 0, 0, 0, 0
	for range 1500 {
		h := knottedHeap(r, g)
		roots := someRoots(r, g, h)
		if checkMajor(t, g, h, roots) {
			swept++
			lost += h.OldAt + h.YoungAt - impl.HeapLive(g, h, roots)
		} else {
			full++
		}
		for n := range 9 {
			checkWant(t, g, h, roots, n)
		}
		if r.Intn(2) == 0 {
			h = marredHeap(r, h)
		} else {
			roots = marredRoots(r, h, roots)
		}
		if !plainRootsOk(g, h, roots) {
			wrong++
		}
		checkMajor(t, g, h, roots)
		checkWant(t, g, h, roots, r.Intn(9))
		checkGrow(t, g, h, r.Intn(5), many(r.Intn(4), number(1)))
	}
	if swept < 1000 || full < 30 || lost < 5000 || wrong < 300 {
		t.Error(swept, full, lost, wrong)
	}
}

// scribbleVals writes over lists of values, with the room behind them.
func scribbleVals(lists ...[]impl.Val) {
	for _, list := range lists {
		whole := list[:cap(list)]
		for at := range whole {
			whole[at] = impl.Val{Kind: -66}
		}
	}
}

// TestMajorTurnsNothing hands in what has room behind each list, and writes over all that is answered.
func TestMajorTurnsNothing(t *testing.T) {
	r := rand.New(rand.NewSource(999))
	answers := 0
	var rooms [3]int
	for range 600 {
		g := copyGroups(typesOf(t, minorWorld))
		h := knottedHeap(r, g)
		if r.Intn(2) == 0 {
			h = aged(r, g, h)
		}
		h = copyHeap(h)
		junk := impl.Val{Kind: 66, N: 66}
		a, made := someMaking(r, g, h)
		roots, vals, n := withRoom(someRoots(r, g, h), junk), withRoom(made, junk), 1+r.Intn(7)
		wholeTypes, whole, wholeRoots, wholeVals := spread(g), spreadHeap(h), slices.Clone(roots[:cap(roots)]), slices.Clone(vals[:cap(vals)])
		ask := func() ([]impl.Heap, [][]impl.Val, []int, []int) {
			swept, moved, _ := impl.HeapMajor(g, h, roots)
			roomy, also, room := impl.HeapWant(g, h, roots, n)
			grown, at, _ := impl.HeapGrow(g, h, a, vals)
			return []impl.Heap{swept, roomy, grown}, [][]impl.Val{moved, also}, impl.HeapReach(g, h, roots), []int{impl.HeapLive(g, h, roots), room, at}
		}
		heaps, lists, reach, numbers := ask()
		otherHeaps, otherLists, otherReach, _ := ask()
		text := fmt.Sprint(heaps, lists, reach, numbers)
		for _, one := range otherHeaps {
			answers += len(one.Words)
			if scribbleHeap(one) {
				t.Fatalf("two lists are one: %s", text)
			}
		}
		scribbleVals(otherLists...)
		scribbleHeap(impl.Heap{Words: otherReach})
		rooms[numbers[1]]++
		if got := fmt.Sprint(heaps, lists, reach, numbers); got != text {
			t.Fatalf("two answers are one: %s, %s", text, got)
		}
		if !reflect.DeepEqual(spread(g), wholeTypes) || !reflect.DeepEqual(spreadHeap(h), whole) || !slices.Equal(roots[:cap(roots)], wholeRoots) || !slices.Equal(vals[:cap(vals)], wholeVals) {
			t.Fatalf("what was handed in is turned: %s", text)
		}
		if got := fmt.Sprint(ask()); got != text {
			t.Fatalf("%s, and then %s", text, got)
		}
	}
	if answers < 20000 || slices.Min(rooms[:]) < 10 {
		t.Error(answers, rooms)
	}
}
