package tests

import (
	"fmt"
	"math"
	"math/rand"
	"reflect"
	"slices"
	"strings"
	"testing"

	"loop.example/lairage/impl"
)

func TestHeapConstants(t *testing.T) {
	if bounds := []int{impl.OldMost, impl.YoungMost, impl.HeadBy}; !slices.Equal(bounds, []int{120, 40, 16}) {
		t.Error(bounds)
	}
}

func TestWordOf(t *testing.T) {
	for v, want := range map[impl.Val]int{
		number(0): 0, number(1): 1, number(9972): 9972, number(9973): 0, number(-1): 0, number(math.MinInt): 0, number(math.MaxInt): 0,
		none(): 0, {Kind: impl.ValNone, N: 1}: 0, {Kind: impl.ValNone, N: -7}: 0,
		chip(0): 1, chip(1): 3, chip(4): 9, chip(159): 319, chip(160): 321, chip(9972): 19945, chip(9973): 0, chip(-1): 0, chip(math.MinInt): 0, chip(math.MaxInt): 0,
		thing(0): 2, thing(1): 4, thing(119): 240, thing(120): 242, thing(159): 320, thing(160): 0, thing(-1): 0, thing(math.MinInt): 0, thing(math.MaxInt): 0,
		{}: 0, {Kind: 0, N: 5}: 0, {Kind: 5, N: 5}: 0, {Kind: -1, N: 5}: 0, {Kind: math.MinInt, N: 1}: 0, {Kind: math.MaxInt, N: 1}: 0,
	} {
		if got := impl.WordOf(v); got != want {
			t.Errorf("the word of %v is %d, not %d", v, got, want)
		}
	}
}

func TestWordVal(t *testing.T) {
	for _, c := range []struct {
		word int
		num  string
		ref  string
		sure string
	}{
		{0, "0", "-", ""}, {1, "1", "c0", "c0"}, {2, "2", "@0", "@0"}, {3, "3", "c1", "c1"}, {4, "4", "@1", "@1"},
		{319, "319", "c159", "c159"}, {320, "320", "@159", "@159"}, {321, "321", "c160", "c160"}, {322, "322", "", ""}, {323, "323", "c161", "c161"}, {324, "324", "", ""},
		{9972, "9972", "", ""}, {9973, "", "c4986", "c4986"}, {9974, "", "", ""},
		{19943, "", "c9971", "c9971"}, {19944, "", "", ""}, {19945, "", "c9972", "c9972"}, {19946, "", "", ""}, {19947, "", "", ""},
		{-1, "", "", ""}, {-2, "", "", ""}, {-3, "", "", ""}, {math.MinInt, "", "", ""}, {math.MinInt + 1, "", "", ""}, {math.MaxInt, "", "", ""}, {math.MaxInt - 1, "", "", ""},
	} {
		for kind, want := range map[int]string{impl.FieldNum: c.num, impl.FieldRef: c.ref, impl.FieldSure: c.sure, 0: "", 4: "", -1: "", math.MinInt: "", math.MaxInt: ""} {
			// What a reference is to, and whether it may be turned, makes no difference.
			for _, f := range []impl.Field{{Kind: kind}, {Kind: kind, Of: impl.OfChip}, {Kind: kind, Of: impl.OfAny, Mut: true}, {Kind: kind, Of: 99}, {Kind: kind, Of: math.MinInt}} {
				v, ok := impl.WordVal(f, c.word)
				if ok != (want != "") || ok && valText(v) != want || !ok && v != (impl.Val{}) {
					t.Errorf("%d of %v is %s, %v, not %q", c.word, f, valText(v), ok, want)
				}
			}
		}
	}
}

func TestWordsOfAll(t *testing.T) {
	for kind, vals := range knownWords {
		for w, v := range vals {
			if got := impl.WordOf(v); got != w {
				t.Fatalf("the word of %v is %d, not %d", v, got, w)
			}
		}
		for w := -400; w < 40000; w++ {
			want, there := vals[w]
			if got, ok := impl.WordVal(impl.Field{Kind: kind}, w); got != want || ok != there {
				t.Fatalf("%d of %d is %v, %v, not %v", w, kind, got, ok, want)
			}
		}
	}
	// Of each sort the words tell all values apart: numbers, and references with or without none.
	if len(knownWords[1]) != 9973 || len(knownWords[2]) != 9973+160+1 || len(knownWords[3]) != 9973+160 {
		t.Error("words are not told apart")
	}
}

func TestHeapNew(t *testing.T) {
	for _, old := range []int{math.MinInt, -1, 0, 1, 2, 119, 120, 121, math.MaxInt} {
		for _, young := range []int{math.MinInt, -1, 0, 1, 39, 40, 41, math.MaxInt} {
			var want impl.Heap
			fine := old >= 1 && old <= 120 && young >= 0 && young <= 40
			if fine {
				want = impl.Heap{Words: make([]int, old+young), Old: old}
			}
			got := impl.HeapNew(old, young)
			if heapText(got) != heapText(want) {
				t.Errorf("%d and %d: %s", old, young, heapText(got))
			}
			for name, g := range map[string][][]impl.Type{"none": nil, "world": typesOf(t, heapWorld), "dots": groups(group(box(-1)))} {
				if ok := impl.HeapOk(g, got); ok != fine {
					t.Errorf("%d and %d with %s: %v", old, young, name, ok)
				}
			}
		}
	}
}

// fullHeap is a heap of heapWorld with things of both ages that name one another, and room behind both.
const fullHeap = "20+12|0(7 @20) 1(1 - c5 c6) 3(@0 @3)|0(8 @0) 3() 2(1 2)|2"

// rightHeaps is heaps of heapWorld that are ok.
func rightHeaps() []string {
	return []string{
		"1+0|||", "1+40|||", "120+0|||", "120+40|||", fullHeap,
		"3+0|0(5 -)||", "3+3|0(5 -)|0(6 @0)|", "3+3|0(5 @0)|0(6 @3)|", "4+4|0(5 @4)|0(6 @0)|2",
		"7+7|2(1 2 3 4 5 6)|3(- - - - - -)|", "1+1|2()|3()|", "3+2|2() 3() 7()|3() 2()|",
		"1+2||2()|", "1+3||0(0 -)|", "1+3||0(9972 @1)|",
		"2+9||0(1 -) 3(@2 - @2)|", "12+20|0(1 -) 1(2 @0 @3 c9972) 4(@3 c0)|5(@0 -) 6(@3 - @12) 7(@8 @12 @15 -)|",
		"120+40|" + strings.TrimSpace(strings.Repeat("0(1 @0) ", 40)) + "|" + strings.TrimSpace(strings.Repeat("0(1 @120) ", 13)) + " 3()|",
	}
}

// wrongHeaps is heaps of heapWorld that are not ok, each by one thing alone.
func wrongHeaps() []string {
	return []string{
		// Heads: of a type that there is not, or with a value too many or too few.
		"9+0|8(1 -)||", "1+9||8()|", "9+0|9()||", "9+0|0(5)||", "9+0|0()||", "9+0|0(5 - -)||", "9+9||1(1 - c5)|", "9+9||1(1 - c5 c6 c6)|", "9+9||5(@9)|",
		"9+9||2(1 2 3 4 5 6 7)|", "9+9|3(- - - - - - -)||", "20+9|2(1 1 1 1 1 1 1 1 1 1 1 1 1 1 1)||",
		// Values that are of another sort.
		"9+9||0(9973 -)|", "9+9||0(-1 -)|", "9+9||2(9973)|", "9+9||2(1 -1)|",
		"9+9||0(1 c0)|", "9+9||0(1 c9972)|", "9+9||3(c1)|", "9+9||0(1 -) 5(@9 @9)|", "9+9||0(1 -) 5(@9 c9973)|", "9+9||0(1 -) 5(- c5)|", "9+9||0(1 -) 5(c5 -)|",
		"9+9||1(1 - - -)|", "9+9||1(1 - - @9)|", "9+9||1(1 - c9973 c0)|", "9+9||1(1 - - c9973)|", "9+9||0(1 -) 6(@9 - -)|",
		"9+9||0(1 -) 6(@9 -)|", "9+9||0(1 @160)|", "9+9||0(1 @161)|",
	}
}

// heapNames is the first things of heaps, of types 0, 1, 5 and 6; they begin at 1, 4, 9 and 12.
const heapNames = "1+20||0(1 -) 1(2 - - c0) 5(@1 -) 6(@1 - c0)"

// namedHeaps is heaps in which one value names something, and whether they are ok.
func namedHeaps() map[string]bool {
	all := map[string]bool{}
	add := func(before string, after string, yes string, no string) {
		for _, v := range strings.Fields(yes) {
			all[before+v+after] = true
		}
		for _, v := range strings.Fields(no) {
			all[before+v+after] = false
		}
	}
	// Places: 0 is free, 16 is behind these things, 20 the last word, 21 none.
	nowhere := "@0 @2 @3 @5 @6 @7 @8 @10 @11 @13 @14 @15 @17 @20 @21 @22 @119 @120 @159 @160 "
	add(heapNames+" 3(", ")|", "- @1 @4", nowhere+"@9 @12 @16 c0 c1 c9 c9973")
	add(heapNames+" 7(- ", ")|", "- @9 @12", nowhere+"@1 @4 @16 c0 c4")
	add("1+20||0(1 -) 1(2 - - c0) 5(", " -) 6(@1 - c0)|", "@1 @4", nowhere+"- @9 @12 @16 c0 c1")
	add("1+20||0(1 -) 1(2 - - c0) 5(@1 ", ") 6(@1 - c0)|", "- c0 c1 c159 c160 c9972", nowhere+"@1 @4 @9 @12 @16 c9973")
	add("1+20||0(1 -) 1(2 - - c0) 5(@1 -) 6(@1 - ", ")|", "@1 @4 @9 @12 c0 c1 c159 c160 c9972", nowhere+"- @16 c9973")
	add("1+20||0(1 -) 1(2 - ", " c0) 5(@1 -) 6(@1 - c0)|", "- @1 @4 @9 @12 c0 c9972", nowhere+"@16 c9973")
	add("1+20||0(1 -) 1(2 - - ", ") 5(@1 -) 6(@1 - c0)|", "c0 c1 c9972", nowhere+"- @1 @4 @9 @12 @16 c9973")
	add("1+20||0(1 -) 1(", " - - c0) 5(@1 -) 6(@1 - c0)|", "0 1 9972", "9973 -1 19945")
	// One past where old things end, and where young ones end, with words there that are 0.
	add("9+9|0(1 -) 3(", ")|0(1 -)|4", "- @0 @9", "@1 @2 @3 @4 @5 @6 @8 @10 @11 @12 @13 @17 @18")
	return all
}

// logHeaps is logs of fullHeap, and whether it is ok with them.
func logHeaps() map[string]bool {
	all := map[string]bool{}
	for _, log := range []string{"2", "2 5", "5 2", "2 6", "7 2", "2 9", "10 2", "2 5 6 7 9 10", "10 9 7 6 5 2"} {
		all[log] = true
	}
	for _, log := range []string{"", "5", "5 6 7 9 10", "2 2", "2 5 2", "5 2 5", "2 0", "0 2", "2 3", "2 8", "2 1", "2 4", "2 11", "2 12", "2 19", "2 20", "2 21", "2 22", "2 23", "2 25", "2 26", "2 27", "2 31", "2 32", "2 33",
		"66", "130", "194", "2 66", "2 69", "2 130", "2 159", "2 160", "2 192", "2 -1", "2 -62", "-62", "2 -2", "2 9223372036854775807", "2 -9223372036854775808"} {
		all[log] = false
	}
	return all
}

// brokenHeaps is all these heaps of heapWorld that are not ok, and those that no text tells.
func brokenHeaps(t *testing.T) map[string]impl.Heap {
	full, plain := heapOf(t, fullHeap), heapOf(t, "9+9|0(5 -)|0(6 -)|")
	all := map[string]impl.Heap{
		"nothing":  {},
		"no words": {Old: 5},
		// All that is missing of a thing that is cut off is 0.
		"cut off at OldAt":     turnedHeap(plain, func(h *impl.Heap) { h.OldAt = 2 }),
		"a head at OldAt":      turnedHeap(plain, func(h *impl.Heap) { h.Words[1], h.OldAt = 0, 1 }),
		"cut off at YoungAt":   turnedHeap(plain, func(h *impl.Heap) { h.YoungAt = 2 }),
		"one more at OldAt":    turnedHeap(plain, func(h *impl.Heap) { h.OldAt = 4 }),
		"one more at YoungAt":  turnedHeap(plain, func(h *impl.Heap) { h.YoungAt = 4 }),
		"over the end of old":  {Words: []int{2, 5, 0, 0}, Old: 2, OldAt: 2},
		"into the young":       {Words: []int{34, 5, 48}, Old: 2, OldAt: 2, YoungAt: 1},
		"into too few young":   {Words: []int{34, 5, 48, 128}, Old: 2, OldAt: 2, YoungAt: 2},
		"over the end of all":  {Words: []int{0, 2, 5}, Old: 1, YoungAt: 2},
		"only a head":          {Words: []int{0, 38}, Old: 1, YoungAt: 1},
		"a head ends old":      {Words: []int{38, 0, 0, 0}, Old: 1, OldAt: 1},
		"eight more in a head": turnedHeap(plain, func(h *impl.Heap) { h.Words[0] = 10 }),
		"a thing behind OldAt": turnedHeap(plain, func(h *impl.Heap) { h.OldAt = 0 }),
		"young behind YoungAt": turnedHeap(plain, func(h *impl.Heap) { h.YoungAt = 0 }),
	}
	rows := many(39, impl.Thing{Type: 3})
	for vals := 1; vals <= 6; vals++ {
		all[fmt.Sprint("over the last word with ", vals)] = turnedHeap(impl.HeapNew(120, 40), func(h *impl.Heap) {
			h.YoungAt = lay(h.Words[120:], rows) + 1
			h.Words[159] = 48 + vals
		})
	}
	for _, head := range []int{-1, -2, -14, -16, math.MinInt, math.MinInt + 2, math.MaxInt, 128, 130, 1 << 40} {
		all[fmt.Sprint("old head ", head)] = turnedHeap(plain, func(h *impl.Heap) { h.Words[0] = head })
		all[fmt.Sprint("young head ", head)] = turnedHeap(plain, func(h *impl.Heap) { h.Words[9] = head })
		all[fmt.Sprint("lone head ", head)] = turnedHeap(plain, func(h *impl.Heap) { h.Words[12], h.YoungAt = head, 4 })
	}
	for _, at := range []int{11, 12, 15, 18, 19, 27, 28, 30, 31} {
		for _, w := range []int{1, -1, 48, math.MinInt} {
			all[fmt.Sprint(w, " behind things at ", at)] = turnedHeap(full, func(h *impl.Heap) { h.Words[at] = w })
		}
	}
	for _, w := range []int{-1, -2, 322, 324, 19946, 19947, math.MinInt, math.MaxInt, math.MaxInt - 1} {
		for _, at := range []int{2, 5, 6, 7, 9, 10, 22} {
			all[fmt.Sprint(w, " as a reference at ", at)] = turnedHeap(full, func(h *impl.Heap) { h.Words[at] = w })
		}
	}
	for _, w := range []int{-1, 9973, 9974, math.MinInt, math.MaxInt} {
		for _, at := range []int{1, 4, 21, 25, 26} {
			all[fmt.Sprint(w, " as a number at ", at)] = turnedHeap(full, func(h *impl.Heap) { h.Words[at] = w })
		}
	}
	for text, ok := range namedHeaps() {
		if !ok {
			all[text] = heapOf(t, text)
		}
	}
	for log, ok := range logHeaps() {
		if !ok {
			all["log "+log] = turnedHeap(full, func(h *impl.Heap) { h.Log = numbersOf(t, log) })
		}
	}
	for _, text := range wrongHeaps() {
		all[text] = heapOf(t, text)
	}
	return all
}

func TestHeapOk(t *testing.T) {
	g := typesOf(t, heapWorld)
	right := map[string]impl.Heap{}
	for _, text := range rightHeaps() {
		right[text] = heapOf(t, text)
	}
	for text, ok := range namedHeaps() {
		if ok {
			right[text] = heapOf(t, text)
		}
	}
	for log, ok := range logHeaps() {
		if ok {
			right["log "+log] = turnedHeap(heapOf(t, fullHeap), func(h *impl.Heap) { h.Log = numbersOf(t, log) })
		}
	}
	for name, h := range right {
		if !impl.HeapOk(g, h) || !plainHeapOk(g, h) {
			t.Errorf("%s is not ok: %s", name, heapText(h))
		}
	}
	for name, h := range brokenHeaps(t) {
		if impl.HeapOk(g, h) || plainHeapOk(g, h) {
			t.Errorf("%s is ok: %s", name, heapText(h))
		}
	}
}

// TestHeapSizes has a type whose things are a word that is 0, so that nothing but sizes can be wrong.
func TestHeapSizes(t *testing.T) {
	edges := []int{math.MinInt, -2, -1, 0, 1, 2, 5, 39, 40, 41, 119, 120, 121, 122, 160, math.MaxInt}
	for _, g := range [][][]impl.Type{groups(group(box(-1))), groups(group(row(-1, num())))} {
		for _, all := range []int{0, 1, 2, 5, 40, 41, 42, 119, 120, 121, 159, 160, 161, 162, 300} {
			for _, old := range edges {
				for _, oldAt := range append([]int{old - 1, old, old + 1}, edges...) {
					for _, youngAt := range append([]int{all - old - 1, all - old, all - old + 1}, edges...) {
						h := impl.Heap{Words: make([]int, all), Old: old, OldAt: oldAt, YoungAt: youngAt}
						want := old >= 1 && old <= 120 && all >= old && all <= old+40 && oldAt >= 0 && oldAt <= old && youngAt >= 0 && youngAt <= all-old
						if got := impl.HeapOk(g, h); got != want {
							t.Fatalf("%d words, %d of them old, %d and %d of things: %v", all, old, oldAt, youngAt, got)
						}
						if got := len(impl.HeapThings(g, h)); want && got != oldAt+youngAt || !want && got != 0 {
							t.Fatalf("%d words, %d of them old, %d and %d of things: %d", all, old, oldAt, youngAt, got)
						}
					}
				}
			}
		}
	}
}

// fullRows is a heap of old rows that leave no room, and of young ones; each value may name any of them.
func fullRows() ([][]impl.Type, impl.Heap) {
	h := impl.Heap{Words: make([]int, 160), Old: 120}
	var rows []impl.Thing
	for range 17 {
		rows = append(rows, impl.Thing{Vals: many(6, none())})
	}
	h.OldAt = lay(h.Words, append(rows, impl.Thing{}))
	h.YoungAt = lay(h.Words[120:], rows[:5])
	return groups(group(row(-1, mut(ref(impl.OfAny))))), h
}

// TestHeapLogPlaces asks for each place of the greatest heap whether it may be known, must be, and comes to be.
func TestHeapLogPlaces(t *testing.T) {
	g, h := fullRows()
	var refs []int
	for place := -70; place < 300; place++ {
		isRef := place >= 0 && place < 119 && place%7 != 0
		logged := turnedHeap(h, func(h *impl.Heap) { h.Log = append(h.Log, place) })
		if got := impl.HeapOk(g, logged); got != isRef {
			t.Errorf("log of %d: %v", place, got)
		}
		if !isRef {
			continue
		}
		refs = append(refs, place)
		named := turnedHeap(h, func(h *impl.Heap) { h.Words[place] = 2*127 + 2 })
		if impl.HeapOk(g, named) {
			t.Errorf("%d names a young thing, and is not known", place)
		}
		named.Log = []int{place}
		put, ok := impl.HeapPut(g, h, place/7*7, place%7-1, thing(127))
		if !ok || heapText(put) != heapText(named) || !impl.HeapOk(g, named) {
			t.Errorf("put at %d: %s", place, heapText(put))
		}
	}
	all := turnedHeap(h, func(h *impl.Heap) { h.Log = refs })
	if !impl.HeapOk(g, all) || len(refs) != 102 {
		t.Error("all are known", len(refs))
	}
	slices.Reverse(refs)
	if !impl.HeapOk(g, all) {
		t.Error("all are known, the other way")
	}
	all.Log = append(all.Log, 1)
	if impl.HeapOk(g, all) {
		t.Error("one is known twice")
	}
}

// TestHeapHeads goes through heads of one type, with as many words behind each as it could ask for.
func TestHeapHeads(t *testing.T) {
	for _, c := range []struct {
		typ  impl.Type
		most int
	}{{row(-1, num()), 6}, {row(-1, ref(0)), 6}, {box(-1), 0}} {
		g := groups(group(c.typ))
		for _, head := range []int{math.MinInt, -33, -32, -31, -17, -16, -15, -10, -6, -1, 0, 1, 5, 6, 7, 8, 14, 15, 16, 17, 22, 32, math.MaxInt} {
			for at := 1; at <= 20; at++ {
				// A word that is 0 is a whole thing too, so there may be more behind the first one.
				want := head >= 0 && head <= c.most && at >= 1+head
				old := impl.Heap{Words: make([]int, 40), Old: 20, OldAt: at}
				old.Words[0] = head
				young := impl.Heap{Words: make([]int, 40), Old: 20, YoungAt: at}
				young.Words[20] = head
				if impl.HeapOk(g, old) != want || impl.HeapOk(g, young) != want {
					t.Errorf("a head of %d, and %d words, of %v: not %v", head, at, c.typ, want)
				}
			}
		}
	}
}

func TestHeapOfWrongTypes(t *testing.T) {
	for name, g := range badFamilies() {
		for _, text := range []string{"5+5|||", "5+5|0()||", "5+5||0()|", "5+5|0(1)||", "5+5|0(-)||", "5+5|0()|0()|"} {
			h := heapOf(t, text)
			if impl.HeapOk(g, h) {
				t.Errorf("%s: %s is ok", name, text)
			}
			checkHeapNothing(t, name, g, h)
		}
	}
}

// checkHeapNothing asks for what is told of a heap that is not ok.
func checkHeapNothing(t *testing.T, name string, g [][]impl.Type, h impl.Heap) {
	t.Helper()
	if got := impl.HeapThings(g, h); len(got) != 0 {
		t.Errorf("%s: things at %v", name, got)
	}
	for _, a := range []int{-1, 0, 1, 3, h.Old, h.Old + 1, h.OldAt, h.Old + h.YoungAt, len(h.Words)} {
		if got, ok := impl.HeapGet(g, h, a); ok || got.Type != 0 || len(got.Vals) != 0 {
			t.Errorf("%s: at %d: %v", name, a, got)
		}
		for _, v := range values(number(0), none(), chip(0), thing(0), thing(a)) {
			for i := range 3 {
				if got, ok := impl.HeapPut(g, h, a, i, v); ok || heapText(got) != heapText(impl.Heap{}) {
					t.Errorf("%s: put at %d: %s", name, a, heapText(got))
				}
			}
			for _, f := range sorts(num(), ref(impl.OfAny), sure(impl.OfAny), sure(impl.OfChip), ref(0)) {
				if impl.HeapFits(g, h, v, f) {
					t.Errorf("%s: %v is of %v", name, v, f)
				}
			}
		}
	}
	for a := range 4 {
		for _, vals := range [][]impl.Val{nil, values(number(1)), values(none()), values(number(1), none())} {
			if got, at, ok := impl.HeapMake(g, h, a, vals); ok || at != 0 || heapText(got) != heapText(impl.Heap{}) {
				t.Errorf("%s: made at %d: %s", name, at, heapText(got))
			}
		}
	}
}

func TestHeapThatIsNotOk(t *testing.T) {
	g := typesOf(t, heapWorld)
	for name, h := range brokenHeaps(t) {
		checkHeapNothing(t, name, g, h)
	}
}

func TestHeapSame(t *testing.T) {
	full := heapOf(t, fullHeap)
	// What is told of any two holds of what is not ok too.
	odd := impl.Heap{Words: []int{-5, 7}, Old: -3, OldAt: 99, YoungAt: -1, Log: []int{4, 4}}
	for _, h := range []impl.Heap{full, odd, {}} {
		turns := map[string]func(h *impl.Heap){
			"old":         func(h *impl.Heap) { h.Old++ },
			"old at":      func(h *impl.Heap) { h.OldAt-- },
			"young at":    func(h *impl.Heap) { h.YoungAt++ },
			"more words":  func(h *impl.Heap) { h.Words = append(h.Words, 0) },
			"longer log":  func(h *impl.Heap) { h.Log = append(h.Log, 0) },
			"swapped":     func(h *impl.Heap) { h.OldAt, h.YoungAt = h.OldAt+1, h.YoungAt-1 },
			"other lists": func(h *impl.Heap) { h.Words, h.Log = append(h.Log, 1), h.Words },
		}
		for at := range h.Words {
			turns[fmt.Sprint("word ", at)] = func(h *impl.Heap) { h.Words[at]++ }
			turns["fewer words"] = func(h *impl.Heap) { h.Words = h.Words[:at] }
		}
		for at := range h.Log {
			turns[fmt.Sprint("log ", at)] = func(h *impl.Heap) { h.Log[at]-- }
			turns["shorter log"] = func(h *impl.Heap) { h.Log = h.Log[:at] }
		}
		if !impl.HeapSame(h, h) || !impl.HeapSame(h, copyHeap(h)) || !impl.HeapSame(copyHeap(h), h) {
			t.Errorf("not the same as itself: %s", heapText(h))
		}
		for name, turn := range turns {
			other := turnedHeap(h, turn)
			if impl.HeapSame(h, other) || impl.HeapSame(other, h) {
				t.Errorf("%s makes no difference to %s", name, heapText(h))
			}
			if !impl.HeapSame(other, copyHeap(other)) {
				t.Errorf("%s: not the same as itself", name)
			}
		}
	}
	if empty := (impl.Heap{Words: []int{}, Log: []int{}}); !impl.HeapSame(empty, impl.Heap{}) || !impl.HeapSame(impl.Heap{}, empty) {
		t.Error("an empty list is not the nil list")
	}
	two := turnedHeap(full, func(h *impl.Heap) { h.Log = []int{2, 5} })
	if impl.HeapSame(two, turnedHeap(two, func(h *impl.Heap) { slices.Reverse(h.Log) })) {
		t.Error("the order of a log makes no difference")
	}
}

func TestHeapThingsAndGet(t *testing.T) {
	g := typesOf(t, heapWorld)
	for text, want := range map[string]map[int]string{
		"1+0|||": {}, "120+40|||": {},
		fullHeap:                                  {0: "0(7 @20)", 3: "1(1 - c5 c6)", 8: "3(@0 @3)", 20: "0(8 @0)", 23: "3()", 24: "2(1 2)"},
		"3+2|2() 3() 7()|3() 2()|":                {0: "2()", 1: "3()", 2: "7()", 3: "3()", 4: "2()"},
		"7+7|2(1 2 3 4 5 9972)|3(- - - - - -)|":   {0: "2(1 2 3 4 5 9972)", 7: "3(- - - - - -)"},
		"1+12||0(1 -) 5(@1 c0) 6(@1 c9972 c160)|": {1: "0(1 -)", 4: "5(@1 c0)", 7: "6(@1 c9972 c160)"},
	} {
		h := heapOf(t, text)
		var places []int
		for a := -5; a < 170; a++ {
			thing, there := want[a]
			if there {
				places = append(places, a)
			}
			got, ok := impl.HeapGet(g, h, a)
			if ok != there || there && fmt.Sprint(got.Type)+valsText(got.Vals) != thing || !there && (got.Type != 0 || len(got.Vals) != 0) {
				t.Errorf("%s: at %d: %v, %v", text, a, got, ok)
			}
		}
		for _, a := range []int{math.MinInt, math.MaxInt} {
			if got, ok := impl.HeapGet(g, h, a); ok || got.Type != 0 || len(got.Vals) != 0 {
				t.Errorf("%s: at %d: %v, %v", text, a, got, ok)
			}
		}
		if got := impl.HeapThings(g, h); !slices.Equal(got, places) {
			t.Errorf("%s: things at %v, not %v", text, got, places)
		}
	}
}

func TestHeapFitsByHand(t *testing.T) {
	g := typesOf(t, heapWorld)
	// Things of types 0, 1, 5, 6 and 7 begin at 0, 3, 8, 30 and 34.
	h := heapOf(t, "30+12|0(1 -) 1(2 - - c0) 5(@0 -)|6(@3 - c0) 7(@8)|")
	for _, c := range []struct {
		val string
		yes string
		no  string
	}{
		{"0", "n n!", "rany sany rchip schip r0 s0"},
		{"9972", "n", "rany"}, {"9973", "", "n n! rany"}, {"-1", "", "n rany"},
		{"-", "rany rchip r0 r7 r0!", "n sany schip s0"},
		{"c0", "rchip schip rany sany", "n r0 s7"}, {"c1", "rchip schip rany sany", "n r0 s7"}, {"c9972", "schip rany!", "r0 n"}, {"c9973", "", "rchip schip rany sany n"}, {"c-1", "", "rchip schip rany sany n"},
		{"@0", "r0 s0 rany sany s0!", "n r1 s1 rchip schip r4"},
		{"@3", "r0 s0 r1 s1 rany sany", "n r2 s4 rchip"},
		{"@8", "r4 s4 r5 s5 rany", "n r0 r6 s6 rchip"},
		{"@30", "r4 s5 r6 s6 sany", "n r0 r7 schip"},
		{"@34", "r7 s7 rany", "r2 r3 r4 n"},
		{"@1", "", "n rany sany r0 s1 rchip"}, {"@2", "", "rany r0"}, {"@11", "", "rany"}, {"@29", "", "rany"}, {"@31", "", "rany"}, {"@36", "", "rany sany"}, {"@41", "", "rany"}, {"@42", "", "rany"},
		{"@-1", "", "rany sany r0"}, {"@159", "", "rany"}, {"@160", "", "rany"},
	} {
		v := valOf(t, c.val)
		for _, f := range sortsOf(t, c.yes) {
			if !impl.HeapFits(g, h, v, f) {
				t.Errorf("%s is not of %v", c.val, f)
			}
		}
		for _, f := range sortsOf(t, c.no) {
			if impl.HeapFits(g, h, v, f) {
				t.Errorf("%s is of %v", c.val, f)
			}
		}
	}
}

func TestHeapFits(t *testing.T) {
	r := rand.New(rand.NewSource(7))
	for range 60 {
		g := someHeapTypes(t, r)
		h := someHeap(r, g)
		n := impl.KinCount(g)
		// Some of them are not FieldOk.
		fields := append(allSorts(n), mut(num()), mut(ref(impl.OfAny)), mut(sure(impl.OfChip)), ref(n), sure(n), ref(-3), sure(math.MinInt), ref(math.MaxInt),
			impl.Field{}, impl.Field{Kind: 1, Of: 1}, impl.Field{Kind: 1, Of: -1}, impl.Field{Kind: 4}, impl.Field{Kind: -1})
		vals := edgeVals()
		for at := range len(h.Words) + 2 {
			vals = append(vals, thing(at))
		}
		for range 400 {
			v, f := vals[r.Intn(len(vals))], fields[r.Intn(len(fields))]
			if got, want := impl.HeapFits(g, h, v, f), plainHeapFits(g, h, v, f); got != want {
				t.Fatalf("%v, %s: %v of %v: %v", g, heapText(h), v, f, got)
			}
		}
	}
}

// fromAndTo is the heap ahead of a step, and the one that is asked for behind it: nothing, if there is no text of it.
func fromAndTo(t *testing.T, g [][]impl.Type, from string, to string) (impl.Heap, impl.Heap) {
	t.Helper()
	h, want := heapOf(t, from), impl.Heap{}
	if to != "" {
		want = heapOf(t, to)
	}
	if !plainHeapOk(g, h) || to != "" && !plainHeapOk(g, want) {
		t.Fatalf("%s or %s is not ok", from, to)
	}
	return h, want
}

// makeCase is a thing that is made: where it begins and the heap behind it, or nothing.
type makeCase struct {
	from string
	typ  int
	vals string
	at   int
	to   string
}

// heapMaker makes a thing: HeapMake, or one that does likewise.
type heapMaker func(g [][]impl.Type, h impl.Heap, a int, vals []impl.Val) (impl.Heap, int, bool)

func checkMakeCases(t *testing.T, g [][]impl.Type, making heapMaker, cases []makeCase) {
	t.Helper()
	for _, c := range cases {
		h, want := fromAndTo(t, g, c.from, c.to)
		got, at, ok := making(g, h, c.typ, valsOf(t, c.vals))
		if ok != (c.to != "") || at != c.at || heapText(got) != heapText(want) {
			t.Errorf("%s: %d of (%s) is at %d: %v, %s", c.from, c.typ, c.vals, at, ok, heapText(got))
		}
		if ok && !impl.HeapOk(g, got) {
			t.Errorf("%s: with %d of (%s) it is not ok", c.from, c.typ, c.vals)
		}
	}
}

func TestHeapMake(t *testing.T) {
	checkMakeCases(t, typesOf(t, heapWorld), impl.HeapMake, []makeCase{
		// Of each type.
		{"5+9|||", 0, "5 -", 5, "5+9||0(5 -)|"},
		{"5+9|||", 1, "5 - c7 c8", 5, "5+9||1(5 - c7 c8)|"},
		{"5+9|||", 2, "1 2 3", 5, "5+9||2(1 2 3)|"},
		{"5+9|||", 3, "- -", 5, "5+9||3(- -)|"},
		{"5+9|0(1 -)||", 4, "@0 c9", 5, "5+9|0(1 -)|4(@0 c9)|"},
		{"5+9|0(1 -)||", 5, "@0 -", 5, "5+9|0(1 -)|5(@0 -)|"},
		{"5+9|0(1 -)||", 6, "@0 - @0", 5, "5+9|0(1 -)|6(@0 - @0)|"},
		{"5+9||0(1 -) 5(@5 -)|", 7, "@8 -", 11, "5+9||0(1 -) 5(@5 -) 7(@8 -)|"},
		// Behind all others, which stay as they are, with their log.
		{fullHeap, 0, "9972 @24", 0, ""},
		{fullHeap, 0, "9972 @3", 27, "20+12|0(7 @20) 1(1 - c5 c6) 3(@0 @3)|0(8 @0) 3() 2(1 2) 0(9972 @3)|2"},
		{fullHeap, 3, "@0 @20 @3 -", 27, "20+12|0(7 @20) 1(1 - c5 c6) 3(@0 @3)|0(8 @0) 3() 2(1 2) 3(@0 @20 @3 -)|2"},
		// No such type.
		{"5+9|||", -1, "5 -", 0, ""}, {"5+9|||", 8, "5 -", 0, ""}, {"5+9|||", 8, "", 0, ""}, {"5+9|||", math.MinInt, "", 0, ""}, {"5+9|||", math.MaxInt, "", 0, ""},
		// Too few, too many.
		{"5+9|||", 0, "", 0, ""}, {"5+9|||", 0, "5", 0, ""}, {"5+9|||", 0, "5 - -", 0, ""}, {"5+9|||", 1, "5 - c7", 0, ""}, {"5+9|||", 1, "5 - c7 c8 c8", 0, ""},
		{"5+40|||", 0, "5 - " + strings.Repeat("- ", 16), 0, ""}, {"5+40|||", 2, strings.Repeat("1 ", 16), 0, ""},
		// One that does not fit, at each place.
		{"5+9|||", 0, "- -", 0, ""}, {"5+9|||", 0, "9973 -", 0, ""}, {"5+9|||", 0, "5 5", 0, ""}, {"5+9|||", 0, "5 c5", 0, ""}, {"5+9|||", 1, "5 - 0 c8", 0, ""}, {"5+9|||", 1, "5 - - -", 0, ""},
		{"5+9|0(1 -)||", 4, "- c9", 0, ""}, {"5+9|0(1 -)||", 4, "@0 @0", 0, ""}, {"5+9|0(1 -)||", 4, "@1 -", 0, ""}, {"5+9|0(1 -)||", 4, "@3 -", 0, ""}, {"5+9|0(1 -)||", 6, "@0 - -", 0, ""}, {"5+9|2(1)||", 4, "@0 -", 0, ""},
		{"5+9|||", 2, "1 2 -", 0, ""}, {"5+9|||", 2, "9973 2", 0, ""}, {"5+9|||", 3, "- - c0", 0, ""},
		// It can not name itself, as it is not there yet.
		{"5+9|||", 0, "5 @5", 0, ""}, {"5+9|||", 3, "@5", 0, ""},
		// A row of nothing, of six, and of seven.
		{"5+9|||", 2, "", 5, "5+9||2()|"}, {"5+9|||", 7, "", 5, "5+9||7()|"}, {"5+9||3()|", 3, "", 6, "5+9||3() 3()|"},
		{"5+9|||", 2, "1 2 3 4 5 6", 5, "5+9||2(1 2 3 4 5 6)|"}, {"5+9|||", 2, "1 2 3 4 5 6 7", 0, ""}, {"5+9|||", 3, "- - - - - - -", 0, ""},
		// Just enough room, and a word too little.
		{"5+3|||", 0, "5 -", 5, "5+3||0(5 -)|"}, {"5+2|||", 0, "5 -", 0, ""}, {"5+1|||", 2, "", 5, "5+1||2()|"}, {"5+0|||", 2, "", 0, ""}, {"5+7|||", 2, "1 2 3 4 5 6", 5, "5+7||2(1 2 3 4 5 6)|"}, {"5+6|||", 2, "1 2 3 4 5 6", 0, ""},
		{"5+6||2(1 2)|", 0, "5 -", 8, "5+6||2(1 2) 0(5 -)|"}, {"5+5||2(1 2)|", 0, "5 -", 0, ""}, {"5+4||2(1 2)|", 3, "", 8, "5+4||2(1 2) 3()|"}, {"5+3||2(1 2)|", 3, "", 0, ""},
		{"120+40||" + strings.Repeat("2(1 2 3 4) ", 7) + "|", 2, "1 2 3 4", 155, "120+40||" + strings.Repeat("2(1 2 3 4) ", 8) + "|"},
		{"120+40||" + strings.Repeat("2(1 2 3 4) ", 7) + "|", 2, "1 2 3 4 5", 0, ""},
		{"120+40||" + strings.Repeat("2(1 2 3 4) ", 8) + "|", 2, "", 0, ""},
		// Room for old things is not room for it.
		{"50+2|||", 0, "5 -", 0, ""},
	})
	checkMakeCases(t, groups(group(box(-1))), impl.HeapMake, []makeCase{
		{"1+2|||", 0, "", 1, "1+2||0()|"}, {"1+2||0()|", 0, "", 2, "1+2||0() 0()|"}, {"1+2||0() 0()|", 0, "", 0, ""}, {"1+2|||", 0, "-", 0, ""}, {"1+2|||", 1, "", 0, ""},
	})
	if got, at, ok := impl.HeapMake(nil, impl.HeapNew(5, 5), 0, nil); ok || at != 0 || heapText(got) != heapText(impl.Heap{}) {
		t.Error("something is made where there are no types")
	}
	odd := impl.Val{Kind: 7, N: 1}
	if _, _, ok := impl.HeapMake(typesOf(t, heapWorld), impl.HeapNew(5, 5), 0, values(number(1), odd)); ok {
		t.Error("a value of no kind fits")
	}
	if _, _, ok := impl.HeapMake(typesOf(t, heapWorld), impl.HeapNew(5, 5), 0, values(number(1), impl.Val{Kind: impl.ValNone, N: 3})); ok {
		t.Error("a none with a number fits")
	}
}

// putCase is a value that is put: the heap behind it, or nothing.
type putCase struct {
	from string
	a    int
	i    int
	val  string
	to   string
}

func checkPutCases(t *testing.T, g [][]impl.Type, cases []putCase) {
	t.Helper()
	for _, c := range cases {
		h, want := fromAndTo(t, g, c.from, c.to)
		got, ok := impl.HeapPut(g, h, c.a, c.i, valOf(t, c.val))
		if ok != (c.to != "") || heapText(got) != heapText(want) {
			t.Errorf("%s: %s at %d of %d: %v, %s", c.from, c.val, c.i, c.a, ok, heapText(got))
		}
		if ok && !impl.HeapOk(g, got) {
			t.Errorf("%s: with %s at %d of %d it is not ok", c.from, c.val, c.i, c.a)
		}
	}
}

func TestHeapPutIntoYoung(t *testing.T) {
	from := "9+19|0(1 -)|0(5 -) 1(2 - - c1) 3(- - -) 4(@0 -) 2()|"
	with := func(things string) string { return "9+19|0(1 -)|" + things + "|" }
	checkPutCases(t, typesOf(t, heapWorld), []putCase{
		{from, 9, 0, "7", with("0(7 -) 1(2 - - c1) 3(- - -) 4(@0 -) 2()")},
		{from, 9, 0, "0", with("0(0 -) 1(2 - - c1) 3(- - -) 4(@0 -) 2()")},
		{from, 9, 0, "9972", with("0(9972 -) 1(2 - - c1) 3(- - -) 4(@0 -) 2()")},
		{from, 9, 1, "@0", with("0(5 @0) 1(2 - - c1) 3(- - -) 4(@0 -) 2()")},
		{from, 9, 1, "@9", with("0(5 @9) 1(2 - - c1) 3(- - -) 4(@0 -) 2()")},
		{from, 9, 1, "@12", with("0(5 @12) 1(2 - - c1) 3(- - -) 4(@0 -) 2()")},
		{from, 9, 1, "-", from},
		{from, 12, 2, "c0", with("0(5 -) 1(2 - c0 c1) 3(- - -) 4(@0 -) 2()")},
		{from, 12, 2, "@0", with("0(5 -) 1(2 - @0 c1) 3(- - -) 4(@0 -) 2()")},
		{from, 12, 2, "@24", with("0(5 -) 1(2 - @24 c1) 3(- - -) 4(@0 -) 2()")},
		{from, 12, 3, "c9972", with("0(5 -) 1(2 - - c9972) 3(- - -) 4(@0 -) 2()")},
		{from, 17, 0, "@9", with("0(5 -) 1(2 - - c1) 3(@9 - -) 4(@0 -) 2()")},
		{from, 17, 2, "@12", with("0(5 -) 1(2 - - c1) 3(- - @12) 4(@0 -) 2()")},
		// A field that is not Mut is put into too: that it is, is asked ahead of that (chapter 4).
		{from, 21, 1, "c3", with("0(5 -) 1(2 - - c1) 3(- - -) 4(@0 c3) 2()")},
		{from, 21, 0, "@12", with("0(5 -) 1(2 - - c1) 3(- - -) 4(@12 -) 2()")},
		// One past either end.
		{from, 9, -1, "7", ""}, {from, 9, 2, "-", ""}, {from, 9, 3, "2", ""}, {from, 17, 3, "-", ""}, {from, 17, -1, "-", ""}, {from, 12, 4, "c1", ""}, {from, 9, math.MinInt, "7", ""}, {from, 9, math.MaxInt, "7", ""},
		// A row of nothing.
		{from, 24, 0, "1", ""}, {from, 24, -1, "1", ""},
		// Where no thing begins.
		{from, 10, 0, "1", ""}, {from, 3, 0, "1", ""}, {from, 8, 0, "1", ""}, {from, 25, 0, "1", ""}, {from, 27, 0, "1", ""}, {from, 28, 0, "1", ""}, {from, -1, 0, "1", ""}, {from, math.MinInt, 0, "1", ""}, {from, math.MaxInt, 0, "1", ""},
		// What is of another sort.
		{from, 9, 0, "-", ""}, {from, 9, 0, "9973", ""}, {from, 9, 0, "-1", ""}, {from, 9, 0, "c5", ""}, {from, 9, 1, "5", ""}, {from, 9, 1, "c5", ""}, {from, 9, 1, "@17", ""}, {from, 9, 1, "@10", ""}, {from, 9, 1, "@3", ""}, {from, 9, 1, "@25", ""}, {from, 9, 1, "@160", ""},
		{from, 12, 3, "-", ""}, {from, 12, 3, "@9", ""}, {from, 12, 2, "c9973", ""}, {from, 12, 2, "2", ""}, {from, 21, 0, "-", ""}, {from, 21, 0, "@21", ""}, {from, 21, 1, "@9", ""},
	})
}

func TestHeapPutIntoOld(t *testing.T) {
	young := "|0(5 -) 3()|"
	from := "20+9|0(1 -) 1(2 - - c1) 3(- - -) 4(@0 -) 2()" + young
	with := func(things string, log string) string { return "20+9|" + things + young + log }
	checkPutCases(t, typesOf(t, heapWorld), []putCase{
		// A number is not known, all else is.
		{from, 0, 0, "7", with("0(7 -) 1(2 - - c1) 3(- - -) 4(@0 -) 2()", "")},
		{from, 0, 1, "-", with("0(1 -) 1(2 - - c1) 3(- - -) 4(@0 -) 2()", "2")},
		{from, 0, 1, "@3", with("0(1 @3) 1(2 - - c1) 3(- - -) 4(@0 -) 2()", "2")},
		{from, 0, 1, "@20", with("0(1 @20) 1(2 - - c1) 3(- - -) 4(@0 -) 2()", "2")},
		{from, 3, 0, "9", with("0(1 -) 1(9 - - c1) 3(- - -) 4(@0 -) 2()", "")},
		{from, 3, 2, "@23", with("0(1 -) 1(2 - @23 c1) 3(- - -) 4(@0 -) 2()", "6")},
		{from, 3, 2, "c23", with("0(1 -) 1(2 - c23 c1) 3(- - -) 4(@0 -) 2()", "6")},
		{from, 3, 3, "c2", with("0(1 -) 1(2 - - c2) 3(- - -) 4(@0 -) 2()", "7")},
		{from, 8, 0, "@20", with("0(1 -) 1(2 - - c1) 3(@20 - -) 4(@0 -) 2()", "9")},
		{from, 8, 2, "@0", with("0(1 -) 1(2 - - c1) 3(- - @0) 4(@0 -) 2()", "11")},
		{from, 12, 0, "@20", with("0(1 -) 1(2 - - c1) 3(- - -) 4(@20 -) 2()", "13")},
		{from, 12, 1, "c0", with("0(1 -) 1(2 - - c1) 3(- - -) 4(@0 c0) 2()", "14")},
		// Behind all that is known; and what is known already stays where it is, once.
		{from + "11 2", 8, 0, "@20", with("0(1 -) 1(2 - - c1) 3(@20 - -) 4(@0 -) 2()", "11 2 9")},
		{from + "11 2", 0, 1, "@20", with("0(1 @20) 1(2 - - c1) 3(- - -) 4(@0 -) 2()", "11 2")},
		{from + "11 2", 8, 2, "-", with("0(1 -) 1(2 - - c1) 3(- - -) 4(@0 -) 2()", "11 2")},
		{from + "11 2", 0, 0, "4", with("0(4 -) 1(2 - - c1) 3(- - -) 4(@0 -) 2()", "11 2")},
		{with("0(1 @20) 1(2 - - c1) 3(- - -) 4(@0 -) 2()", "2"), 0, 1, "@20", with("0(1 @20) 1(2 - - c1) 3(- - -) 4(@0 -) 2()", "2")},
		{with("0(1 @20) 1(2 - - c1) 3(- - -) 4(@0 -) 2()", "2"), 0, 1, "-", with("0(1 -) 1(2 - - c1) 3(- - -) 4(@0 -) 2()", "2")},
		{with("0(1 @20) 1(2 - - c1) 3(- - -) 4(@0 -) 2()", "6 2 9"), 0, 1, "@0", with("0(1 @0) 1(2 - - c1) 3(- - -) 4(@0 -) 2()", "6 2 9")},
		// Into a young one, the log stays.
		{from + "11 2", 20, 1, "@20", "20+9|0(1 -) 1(2 - - c1) 3(- - -) 4(@0 -) 2()|0(5 @20) 3()|11 2"},
		// What can not be put.
		{from, 0, -1, "1", ""}, {from, 0, 2, "-", ""}, {from, 0, 2, "2", ""}, {from, 8, 3, "-", ""}, {from, 8, -1, "-", ""}, {from, 15, 0, "1", ""}, {from, 15, -1, "1", ""}, {from, 15, 1, "1", ""},
		{from, 1, 0, "1", ""}, {from, 16, 0, "1", ""}, {from, 19, 0, "1", ""}, {from, 0, 0, "-", ""}, {from, 0, 1, "1", ""}, {from, 0, 1, "c0", ""}, {from, 0, 1, "@23", ""}, {from, 0, 1, "@8", ""}, {from, 0, 1, "@16", ""}, {from, 0, 1, "@24", ""}, {from, 12, 0, "-", ""}, {from, 12, 1, "@0", ""}, {from, 12, 0, "@23", ""},
	})
}

// TestHeapNearWords puts chips and things whose words are near one another, and gets them again.
func TestHeapNearWords(t *testing.T) {
	g := groups(group(row(-1, ref(impl.OfAny))))
	h := impl.HeapNew(120, 40)
	for range 20 {
		h, _, _ = impl.HeapMake(g, h, 0, values(none()))
	}
	for a := 120; a < 160; a += 2 {
		for _, v := range values(chip(a-1), thing(a), chip(a), chip(a+1), none(), chip(0), chip(9972)) {
			put, ok := impl.HeapPut(g, h, a, 0, v)
			got, fine := impl.HeapGet(g, put, a)
			if !ok || !fine || len(got.Vals) != 1 || got.Vals[0] != v || len(put.Log) != 0 {
				t.Fatalf("%v in %d: %v, %s", v, a, got, heapText(put))
			}
			h = put
		}
		if _, ok := impl.HeapPut(g, h, a, 0, thing(a+1)); ok {
			t.Fatalf("%d names where nothing begins", a)
		}
	}
}

// checkHeapStep holds what a heap is behind a step against the document's words, and against what it was ahead.
func checkHeapStep(t *testing.T, g [][]impl.Type, from impl.Heap, to impl.Heap, turned int) {
	t.Helper()
	if !impl.HeapOk(g, to) || !plainHeapOk(g, to) {
		t.Fatalf("%v: behind %s it is not ok: %s", g, heapText(from), heapText(to))
	}
	all, _ := plainHeapPlaced(g, to)
	var places []int
	for _, one := range all {
		places = append(places, one.at)
		got, ok := impl.HeapGet(g, to, one.at)
		if !ok || got.Type != one.thing.Type || !slices.Equal(got.Vals, one.thing.Vals) {
			t.Fatalf("%v, %s: at %d: %v, not %v", g, heapText(to), one.at, got, one.thing)
		}
		was, ok := impl.HeapGet(g, from, one.at)
		if one.at != turned && (!ok || was.Type != got.Type || !slices.Equal(was.Vals, got.Vals)) {
			t.Fatalf("%v: behind %s there is another thing at %d: %s", g, heapText(from), one.at, heapText(to))
		}
		for i, v := range got.Vals {
			if one.at < to.Old && v.Kind == impl.ValThing && v.N >= to.Old && !slices.Contains(to.Log, one.at+1+i) {
				t.Fatalf("%v, %s: %d is not known", g, heapText(to), one.at+1+i)
			}
		}
	}
	if got := impl.HeapThings(g, to); !slices.Equal(got, places) {
		t.Fatalf("%v, %s: things at %v, not %v", g, heapText(to), got, places)
	}
}

// TestHeapPromise makes and puts at random, step by step: the heap is always right, and the same as by the document's words.
func TestHeapPromise(t *testing.T) {
	r := rand.New(rand.NewSource(77))
	made, put, refused, known, again := 0, 0, 0, 0, 0
	for range 400 {
		g := someHeapTypes(t, r)
		h := impl.HeapNew(1+r.Intn(impl.OldMost), r.Intn(impl.YoungMost+1))
		for range 60 {
			to, ok, turned := h, true, -1
			switch r.Intn(9) {
			case 0:
				h = aged(r, g, h)
				to = h
			case 1, 2, 3:
				a, vals := someMaking(r, g, h)
				want, at, fine := plainMake(g, h, a, vals)
				to, turned, ok = impl.HeapMake(g, h, a, vals)
				if heapText(to) != heapText(want) || turned != at || ok != fine {
					t.Fatalf("%v, %s: %d of %v: %v, at %d: %s", g, heapText(h), a, vals, ok, turned, heapText(to))
				}
				made++
			default:
				a, i, v := somePutting(r, g, h)
				want, fine := plainPut(g, h, a, i, v)
				to, ok = impl.HeapPut(g, h, a, i, v)
				if heapText(to) != heapText(want) || ok != fine {
					t.Fatalf("%v, %s: %v at %d of %d: %v, %s", g, heapText(h), v, i, a, ok, heapText(to))
				}
				turned = a
				put++
				if ok && a < h.Old && v.Kind == impl.ValThing && v.N >= h.Old {
					known++
				}
				if ok && slices.Contains(h.Log, a+1+i) {
					again++
				}
			}
			if !ok {
				refused++
				continue
			}
			checkHeapStep(t, g, h, to, turned)
			h = to
		}
	}
	// The steps are such that it is worth it.
	if made < 3000 || put < 6000 || refused < 500 || known < 200 || again < 200 {
		t.Error(made, put, refused, known, again)
	}
}

// TestHeapMarred turns parts of heaps, and holds what is told of them against the document's words.
func TestHeapMarred(t *testing.T) {
	r := rand.New(rand.NewSource(777))
	right, wrong := 0, 0
	for range 250 {
		g := someHeapTypes(t, r)
		whole := someHeap(r, g)
		if !impl.HeapOk(g, whole) || !plainHeapOk(g, whole) {
			t.Fatalf("%v: not ok: %s", g, heapText(whole))
		}
		for range 40 {
			h := marredHeap(r, whole)
			if r.Intn(4) == 0 {
				h = marredHeap(r, h)
			}
			ok := plainHeapOk(g, h)
			if got := impl.HeapOk(g, h); got != ok {
				t.Fatalf("%v: %s: %v", g, heapText(h), got)
			}
			if !ok {
				if wrong++; wrong%20 == 0 {
					checkHeapNothing(t, heapText(h), g, h)
				}
				continue
			}
			right++
			a, vals := someMaking(r, g, h)
			want, at, fine := plainMake(g, h, a, vals)
			if got, place, ok := impl.HeapMake(g, h, a, vals); heapText(got) != heapText(want) || place != at || ok != fine {
				t.Fatalf("%v, %s: %d of %v: %v, at %d: %s", g, heapText(h), a, vals, ok, place, heapText(got))
			}
		}
	}
	if right < 500 || wrong < 3000 {
		t.Error(right, wrong)
	}
}

// scribbleHeap writes over each list of a heap, with the room behind it, and says whether the other one showed that.
func scribbleHeap(h impl.Heap) bool {
	words, log := h.Words[:cap(h.Words)], h.Log[:cap(h.Log)]
	for at := range words {
		words[at] = -1000 - at
	}
	for at := range log {
		log[at] = -5000 - at
	}
	for at, w := range words {
		if w != -1000-at {
			return true
		}
	}
	return false
}

// TestHeapTurnsNothing hands in what has room behind each list, and writes over all that is answered.
func TestHeapTurnsNothing(t *testing.T) {
	r := rand.New(rand.NewSource(7777))
	answers := 0
	for range 250 {
		g := copyGroups(someHeapTypes(t, r))
		h := copyHeap(someHeap(r, g))
		a, vals := someMaking(r, g, h)
		vals = withRoom(vals, impl.Val{Kind: 66, N: 66})
		b, i, v := somePutting(r, g, h)
		wholeTypes, whole, wholeVals := spread(g), spreadHeap(h), slices.Clone(vals[:cap(vals)])
		ask := func() (impl.Heap, impl.Heap, []int, impl.Thing) {
			made, _, _ := impl.HeapMake(g, h, a, vals)
			put, _ := impl.HeapPut(g, h, b, i, v)
			one, _ := impl.HeapGet(g, h, b)
			impl.HeapOk(g, h)
			impl.HeapSame(h, h)
			impl.HeapFits(g, h, v, ref(impl.OfAny))
			return made, put, impl.HeapThings(g, h), one
		}
		made, put, things, one := ask()
		text := fmt.Sprint(ask())
		answers += len(made.Words) + len(put.Words) + len(things) + len(one.Vals)
		if scribbleHeap(made) || scribbleHeap(put) {
			t.Fatalf("two lists are one: %s", text)
		}
		for at := range things[:cap(things)] {
			things[:cap(things)][at] = -66
		}
		for at := range one.Vals[:cap(one.Vals)] {
			one.Vals[:cap(one.Vals)][at] = impl.Val{Kind: -66}
		}
		if !reflect.DeepEqual(spread(g), wholeTypes) || !reflect.DeepEqual(spreadHeap(h), whole) || !slices.Equal(vals[:cap(vals)], wholeVals) {
			t.Fatalf("what was handed in is turned: %s", text)
		}
		if again := fmt.Sprint(ask()); again != text {
			t.Fatalf("%s, and then %s", text, again)
		}
	}
	if answers < 20000 {
		t.Error(answers)
	}
	first, second := impl.HeapNew(5, 3), impl.HeapNew(5, 3)
	if scribbleHeap(first) || heapText(second) != heapText(impl.HeapNew(5, 3)) {
		t.Error("two new heaps are one")
	}
}
