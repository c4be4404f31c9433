package tests

import (
	"math"
	"math/rand"
	"reflect"
	"slices"
	"strconv"
	"strings"
	"testing"

	"loop.example/lairage/impl"
)

func TestMeanConstants(t *testing.T) {
	kinds := []int{impl.ValNum, impl.ValNone, impl.ValChip, impl.ValThing}
	ends := []int{impl.EndGoes, impl.EndFine, impl.EndNone, impl.EndCast, impl.EndPlace, impl.EndLong, impl.EndDeep, impl.EndFull, impl.EndHost, impl.EndRoom, impl.EndForm}
	bounds := []int{impl.CallMost, impl.OutMost, impl.RowMost, impl.FuelMost}
	if !slices.Equal(kinds, []int{1, 2, 3, 4}) || !slices.Equal(ends, []int{0, 1, 2, 3, 4, 5, 6, 7, 8, 9, 10}) || !slices.Equal(bounds, []int{5, 30, 6, 300}) {
		t.Error(kinds, ends, bounds)
	}
}

// edgeVals is a value of every kind, and of none, with each number at an edge.
func edgeVals() []impl.Val {
	var all []impl.Val
	for kind := -1; kind <= 6; kind++ {
		for _, n := range []int{math.MinInt, -9973, -2, -1, 0, 1, 2, 3, 4, 5, 6, 7, 8, 9, 10, 11, 12, 9972, 9973, 9974, math.MaxInt} {
			all = append(all, impl.Val{Kind: kind, N: n})
		}
	}
	return append(all, impl.Val{Kind: math.MinInt}, impl.Val{Kind: math.MaxInt, N: 1})
}

// edgeThings is things of every type of n, and then of none; what stands in them is not asked for.
func edgeThings(n int) []impl.Thing {
	var things []impl.Thing
	for a := range n {
		things = append(things, impl.Thing{Type: a, Vals: []impl.Val{{Kind: 77, N: -5}}})
	}
	for _, a := range []int{-1, n, -2, math.MinInt, math.MaxInt} {
		things = append(things, impl.Thing{Type: a})
	}
	return things
}

func TestValFitsAndTells(t *testing.T) {
	small := groups(group(box(-1)))
	for _, g := range [][][]impl.Type{nil, small, family(), readProg(t, meanWorld+"fun n\nret\n").Types} {
		n := impl.KinCount(g)
		fields := append(allSorts(n), mut(num()), mut(ref(impl.OfAny)), mut(sure(impl.OfChip)), ref(n), sure(n), ref(-3), sure(math.MinInt), ref(math.MaxInt),
			impl.Field{}, impl.Field{Kind: 1, Of: 1}, impl.Field{Kind: 1, Of: -1}, impl.Field{Kind: 4}, impl.Field{Kind: -1}, impl.Field{Kind: 2, Of: 0, Mut: true})
		for _, things := range [][]impl.Thing{nil, edgeThings(n)} {
			for _, v := range edgeVals() {
				for _, f := range fields {
					if got, want := impl.ValFits(g, things, v, f), plainValFits(g, things, v, f); got != want {
						t.Errorf("%v of %v: %v", v, f, got)
					}
				}
				if got, want := impl.ValTell(g, things, v), plainTell(g, things, v); got != want {
					t.Errorf("%v tells %d, not %d", v, got, want)
				}
			}
		}
	}
}

func TestValFitsByHand(t *testing.T) {
	p := readProg(t, meanWorld+"fun n\nret\n")
	things := []impl.Thing{{Type: 0}, {Type: 1}, {Type: 6}, {Type: 8}, {Type: -1}}
	for _, c := range []struct {
		val  string
		yes  string
		no   string
		tell int
	}{
		{"0", "n", "rany rchip sany r0", 0},
		{"9972", "n n!", "rany schip", 9972},
		{"9973", "", "n n! rany", 0},
		{"-1", "", "n rany", 0},
		{"-", "rany rchip r0 r7 r0!", "n sany schip s0", -1},
		{"c0", "rchip schip rany sany", "n r0 s7", -2},
		{"c9972", "rchip schip rany! sany!", "n r4", -9974},
		{"c9973", "", "rchip schip rany sany n", 0},
		{"c-1", "", "rchip schip rany sany n", 0},
		{"@0", "r0 s0 rany sany", "r1 s1 n rchip r4", 9973},
		{"@1", "r0 s0 r1 s1 rany sany", "n rchip schip r2 s4", 9974},
		{"@2", "r4 s4 r5 s5 r6 s6 rany sany", "n r0 r7 rchip", 9979},
		{"@3", "", "rany sany r0 n", 0},
		{"@4", "", "rany sany r0 n rchip", 0},
		{"@5", "", "rany sany r0 n", 0},
		{"@-1", "", "rany sany r0 n", 0},
	} {
		v := valOf(t, c.val)
		for _, f := range sortsOf(t, c.yes) {
			if !impl.ValFits(p.Types, things, v, f) {
				t.Errorf("%s is not of %v", c.val, f)
			}
		}
		for _, f := range sortsOf(t, c.no) {
			if impl.ValFits(p.Types, things, v, f) {
				t.Errorf("%s is of %v", c.val, f)
			}
		}
		if got := impl.ValTell(p.Types, things, v); got != c.tell {
			t.Errorf("%s tells %d, not %d", c.val, got, c.tell)
		}
	}
	// The least of those that are the same is told.
	if got := impl.ValTell(p.Types, []impl.Thing{{Type: 5}}, thing(0)); got != 9977 {
		t.Error(got)
	}
}

func TestValOfWrongTypes(t *testing.T) {
	things := []impl.Thing{{Type: 0, Vals: values(number(1))}}
	for name, g := range badFamilies() {
		for _, v := range values(number(1), none(), chip(1), thing(0)) {
			for _, f := range allSorts(1) {
				if impl.ValFits(g, things, v, f) {
					t.Errorf("%s: %v is of %v", name, v, f)
				}
			}
			if got := impl.ValTell(g, things, v); got != 0 {
				t.Errorf("%s: %v tells %d", name, v, got)
			}
		}
	}
}

// noGo is programs that can not go.
func noGo(t *testing.T) map[string]impl.Prog {
	all := badProgs()
	for name, text := range map[string]string{
		"takes a number":      "fun n n\nnum 1\nret\n",
		"takes three":         "fun n rany n n\nnum 1\nret\n",
		"lacks":               "fun n\nadd\nret\n",
		"does not end":        "fun n\nnum 1\n",
		"names nothing":       "fun n\nget 0\nret\n",
		"other sort":          "fun n\nnull any\nret\n",
		"rests":               "fun n\nnum 1\nnum 1\nret\n",
		"jumps where is held": "fun n\nnum 1\nif 1\nnum 1\nret\n",
		"nine are held":       "fun n\n" + strings.Repeat("num 1\n", 9) + strings.Repeat("add\n", 8) + "ret\n",
		"second is wrong":     "fun n\nnum 1\nret\nfun n\nnum 1\n",
		"takes and is wrong":  "fun n n\nret\n",
	} {
		all[name] = readProg(t, text)
	}
	return all
}

func TestMeanStart(t *testing.T) {
	for text, want := range map[string]string{
		"fun n\nnum 0\nret\n": "|()|0:0()()||0|0",
		"glob n rany rchip\nfun rany\nown rchip n rany\nnull any\nret\n":                            "|(0 - -)|0:0(- 0 -)()||0|0",
		"group\nbox -\nglob r0\nfun s0\nown n r0\nnew 0\nret\nfun n n n n\nown n n n\nget 0\nret\n": "|(-)|0:0(0 -)()||0|0",
		"glob n\nfun n\npass 1\nfun n\nown n\nnum 9\nret\n":                                         "|(0)|0:0()()||0|0",
	} {
		p := readProg(t, text)
		got := impl.MeanStart(p)
		if meanText(got) != want {
			t.Errorf("%q begins %s, not %s", text, meanText(got), want)
		}
		if !impl.MeanOk(p, got) {
			t.Errorf("%q: not ok", text)
		}
	}
	for name, p := range noGo(t) {
		if got := impl.MeanStart(p); meanText(got) != "|()|||0|10" {
			t.Errorf("%s: %s", name, meanText(got))
		}
	}
}

func TestNoGo(t *testing.T) {
	for name, p := range noGo(t) {
		states := []string{"|()|0:0()()||0|0", "|()|||0|1", "|()|||0|0", "|()|||0|10", "|()|0:0(0)()||0|0", "|(0)|0:0()()||0|0"}
		for _, text := range states {
			m := meanOf(t, text)
			if impl.MeanOk(p, m) {
				t.Errorf("%s: %s is ok", name, text)
			}
			if got := impl.MeanStep(p, nil, m); meanText(got) != "|()|||0|10" {
				t.Errorf("%s: a step from %s: %s", name, text, meanText(got))
			}
		}
		for _, fuel := range []int{-1, 0, 1, 300, 301} {
			if got := impl.MeanRun(p, nil, fuel); meanText(got) != "|()|||0|10" {
				t.Errorf("%s: run by %d: %s", name, fuel, meanText(got))
			}
		}
	}
}

// stepCase is an instruction that is done once. States are texts, or only things and what is held, with a stroke
// between; P is its place and N the one behind. A state behind that is = and a number is that code, all else as it was.
type stepCase struct {
	ins  string
	held string
	from string
	to   string
}

// stepText is the whole text of a state of a case.
func stepText(text string, pc string, at int) string {
	if strings.Count(text, "|") == 1 {
		things, held, _ := strings.Cut(text, "|")
		text = things + "|(3 - c1)|0:" + pc + "(4 - c2)(" + held + ")|7 -1|1|0"
	}
	return strings.NewReplacer("P", strconv.Itoa(at), "N", strconv.Itoa(at+1)).Replace(text)
}

// checkStep holds one step against the state that is behind it.
func checkStep(t *testing.T, p impl.Prog, host []int, from impl.Mean, want string) {
	t.Helper()
	if !impl.MeanOk(p, from) {
		t.Errorf("not ok: %s", meanText(from))
	}
	given := copyMean(from)
	whole, prog := spreadMean(given), copyProg(p)
	wholeProg := spreadProg(prog)
	own := withRoom(host, 66)
	got := impl.MeanStep(prog, own, given)
	if meanText(got) != want {
		t.Errorf("from %s to %s, not %s", meanText(from), meanText(got), want)
	}
	if !impl.MeanOk(p, got) {
		t.Errorf("not ok: %s", meanText(got))
	}
	if scribble(got) {
		t.Errorf("from %s: two lists are one", meanText(from))
	}
	if !reflect.DeepEqual(spreadMean(given), whole) || !reflect.DeepEqual(spreadProg(prog), wholeProg) || !slices.Equal(own[:cap(own)], append(slices.Clone(host), 66, 66)) {
		t.Errorf("from %s: what was handed in is turned", meanText(from))
	}
	// An engine does the same, whatever heap the things are on.
	checkLaidSteps(t, p, host, from)
}

// checkStepCase holds one case against the document.
func checkStepCase(t *testing.T, c stepCase, gives string) {
	t.Helper()
	p, at := aroundIns(t, c.held, c.ins, gives)
	from := meanOf(t, stepText(c.from, "P", at))
	want := from
	if code, ok := strings.CutPrefix(c.to, "="); ok {
		want.Code = int(code[0] - '0')
	} else {
		want = meanOf(t, stepText(c.to, "N", at))
	}
	checkStep(t, p, meanHost(), from, meanText(want))
}

func TestStepNumbersAndPlaces(t *testing.T) {
	for _, c := range []stepCase{
		{"num 0", "", "|", "|0"}, {"num 9972", "", "|", "|9972"}, {"num 7", "n rany", "|5 c3", "|5 c3 7"},
		{"num 7", "n n n n n n n", "|1 2 3 4 5 6 7", "|1 2 3 4 5 6 7 7"},
		{"get 0", "", "|", "|4"}, {"get 1", "", "|", "|-"}, {"get 2", "n", "|9", "|9 c2"},
		{"set 0", "n", "|9", "|(3 - c1)|0:N(9 - c2)()|7 -1|1|0"},
		{"set 1", "n r0", "0(5 -)|8 @0", "0(5 -)|(3 - c1)|0:N(4 @0 c2)(8)|7 -1|1|0"},
		{"set 1", "s1", "1(5 - -)|@0", "1(5 - -)|(3 - c1)|0:N(4 @0 c2)()|7 -1|1|0"},
		{"set 2", "r0", "|-", "|(3 - c1)|0:N(4 - -)()|7 -1|1|0"},
		{"take 0", "", "|", "|3"}, {"take 1", "rany", "|c8", "|c8 -"}, {"take 2", "", "|", "|c1"},
		{"keep 0", "n", "|9", "|(9 - c1)|0:N(4 - c2)()|7 -1|1|0"},
		{"keep 1", "n r0", "0(5 -)|8 @0", "0(5 -)|(3 @0 c1)|0:N(4 - c2)(8)|7 -1|1|0"},
		{"keep 2", "schip", "|c9972", "|(3 - c9972)|0:N(4 - c2)()|7 -1|1|0"},
		{"drop", "n", "|5", "|"}, {"drop", "n rany", "0(5 -)|5 @0", "0(5 -)|5"}, {"drop", "r0 n", "|- 5", "|-"},
		{"add", "n n", "|3 4", "|7"}, {"add", "n n", "|9972 1", "|0"}, {"add", "n n", "|9972 9972", "|9971"}, {"add", "rany n n", "|c1 0 0", "|c1 0"},
		{"mul", "n n", "|3 4", "|12"}, {"mul", "n n", "|9972 9972", "|1"}, {"mul", "n n", "|9972 0", "|0"},
		{"less", "n n", "|3 4", "|1"}, {"less", "n n", "|4 3", "|0"}, {"less", "n n", "|4 4", "|0"}, {"less", "n n n", "|9 0 9972", "|9 1"},
		{"chip", "n", "|0", "|c0"}, {"chip", "n n", "|1 9972", "|1 c9972"},
		{"back", "rchip", "|c0", "|0"}, {"back", "schip", "|c9972", "|9972"}, {"back", "rchip", "|-", "=2"}, {"back", "n rchip", "|5 -", "=2"},
		{"null any", "", "|", "|-"}, {"null chip", "n", "|5", "|5 -"}, {"null 0", "", "|", "|-"}, {"null 7", "rany", "|c3", "|c3 -"},
		{"sweep 0", "", "0(5 -)|", "0(5 -)|"}, {"sweep 1", "n r0", "0(5 -) 0(6 @0)|5 @0", "0(5 -) 0(6 @0)|5 @0"},
	} {
		checkStepCase(t, c, "rany")
	}
}

func TestStepThings(t *testing.T) {
	for _, c := range []stepCase{
		{"new 0", "n r0", "|5 -", "0(5 -)|@0"},
		{"new 0", "rany n r0", "0(1 -) 2(7)|c9 5 @0", "0(1 -) 2(7) 0(5 @0)|c9 @2"},
		{"new 1", "n s1 schip", "1(1 - -)|5 @0 c3", "1(1 - -) 1(5 @0 c3)|@1"},
		{"new 4", "s0 rchip", "0(1 -)|@0 -", "0(1 -) 4(@0 -)|@1"},
		{"new 5", "s1 schip", "1(1 - @0)|@0 c9972", "1(1 - @0) 5(@0 c9972)|@1"},
		{"new 6", "s0 rchip n", "0(1 -)|@0 - 8", "0(1 -) 6(@0 - 8)|@1"},
		{"row 2", "n n", "|3 7", "2(7 7 7)|@0"}, {"row 2", "n n", "|0 7", "2()|@0"}, {"row 2", "n n", "|1 9972", "2(9972)|@0"},
		{"row 2", "n n", "|6 7", "2(7 7 7 7 7 7)|@0"}, {"row 2", "n n", "|7 6", "=5"}, {"row 2", "n n", "|9972 1", "=5"}, {"row 2", "rany n n", "2(1)|@0 7 0", "=5"},
		{"row 3", "n r0", "|2 -", "3(- -)|@0"}, {"row 3", "n n r0", "0(1 -)|9 2 @0", "0(1 -) 3(@0 @0)|9 @1"}, {"row 7", "n r0", "|0 -", "7()|@0"}, {"row 3", "n r0", "|7 -", "=5"},
		{"look 0 0", "r0", "0(5 -)|@0", "0(5 -)|5"}, {"look 0 1", "r0", "0(5 @0)|@0", "0(5 @0)|@0"}, {"look 0 1", "n s0", "0(5 -)|8 @0", "0(5 -)|8 -"},
		{"look 0 0", "r1", "0(5 -) 1(6 @0 c4)|@1", "0(5 -) 1(6 @0 c4)|6"}, {"look 1 2", "r1", "0(5 -) 1(6 @0 c4)|@1", "0(5 -) 1(6 @0 c4)|c4"},
		{"look 4 0", "s5", "0(5 -) 5(@0 c4)|@1", "0(5 -) 5(@0 c4)|@0"}, {"look 4 1", "r6", "0(5 -) 6(@0 - 3)|@1", "0(5 -) 6(@0 - 3)|-"}, {"look 6 2", "r6", "0(5 -) 6(@0 - 3)|@1", "0(5 -) 6(@0 - 3)|3"},
		{"look 0 0", "r0", "0(5 -)|-", "=2"}, {"look 1 2", "n r1", "|5 -", "=2"},
		{"put 0 0", "r0 n", "0(5 -)|@0 9", "0(9 -)|"}, {"put 0 1", "r0 r0", "0(5 -)|@0 @0", "0(5 @0)|"}, {"put 0 1", "n s0 r0", "0(5 @0) 0(6 -)|8 @0 -", "0(5 -) 0(6 -)|8"},
		{"put 0 0", "r0 r0 n", "0(5 -)|@0 @0 9", "0(9 -)|@0"}, {"put 4 0", "s6 s1", "0(5 -) 1(1 - -) 6(@0 - 3)|@2 @1", "0(5 -) 1(1 - -) 6(@1 - 3)|"},
		{"put 0 1", "r1 r1", "1(1 - -) 1(2 - -)|@1 @0", "1(1 - -) 1(2 @0 -)|"},
		{"put 0 0", "r0 n", "0(5 -)|- 9", "=2"}, {"put 0 1", "r0 r0", "0(5 -)|- @0", "=2"},
		{"at 2", "r2 n", "2(5 6 7)|@0 0", "2(5 6 7)|5"}, {"at 2", "n r2 n", "2(5 6 7)|9 @0 2", "2(5 6 7)|9 7"}, {"at 2", "r2 n", "2(5 6 7)|@0 3", "=4"}, {"at 2", "r2 n", "2(5 6 7)|@0 9972", "=4"},
		{"at 2", "s2 n", "2()|@0 0", "=4"}, {"at 2", "r2 n", "2(1 2 3 4 5 6)|@0 5", "2(1 2 3 4 5 6)|6"}, {"at 2", "r2 n", "2(1 2 3 4 5 6)|@0 6", "=4"},
		{"at 2", "r2 n", "2(5)|- 0", "=2"}, {"at 2", "r2 n", "|- 9972", "=2"}, {"at 3", "r7 n", "0(1 -) 7(- @0)|@1 1", "0(1 -) 7(- @0)|@0"},
		{"lay 2", "r2 n n", "2(5 6 7)|@0 0 9", "2(9 6 7)|"}, {"lay 2", "rany r2 n n", "2(5 6 7) 2(1)|@1 @0 2 1", "2(5 6 1) 2(1)|@1"}, {"lay 2", "r2 n n", "2(5 6 7)|@0 3 9", "=4"}, {"lay 2", "r2 n n", "2(5 6 7)|@0 9972 0", "=4"},
		{"lay 2", "r2 n n", "2()|@0 0 0", "=4"}, {"lay 2", "r2 n n", "2(1 2 3 4 5 6)|@0 5 0", "2(1 2 3 4 5 0)|"}, {"lay 2", "r2 n n", "2(1 2 3 4 5 6)|@0 6 0", "=4"},
		{"lay 2", "r2 n n", "2(5)|- 0 9", "=2"}, {"lay 2", "r2 n n", "2(5)|- 9972 9", "=2"}, {"lay 3", "s7 n r1", "1(1 - -) 7(-)|@1 0 @0", "1(1 - -) 7(@0)|"}, {"lay 3", "r3 n r0", "|- 9 -", "=2"},
		{"len 2", "r2", "2(5 6 7)|@0", "2(5 6 7)|3"}, {"len 2", "n s2", "2()|7 @0", "2()|7 0"}, {"len 2", "r2", "2(1 2 3 4 5 6)|@0", "2(1 2 3 4 5 6)|6"}, {"len 3", "r7", "7(- -)|@0", "7(- -)|2"}, {"len 2", "r2", "2(1)|-", "=2"},
	} {
		checkStepCase(t, c, "rany")
	}
	p := readProg(t, "group\nbox -\nfun s0\nnew 0\nret\n")
	checkStep(t, p, nil, meanOf(t, "0()|()|0:0()()||0|0"), "0() 0()|()|0:1()(@1)||0|0")
}

func TestStepAsksOfReferences(t *testing.T) {
	things := "0(5 -) 0(5 -)"
	for _, c := range []stepCase{
		{"same", "rany rany", "|@0 @0", "1"}, {"same", "rany rany", "|@0 @1", "0"}, {"same", "r0 s0", "|@1 @1", "1"}, {"same", "r0 rchip", "|@0 c0", "0"}, {"same", "rchip rany", "|c1 @1", "0"},
		{"same", "r0 r2", "|- -", "1"}, {"same", "rany rany", "|- c0", "0"}, {"same", "rany rany", "|@0 -", "0"}, {"same", "rany rany", "|- @0", "0"},
		{"same", "rchip schip", "|c5 c5", "1"}, {"same", "schip schip", "|c5 c6", "0"}, {"same", "schip schip", "|c9972 c0", "0"},
		{"none", "rany", "|-", "1"}, {"none", "rchip", "|c0", "0"}, {"none", "s0", "|@0", "0"}, {"none", "r0", "|-", "1"},
	} {
		checkStepCase(t, stepCase{c.ins, c.held, things + c.from, things + "|" + c.to}, "rany")
		checkStepCase(t, stepCase{c.ins, "n " + c.held, things + strings.Replace(c.from, "|", "|9 ", 1), things + "|9 " + c.to}, "rany")
	}
	for _, c := range []stepCase{
		{"sure", "rany", "|c0", "|c0"}, {"sure", "r0", "0(5 -)|@0", "0(5 -)|@0"}, {"sure", "rany", "|-", "=2"}, {"sure", "n rchip", "|5 -", "=2"}, {"sure", "schip", "|c9", "|c9"},
	} {
		checkStepCase(t, c, "rany")
	}
}

// TestStepTestAndCast asks of none, of a chip, and of a thing of each type whether it is of each of what there is.
func TestStepTestAndCast(t *testing.T) {
	things := "0(5 -) 1(5 - -) 2() 3(@0) 4(@0 -) 5(@1 c2) 6(@0 - 4) 7()"
	of := map[string]string{
		"-": "", "c0": "any chip", "c9972": "any chip",
		"@0": "any 0", "@1": "any 0 1", "@2": "any 2", "@3": "any 3", "@4": "any 4 5", "@5": "any 4 5", "@6": "any 4 5 6", "@7": "any 3 7",
	}
	for val, all := range of {
		for _, a := range []string{"any", "chip", "0", "1", "2", "3", "4", "5", "6", "7"} {
			is := slices.Contains(strings.Fields(all), a)
			told, behind := "0", "=3"
			if is {
				told, behind = "1", things+"|8 "+val
			}
			checkStepCase(t, stepCase{"test " + a, "rany", things + "|" + val, things + "|" + told}, "rany")
			checkStepCase(t, stepCase{"cast " + a, "n rany", things + "|8 " + val, behind}, "rany")
		}
	}
}

func TestStepGoesElsewhere(t *testing.T) {
	here := "|(3 - c1)|0:P(4 - c2)(%)|7 -1|1|0"
	there := "|(3 - c1)|0:0(4 - c2)()|7 -1|1|0"
	with := func(held string) string { return strings.Replace(here, "%", held, 1) }
	for _, c := range []stepCase{
		{"jump 0", "", with(""), there},
		{"if 0", "n", with("0"), "|"}, {"if 0", "n", with("1"), there}, {"if 0", "n", with("9972"), there},
		{"call 1", "n r0", "0(6 -)|9 @0", "0(6 -)|(3 - c1)|0:N(4 - c2)() 1:0(9 @0 - 0)()|7 -1|1|0"},
		{"call 1", "rany n n s1", "1(6 - -)|c7 5 9 @0", "1(6 - -)|(3 - c1)|0:N(4 - c2)(c7 5) 1:0(9 @0 - 0)()|7 -1|1|0"},
		{"call 2", "", "|", "|(3 - c1)|0:N(4 - c2)() 2:0()()|7 -1|1|0"},
		{"call 3", "n s5", "0(6 -) 5(@0 -)|1 @1", "0(6 -) 5(@0 -)|(3 - c1)|0:N(4 - c2)(1) 3:0(@1 -)()|7 -1|1|0"},
		{"call 0", "n", "|9", "|(3 - c1)|0:N(4 - c2)(9) 0:0(0 - -)()|7 -1|1|0"},
		{"pass 2", "", "|", "|(3 - c1)|2:0()()|7 -1|1|0"},
		{"pass 3", "s4", "0(6 -) 4(@0 -)|@1", "0(6 -) 4(@0 -)|(3 - c1)|3:0(@1 -)()|7 -1|1|0"},
		{"pass 0", "", "|", "|(3 - c1)|0:0(0 - -)()|7 -1|1|0"},
		{"ret", "rany", "|c4", "|(3 - c1)||7 -1|1|1"}, {"ret", "s0", "0(5 -)|@0", "0(5 -)|(3 - c1)||7 -1|1|1"}, {"ret", "r0", "|-", "|(3 - c1)||7 -1|1|1"},
	} {
		checkStepCase(t, c, "rany")
	}
	for _, c := range []stepCase{
		{"pass 1", "n r0", "0(6 -)|9 @0", "0(6 -)|(3 - c1)|1:0(9 @0 - 0)()|7 -1|1|0"},
		{"pass 4", "", "|", "|(3 - c1)|4:0()()|7 -1|1|0"},
		{"ret", "n", "|9972", "|(3 - c1)||7 -1|1|1"},
	} {
		checkStepCase(t, c, "n")
	}
}

func TestStepTells(t *testing.T) {
	nine := strings.TrimSpace(strings.Repeat("9 ", 29))
	full := func(outs string, asked string, code string, held string) string {
		pc := "P"
		if len(strings.Fields(outs)) == 30 && code == "0" && held == "" {
			pc = "N"
		}
		return "0(5 -)|(3 - c1)|0:" + pc + "(4 - c2)(" + held + ")|" + outs + "|" + asked + "|" + code
	}
	for _, c := range []stepCase{
		{"say", "n", "|0", "|(3 - c1)|0:N(4 - c2)()|7 -1 0|1|0"}, {"say", "rany n", "|- 9972", "|(3 - c1)|0:N(4 - c2)(-)|7 -1 9972|1|0"},
		{"show", "rany", "|-", "|(3 - c1)|0:N(4 - c2)()|7 -1 -1|1|0"}, {"show", "rchip", "|c0", "|(3 - c1)|0:N(4 - c2)()|7 -1 -2|1|0"}, {"show", "n schip", "|5 c9972", "|(3 - c1)|0:N(4 - c2)(5)|7 -1 -9974|1|0"},
		{"show", "rany", "0(5 -)|@0", "0(5 -)|(3 - c1)|0:N(4 - c2)()|7 -1 9973|1|0"}, {"show", "s5", "0(5 -) 5(@0 -)|@1", "0(5 -) 5(@0 -)|(3 - c1)|0:N(4 - c2)()|7 -1 9977|1|0"},
		{"show", "r3", "7()|@0", "7()|(3 - c1)|0:N(4 - c2)()|7 -1 9980|1|0"},
		{"ask", "n", "|6", "|(3 - c1)|0:N(4 - c2)(0)|7 -1 6|2|0"},
		{"ask", "rany n", "|(3 - c1)|0:P(4 - c2)(c3 6)||0|0", "|(3 - c1)|0:N(4 - c2)(c3 8)|6|1|0"},
		{"ask", "n", "|(3 - c1)|0:P(4 - c2)(0)|1 2|2|0", "|(3 - c1)|0:N(4 - c2)(9972)|1 2 0|3|0"},
		{"ask", "n", "|(3 - c1)|0:P(4 - c2)(0)|1 2 3|3|0", "=8"},
		{"ask", "n", "|(3 - c1)|0:P(4 - c2)(0)|1 2 3 4|4|0", "=8"},
		{"ask", "n", "|(3 - c1)|0:P(4 - c2)(0)|1 2 3 4 5|5|0", "=8"},
		{"ask", "n", "|(3 - c1)|0:P(4 - c2)(0)|1 2 3 4 5 6 7|7|0", "=8"},
		{"say", "n", full(nine, "0", "0", "3"), full(nine+" 3", "0", "0", "")},
		{"say", "n", full(nine+" 1", "0", "0", "3"), "=7"},
		{"show", "rany", full(nine, "0", "0", "@0"), full(nine+" 9973", "0", "0", "")},
		{"show", "rany", full(nine+" 1", "0", "0", "@0"), "=7"},
		{"ask", "n", full(nine+" 1", "0", "0", "3"), "=7"},
		{"ask", "n", full(nine+" 1", "30", "0", "3"), "=7"},
		{"ask", "n", full(nine, "29", "0", "3"), "=8"},
		{"ask", "n", full(nine, "0", "0", "3"), "0(5 -)|(3 - c1)|0:N(4 - c2)(8)|" + nine + " 3|1|0"},
	} {
		checkStepCase(t, c, "rany")
	}
}

func TestStepHost(t *testing.T) {
	p := readProg(t, "fun n\nnum 1\nask\nret\n")
	from := meanOf(t, "|()|0:1()(1)||0|0")
	for _, n := range []int{0, 1, 9972} {
		checkStep(t, p, []int{n}, from, "|()|0:2()("+strconv.Itoa(n)+")|1|1|0")
	}
	for _, host := range [][]int{nil, {}, {-1}, {9973}, {math.MinInt}, {math.MaxInt}, {-1, 5}, {9973, 5}} {
		checkStep(t, p, host, from, "|()|0:1()(1)||0|8")
	}
	later := meanOf(t, "|()|0:1()(1)|6|1|0")
	checkStep(t, p, []int{-1, 5}, later, "|()|0:2()(5)|6 1|2|0")
	checkStep(t, p, []int{5}, later, "|()|0:1()(1)|6|1|8")
	// Room behind its end is none of host.
	checkStep(t, p, []int{5, 4, 3}[:1], later, "|()|0:1()(1)|6|1|8")
}

// deepText is a program whose functions call, pass on and return, with something held beneath.
const deepText = `group
box -
box 0
fun rany
num 3
chip
num 4
call 1
chip
drop
ret
fun n n
own rany
num 7
get 0
call 1
add
ret
fun rany
call 3
ret
fun rany
pass 4
fun s1
new 1
ret
`

func TestStepDeep(t *testing.T) {
	p := readProg(t, deepText)
	waiting := "|()|0:4()(c3) 1:3(4 -)(7) 1:3(5 -)(8) 1:3(6 c1)(9)"
	// With one frame less than the most a call begins the last one; with the most it ends.
	checkStep(t, p, nil, meanOf(t, "|()|0:4()(c3) 1:3(4 -)(7) 1:3(5 -)(8) 1:2(6 c1)(9 2)|1|0|0"), waiting+" 1:0(2 -)()|1|0|0")
	checkStep(t, p, nil, meanOf(t, waiting+" 1:2(2 -)(7 1)|1|0|0"), waiting+" 1:2(2 -)(7 1)|1|0|6")
	// What is held beneath a call is there behind the return, and what is returned on top of it.
	checkStep(t, p, nil, meanOf(t, waiting+" 1:4(2 -)(11)|1|0|0"), "|()|0:4()(c3) 1:3(4 -)(7) 1:3(5 -)(8) 1:3(6 c1)(9 11)|1|0|0")
	checkStep(t, p, nil, meanOf(t, "|()|0:4()(c3) 1:4(4 -)(7)||0|0"), "|()|0:4()(c3 7)||0|0")
	// To pass on is no frame more, so it goes with the most of them too.
	five := readProg(t, "fun rany\ncall 1\nret\nfun rany\ncall 1\nret\nfun rany\npass 3\nfun schip\nnum 0\nchip\nret\n")
	ahead := "|()|0:1()() 1:1()() 1:1()() 1:1()() "
	checkStep(t, five, nil, meanOf(t, ahead+"2:0()()||0|0"), ahead+"3:0()()||0|0")
	checkStep(t, five, nil, meanOf(t, ahead+"3:2()(c0)||0|0"), "|()|0:1()() 1:1()() 1:1()() 1:1()(c0)||0|0")
}

// TestStepPassesOn goes through a function that is passed on to and gives what is under what is waited for.
func TestStepPassesOn(t *testing.T) {
	p := readProg(t, deepText)
	states := []string{
		"|()|2:0()()||0|0",
		"|()|2:1()() 3:0()()||0|0",
		"|()|2:1()() 4:0()()||0|0",
		"1()|()|2:1()() 4:1()(@0)||0|0",
		"1()|()|2:1()(@0)||0|0",
		"1()|()|||0|1",
		"1()|()|||0|1",
	}
	for at, text := range states[:len(states)-1] {
		checkStep(t, p, nil, meanOf(t, text), states[at+1])
	}
}

// TestStepSeenThroughBoth puts into a thing that is named twice.
func TestStepSeenThroughBoth(t *testing.T) {
	p := readProg(t, "group\nbox - n! r0!\nrow - n!\nglob r0 r1\nfun n\nown r0 r1\nnum 5\nnull 0\nnew 0\nset 0\nget 0\nkeep 0\nget 0\nnum 9\nput 0 0\ntake 0\nlook 0 0\nsay\n"+
		"num 2\nnum 4\nrow 1\nset 1\nget 1\nkeep 1\ntake 1\nnum 1\nnum 8\nlay 1\nget 1\nnum 1\nat 1\nret\n")
	if got, want := meanText(impl.MeanRun(p, nil, 25)), "0(9 -) 1(4 8)|(@0 @1)|0:25(@0 @1)(8)|9|0|0"; got != want {
		t.Errorf("%s, not %s", got, want)
	}
	if got, want := meanText(impl.MeanRun(p, nil, 26)), "0(9 -) 1(4 8)|(@0 @1)||9|0|1"; got != want {
		t.Errorf("%s, not %s", got, want)
	}
}

// TestStepOfWhatHasEnded turns nothing.
func TestStepOfWhatHasEnded(t *testing.T) {
	p, at := aroundIns(t, "n r0", "new 0", "rany")
	for code := 1; code <= 8; code++ {
		text := strings.Replace("0(5 -)|(3 - c1)|0:P(4 - c2)(5 @0)|7 -1|1|", "P", strconv.Itoa(at), 1) + strconv.Itoa(code)
		if code == 1 {
			text = "0(5 -)|(3 - c1)||7 -1|1|1"
		}
		checkStep(t, p, meanHost(), meanOf(t, text), text)
	}
}

// okStates is a program, and states in which it can be.
func okStates(t *testing.T) (impl.Prog, []impl.Mean) {
	p := readProg(t, `group
box - n! s0!
row - r0!
group
box 0 n! s0! rany
glob n r0 rchip
fun rany
own n r0
num 1
num 2
call 1
call 2
drop
drop
sweep 0
null 0
ret
fun r0 n
own rany
num 1
call 1
ret
fun n r0
own n
num 3
pass 3
fun n n
num 4
num 5
call 3
add
ret
fun s2
null 2
sure
ret
`)
	var all []impl.Mean
	for _, text := range []string{
		"|(0 - -)|0:0(0 -)()||0|0",
		"|(9 - c4)|0:6(5 -)()||0|0",
		"0(1 @0) 2(3 @0 c5) 1() 1(@0 @1 - @0 @1 -) 1(-)|(9 @1 c4)|0:3(9972 @0)(1) 1:2(7 @4)() 1:0(8 c0)()|5 -4 88888|3|0",
		"0(1 @0)|(9 @0 -)|0:4(0 -)(1) 2:0(@0 3)()||0|7",
		"0(1 @0)|(9 @0 -)|0:4(0 -)(1) 3:3(0)(4) 3:3(1)(4) 3:3(2)(4) 3:3(3)(9 2)||0|6",
		"2(4 @0 @0)|(9 @0 -)|0:3(0 -)(1) 4:2()(@0)||0|2",
		"0(1 @0)|(9 @0 -)||1 2 3|2|1",
		"0(1 @0)|(9 @0 -)|0:8(0 -)(@0)||0|0",
	} {
		all = append(all, meanOf(t, text))
	}
	return p, all
}

func TestMeanOk(t *testing.T) {
	p, states := okStates(t)
	if fault := impl.CheckAll(p); fault != (impl.Fault{}) {
		t.Fatal(fault)
	}
	for _, m := range states {
		if !impl.MeanOk(p, m) {
			t.Errorf("not ok: %s", meanText(m))
		}
	}
	for outs := range 33 {
		for _, asked := range []int{-1, 0, 1, outs - 1, outs, outs + 1, 30, 31, math.MinInt, math.MaxInt} {
			m := turnedMean(states[0], func(m *impl.Mean) { m.Outs, m.Asked = many(outs, math.MinInt), asked })
			if got, want := impl.MeanOk(p, m), outs <= 30 && asked >= 0 && asked <= outs; got != want {
				t.Errorf("%d told, %d asked: %v", outs, asked, got)
			}
		}
	}
	for code := -2; code < 13; code++ {
		m := turnedMean(states[0], func(m *impl.Mean) { m.Code = code })
		if got, want := impl.MeanOk(p, m), code >= 0 && code <= 8 && code != 1; got != want {
			t.Errorf("code %d: %v", code, got)
		}
		m.Frames = nil
		if got := impl.MeanOk(p, m); got != (code == 1) {
			t.Errorf("code %d without a frame: %v", code, got)
		}
	}
}

// TestMeanOkBroken breaks one condition alone of a state that is ok.
func TestMeanOkBroken(t *testing.T) {
	p, states := okStates(t)
	full, deep := states[2], states[4]
	last := len(full.Frames) - 1
	for name, m := range map[string]impl.Mean{
		"a type below 0":              turnedMean(full, func(m *impl.Mean) { m.Things[2].Type = -1 }),
		"a type past the end":         turnedMean(full, func(m *impl.Mean) { m.Things[2].Type = 3 }),
		"a type far past the end":     turnedMean(full, func(m *impl.Mean) { m.Things[2].Type = math.MaxInt }),
		"a box with less":             turnedMean(full, func(m *impl.Mean) { m.Things[0].Vals = m.Things[0].Vals[:1] }),
		"a box with more":             turnedMean(full, func(m *impl.Mean) { m.Things[0].Vals = append(m.Things[0].Vals, number(0)) }),
		"a box with nothing":          turnedMean(full, func(m *impl.Mean) { m.Things[1].Vals = nil }),
		"a box with another sort":     turnedMean(full, func(m *impl.Mean) { m.Things[1].Vals[0] = none() }),
		"a box with none where sure":  turnedMean(full, func(m *impl.Mean) { m.Things[1].Vals[1] = none() }),
		"a box with a number past":    turnedMean(full, func(m *impl.Mean) { m.Things[1].Vals[0] = number(9973) }),
		"a box with what there isn't": turnedMean(full, func(m *impl.Mean) { m.Things[1].Vals[1] = thing(5) }),
		"a box with what is apart":    turnedMean(full, func(m *impl.Mean) { m.Things[0].Vals[1] = thing(2) }),
		"a row of seven":              turnedMean(full, func(m *impl.Mean) { m.Things[3].Vals = append(m.Things[3].Vals, none()) }),
		"a row with another sort":     turnedMean(full, func(m *impl.Mean) { m.Things[3].Vals[5] = number(0) }),
		"a row with a chip":           turnedMean(full, func(m *impl.Mean) { m.Things[4].Vals[0] = chip(0) }),
		"no shared":                   turnedMean(full, func(m *impl.Mean) { m.Glob = nil }),
		"one shared less":             turnedMean(full, func(m *impl.Mean) { m.Glob = m.Glob[:2] }),
		"one shared more":             turnedMean(full, func(m *impl.Mean) { m.Glob = append(m.Glob, none()) }),
		"shared of another sort":      turnedMean(full, func(m *impl.Mean) { m.Glob[2] = thing(0) }),
		"shared is no value":          turnedMean(full, func(m *impl.Mean) { m.Glob[1] = impl.Val{Kind: impl.ValNone, N: 1} }),
		"no frame":                    turnedMean(full, func(m *impl.Mean) { m.Frames = nil }),
		"ends fine with frames":       turnedMean(full, func(m *impl.Mean) { m.Code = impl.EndFine }),
		"six frames":                  turnedMean(deep, func(m *impl.Mean) { m.Frames = slices.Insert(m.Frames, 1, m.Frames[1]) }),
		"function below 0":            turnedMean(full, func(m *impl.Mean) { m.Frames[last].Fun = -1 }),
		"function past the end":       turnedMean(full, func(m *impl.Mean) { m.Frames[last].Fun = 5 }),
		"first function past the end": turnedMean(full, func(m *impl.Mean) { m.Frames[0].Fun = math.MaxInt }),
		"instruction below 0":         turnedMean(full, func(m *impl.Mean) { m.Frames[last].Pc = -1 }),
		"instruction past the end":    turnedMean(full, func(m *impl.Mean) { m.Frames[last].Pc = 3 }),
		"instruction past all":        turnedMean(full, func(m *impl.Mean) { m.Frames[0].Pc = math.MaxInt }),
		"one place less":              turnedMean(full, func(m *impl.Mean) { m.Frames[last].Locals = m.Frames[last].Locals[:1] }),
		"one place more":              turnedMean(full, func(m *impl.Mean) { m.Frames[0].Locals = append(m.Frames[0].Locals, none()) }),
		"place of another sort":       turnedMean(full, func(m *impl.Mean) { m.Frames[last].Locals[1] = number(1) }),
		"waiting place of another":    turnedMean(full, func(m *impl.Mean) { m.Frames[1].Locals[0] = none() }),
		"holds something":             turnedMean(full, func(m *impl.Mean) { m.Frames[last].Stack = values(number(1)) }),
		"holds less":                  turnedMean(deep, func(m *impl.Mean) { m.Frames[4].Stack = m.Frames[4].Stack[:1] }),
		"holds another sort":          turnedMean(deep, func(m *impl.Mean) { m.Frames[4].Stack[0] = none() }),
		"waits with one more":         turnedMean(full, func(m *impl.Mean) { m.Frames[0].Stack = append(m.Frames[0].Stack, none()) }),
		"waits with one less":         turnedMean(full, func(m *impl.Mean) { m.Frames[0].Stack = nil }),
		"waits with another sort":     turnedMean(full, func(m *impl.Mean) { m.Frames[0].Stack[0] = chip(1) }),
		"waits at the first":          turnedMean(full, func(m *impl.Mean) { m.Frames[1].Pc = 0 }),
		"waits behind no call":        turnedMean(full, func(m *impl.Mean) { m.Frames[1].Pc = 1 }),
		// It waits for a number there, and the next one gives a reference.
		"waits behind another call": turnedMean(full, func(m *impl.Mean) { m.Frames[0].Pc = 4 }),
		"the next gives too much":   meanOf(t, "|(0 - -)|1:2(7 -)() 0:0(0 -)()||0|0"),
		"thirty-one told":           turnedMean(full, func(m *impl.Mean) { m.Outs = many(31, 1) }),
		"asked below 0":             turnedMean(full, func(m *impl.Mean) { m.Asked = -1 }),
		"asked more than told":      turnedMean(full, func(m *impl.Mean) { m.Asked = 4 }),
		"code below 0":              turnedMean(full, func(m *impl.Mean) { m.Code = -1 }),
		"no room":                   turnedMean(full, func(m *impl.Mean) { m.Code = impl.EndRoom }),
		"form":                      turnedMean(full, func(m *impl.Mean) { m.Code = impl.EndForm }),
		"code of the greatest":      turnedMean(full, func(m *impl.Mean) { m.Code = math.MaxInt }),
		"nothing":                   {},
		"nothing but the code form": {Code: impl.EndForm},
	} {
		if impl.MeanOk(p, m) {
			t.Errorf("%s is ok: %s", name, meanText(m))
		}
		if plainMeanOk(p, m) {
			t.Errorf("%s is ok by the document's words: %s", name, meanText(m))
		}
		if got := impl.MeanStep(p, meanHost(), m); meanText(got) != "|()|||0|10" {
			t.Errorf("%s: a step goes to %s", name, meanText(got))
		}
	}
}

// TestMeanOkDoesNotHangOnReach has things that nothing names, and that must be right all the same.
func TestMeanOkDoesNotHangOnReach(t *testing.T) {
	p := readProg(t, "group\nbox - n\nfun n\nnum 1\nret\n")
	for text, want := range map[string]bool{"0(1)": true, "0(1) 0(2)": true, "0(1) 0()": false, "0(-)": false, "0(1) 1(1)": false, "0(c1)": false} {
		if got := impl.MeanOk(p, meanOf(t, text+"|()|0:0()()||0|0")); got != want {
			t.Errorf("%s: %v", text, got)
		}
	}
}

// sameTurns is a state with each one of its parts turned alone, and each of its lists longer or shorter by one.
func sameTurns(m impl.Mean) map[string]impl.Mean {
	all := map[string]impl.Mean{}
	turn := func(name string, turn func(m *impl.Mean)) {
		all[name] = turnedMean(m, turn)
	}
	lists := func(name string, list func(m *impl.Mean) *[]impl.Val) {
		for at := range *list(&m) {
			turn(name+" kind "+strconv.Itoa(at), func(m *impl.Mean) { (*list(m))[at].Kind++ })
			turn(name+" number "+strconv.Itoa(at), func(m *impl.Mean) { (*list(m))[at].N-- })
		}
		turn(name+" is longer", func(m *impl.Mean) { *list(m) = append(*list(m), impl.Val{}) })
		if many := len(*list(&m)); many > 0 {
			turn(name+" is shorter", func(m *impl.Mean) { *list(m) = (*list(m))[:many-1] })
		}
	}
	for at := range m.Things {
		name := "thing " + strconv.Itoa(at)
		turn(name+" type", func(m *impl.Mean) { m.Things[at].Type++ })
		lists(name, func(m *impl.Mean) *[]impl.Val { return &m.Things[at].Vals })
	}
	turn("things are more", func(m *impl.Mean) { m.Things = append(m.Things, impl.Thing{}) })
	turn("things are less", func(m *impl.Mean) { m.Things = m.Things[:len(m.Things)-1] })
	lists("shared", func(m *impl.Mean) *[]impl.Val { return &m.Glob })
	for at := range m.Frames {
		name := "frame " + strconv.Itoa(at)
		turn(name+" function", func(m *impl.Mean) { m.Frames[at].Fun++ })
		turn(name+" instruction", func(m *impl.Mean) { m.Frames[at].Pc++ })
		lists(name+" places", func(m *impl.Mean) *[]impl.Val { return &m.Frames[at].Locals })
		lists(name+" held", func(m *impl.Mean) *[]impl.Val { return &m.Frames[at].Stack })
	}
	turn("frames are more", func(m *impl.Mean) { m.Frames = append(m.Frames, impl.Frame{}) })
	turn("frames are less", func(m *impl.Mean) { m.Frames = m.Frames[:len(m.Frames)-1] })
	for at := range m.Outs {
		turn("told "+strconv.Itoa(at), func(m *impl.Mean) { m.Outs[at]++ })
	}
	turn("told more", func(m *impl.Mean) { m.Outs = append(m.Outs, 0) })
	turn("told less", func(m *impl.Mean) { m.Outs = m.Outs[:len(m.Outs)-1] })
	turn("asked", func(m *impl.Mean) { m.Asked++ })
	turn("code", func(m *impl.Mean) { m.Code++ })
	return all
}

func TestMeanSame(t *testing.T) {
	_, states := okStates(t)
	full := states[2]
	// What is told of any two holds of what is not ok too.
	odd := impl.Mean{Things: []impl.Thing{{Type: -7, Vals: values(impl.Val{Kind: 9, N: -9})}}, Frames: []impl.Frame{{Fun: -1, Pc: 99, Stack: values(none())}}, Outs: []int{1}, Asked: -5, Code: 77}
	for _, m := range append(states, odd, impl.Mean{}) {
		if !impl.MeanSame(m, m) || !impl.MeanSame(m, copyMean(m)) || !impl.MeanSame(copyMean(m), m) {
			t.Errorf("not the same as itself: %s", meanText(m))
		}
		for _, other := range append(states, odd, impl.Mean{}) {
			if got, want := impl.MeanSame(m, other), meanText(m) == meanText(other); got != want {
				t.Errorf("%s and %s: %v", meanText(m), meanText(other), got)
			}
		}
	}
	for _, m := range []impl.Mean{full, odd} {
		for name, turned := range sameTurns(m) {
			if impl.MeanSame(m, turned) || impl.MeanSame(turned, m) {
				t.Errorf("%s makes no difference", name)
			}
			if !impl.MeanSame(turned, copyMean(turned)) {
				t.Errorf("%s: not the same as itself", name)
			}
		}
	}
	empty := impl.Mean{Things: []impl.Thing{}, Glob: values(), Frames: []impl.Frame{}, Outs: []int{}}
	if !impl.MeanSame(empty, impl.Mean{}) || !impl.MeanSame(impl.Mean{}, empty) {
		t.Error("an empty list is not the nil list")
	}
	inner := impl.Mean{Things: []impl.Thing{{Vals: values()}}, Frames: []impl.Frame{{Locals: values(), Stack: values()}}}
	if !impl.MeanSame(inner, impl.Mean{Things: []impl.Thing{{}}, Frames: []impl.Frame{{}}}) {
		t.Error("an empty list is not the nil list inside")
	}
}

func TestMeanRunFuel(t *testing.T) {
	loop := readProg(t, "glob n\nfun n\ntake 0\nnum 1\nadd\nkeep 0\njump 0\n")
	for fuel, want := range map[int]string{
		0: "|(0)|0:0()()||0|0", 1: "|(0)|0:1()(0)||0|0", 5: "|(1)|0:0()()||0|0", 299: "|(60)|0:4()()||0|0", 300: "|(60)|0:0()()||0|0",
		-1: "|()|||0|10", 301: "|()|||0|10", math.MinInt: "|()|||0|10", math.MaxInt: "|()|||0|10",
	} {
		if got := meanText(impl.MeanRun(loop, nil, fuel)); got != want {
			t.Errorf("by %d: %s, not %s", fuel, got, want)
		}
	}
	// It ends when it ends, whatever fuel is left.
	short := readProg(t, "fun n\nnum 1\nret\n")
	for fuel, want := range map[int]string{0: "|()|0:0()()||0|0", 1: "|()|0:1()(1)||0|0", 2: "|()|||0|1", 3: "|()|||0|1", 300: "|()|||0|1", 301: "|()|||0|10"} {
		if got := meanText(impl.MeanRun(short, nil, fuel)); got != want {
			t.Errorf("by %d: %s, not %s", fuel, got, want)
		}
	}
}

// TestMeanRunByHand is whole programs, with what they come to.
func TestMeanRunByHand(t *testing.T) {
	for _, c := range []struct {
		text string
		host []int
		want string
	}{
		{"fun n\nnum 1\nask\nsay\nnum 2\nask\nret\n", []int{8}, "|()|0:4()(2)|1 8|1|8"},
		{"fun n\nnum 1\nask\nsay\nnum 2\nask\nret\n", []int{8, 7}, "|()||1 8 2|2|1"},
		{"fun n\ncall 0\nret\n", nil, "|()|0:1()() 0:1()() 0:1()() 0:1()() 0:0()()||0|6"},
		{"fun n\nnum 6\ncall 1\nsay\nnum 0\nret\nfun n n\nget 0\nif 4\nnum 1\nret\nget 0\nget 0\nnum 9972\nadd\npass 2\nfun n n n\nget 1\nif 4\nget 0\nret\nget 0\nget 1\nmul\nget 1\nnum 9972\nadd\npass 2\n", nil, "|()||720|0|1"},
		{"group\nbox - n r0!\nglob r0\nfun n\nown n\nget 0\ntake 0\nnew 0\nkeep 0\nget 0\nnum 1\nadd\nset 0\nget 0\nnum 3\nless\nif 0\ntake 0\nlook 0 1\nlook 0 0\nret\n", nil, "0(0 -) 0(1 @0) 0(2 @1)|(@2)||" + "|0|1"},
		{"group\nrow - rany!\nfun sany\nown r0\nnum 6\nnull any\nrow 0\nset 0\nget 0\nnum 5\nget 0\nlay 0\nget 0\nnum 5\nat 0\ncast 0\nret\n", nil, "0(- - - - - @0)|()||" + "|0|1"},
		{"glob n\nfun n\nnum 5\nkeep 0\nnum 0\ncall 1\ndrop\nnum 0\nret\nfun n n\ntake 0\nsay\nnum 6\nkeep 0\nnull any\nsure\ndrop\nnum 0\nret\n", nil, "|(6)|0:4()() 1:5(0)(-)|5|0|2"},
	} {
		p := readProg(t, c.text)
		got := impl.MeanRun(p, c.host, 300)
		if meanText(got) != c.want {
			t.Errorf("%q: %s, not %s", c.text, meanText(got), c.want)
		}
	}
}

// meanWalk goes step by step through a program, and calls see with each state and the one behind it.
func meanWalk(p impl.Prog, host []int, most int, see func(from impl.Mean, to impl.Mean)) impl.Mean {
	m := impl.MeanStart(p)
	for range most {
		next := impl.MeanStep(p, host, m)
		see(m, next)
		if next.Code != impl.EndGoes {
			return next
		}
		m = next
	}
	return m
}

// isAhead says whether a list is what another one begins with.
func isAhead(first []int, all []int) bool {
	return len(first) <= len(all) && slices.Equal(first, all[:len(first)])
}

// TestMeanPromise goes through programs made up at random: what is held is always of its sort, what was told stays told,
// and each step is that of the document's words.
func TestMeanPromise(t *testing.T) {
	r := rand.New(rand.NewSource(5))
	ends := map[int]int{}
	done := map[int]int{}
	for range 1000 {
		p, host := soundProg(r), someHost(r)
		if meanText(impl.MeanStart(p)) != meanText(plainStart(p)) {
			t.Fatalf("%q begins %s", impl.ProgText(p), meanText(impl.MeanStart(p)))
		}
		steps := 0
		last := meanWalk(p, host, 70, func(from impl.Mean, to impl.Mean) {
			steps++
			f := from.Frames[len(from.Frames)-1]
			if to.Code <= impl.EndFine {
				done[p.Funs[f.Fun].Body[f.Pc].Op]++
			}
			if want := plainStep(p, host, from); meanText(to) != meanText(want) {
				t.Fatalf("%q with %v: from %s to %s, not %s", impl.ProgText(p), host, meanText(from), meanText(to), meanText(want))
			}
			if !impl.MeanOk(p, to) || !plainMeanOk(p, to) {
				t.Fatalf("%q with %v: %s is not ok", impl.ProgText(p), host, meanText(to))
			}
			if !isAhead(from.Outs, to.Outs) || to.Asked < from.Asked || len(to.Things) < len(from.Things) {
				t.Fatalf("%q with %v: from %s to %s", impl.ProgText(p), host, meanText(from), meanText(to))
			}
		})
		if got := impl.MeanRun(p, host, steps); meanText(got) != meanText(last) {
			t.Fatalf("%q with %v by %d: %s, not %s", impl.ProgText(p), host, steps, meanText(got), meanText(last))
		}
		got := impl.MeanRun(p, host, 300)
		if ends[got.Code]++; !isAhead(last.Outs, got.Outs) || last.Code != impl.EndGoes && !impl.MeanSame(last, got) {
			t.Fatalf("%q with %v: %s, and behind that %s", impl.ProgText(p), host, meanText(last), meanText(got))
		}
	}
	// The programs are such that it is worth it: every end, and every instruction, is come to.
	for _, code := range []int{impl.EndGoes, impl.EndFine, impl.EndNone, impl.EndCast, impl.EndPlace, impl.EndLong, impl.EndDeep, impl.EndFull, impl.EndHost} {
		if ends[code] == 0 {
			t.Errorf("no program ends with %d", code)
		}
	}
	for op := impl.InsNum; op <= impl.InsSweep; op++ {
		if done[op] < 10 {
			t.Errorf("%d is done %d times", op, done[op])
		}
	}
}

// TestMeanMarred turns parts of states that programs are in, and holds what is left of them against the document's words.
func TestMeanMarred(t *testing.T) {
	r := rand.New(rand.NewSource(55))
	right, wrong := 0, 0
	for range 250 {
		p, host := soundProg(r), someHost(r)
		var states []impl.Mean
		meanWalk(p, host, 40, func(from impl.Mean, to impl.Mean) { states = append(states, from, to) })
		for range 25 {
			m := marredMean(r, states[r.Intn(len(states))])
			if r.Intn(3) == 0 {
				m = marredMean(r, m)
			}
			want := impl.Mean{Code: impl.EndForm}
			ok := plainMeanOk(p, m)
			if wrong++; ok {
				wrong, right = wrong-1, right+1
				want = plainStep(p, host, m)
			}
			if got := impl.MeanOk(p, m); got != ok {
				t.Fatalf("%q: %s: %v", impl.ProgText(p), meanText(m), got)
			}
			if got := impl.MeanStep(p, host, m); meanText(got) != meanText(want) {
				t.Fatalf("%q with %v: from %s to %s, not %s", impl.ProgText(p), host, meanText(m), meanText(got), meanText(want))
			}
		}
	}
	if right < 500 || wrong < 500 {
		t.Error(right, wrong)
	}
}

// TestMeanPrograms holds programs of all kinds, right and wrong, against whether they can go.
func TestMeanPrograms(t *testing.T) {
	r := rand.New(rand.NewSource(555))
	for i := range 600 {
		p := soundProg(r)
		switch i % 3 {
		case 0:
			p = marred(r, p)
		case 1:
			p = someProg(r)
		}
		if got, want := meanText(impl.MeanStart(p)), meanText(plainStart(p)); got != want {
			t.Fatalf("%v begins %s, not %s", p, got, want)
		}
		if got, want := impl.MeanRun(p, nil, 0), plainStart(p); !impl.MeanSame(got, want) {
			t.Fatalf("%v: %s, not %s", p, meanText(got), meanText(want))
		}
	}
}

// TestMeanTurnsNothing hands in what has room behind each list, and writes over all that is answered.
func TestMeanTurnsNothing(t *testing.T) {
	r := rand.New(rand.NewSource(5555))
	for range 120 {
		plain := soundProg(r)
		p, host := copyProg(plain), withRoom(someHost(r), 66)
		wholeProg, wholeHost := spreadProg(p), slices.Clone(host[:cap(host)])
		check := func(name string, got impl.Mean) {
			t.Helper()
			text := meanText(got)
			if kept := copyMean(got); scribble(got) {
				t.Fatalf("%s: two lists are one: %s", name, text)
			} else if meanText(kept) != text {
				t.Fatalf("%s: %s", name, text)
			}
			if !reflect.DeepEqual(spreadProg(p), wholeProg) || !slices.Equal(host[:cap(host)], wholeHost) {
				t.Fatalf("%s: what was handed in is turned", name)
			}
		}
		check("start", impl.MeanStart(p))
		fuel := r.Intn(120)
		check("run", impl.MeanRun(p, host, fuel))
		m := copyMean(impl.MeanRun(p, host, fuel))
		whole := spreadMean(m)
		for range 2 {
			check("step", impl.MeanStep(p, host, m))
			impl.MeanOk(p, m)
			impl.MeanSame(m, m)
			for _, v := range edgeVals() {
				impl.ValFits(p.Types, m.Things, v, ref(impl.OfAny))
				impl.ValTell(p.Types, m.Things, v)
			}
			if !reflect.DeepEqual(spreadMean(m), whole) || !reflect.DeepEqual(spreadProg(p), wholeProg) {
				t.Fatal("what was handed in is turned")
			}
		}
	}
}
