package tests

import (
	"fmt"
	"math"
	"math/rand"
	"reflect"
	"slices"
	"strings"
	"testing"

	"loop.example/lairage/impl"
)

// slimCase is what a function of slimWorld does, and what is come to, kept, and left of that; the empty text stands for all, and
// for what it does as it is.
type slimCase struct {
	body  string
	reach string
	keep  string
	slim  string
}

func checkSlimCases(t *testing.T, cases []slimCase) {
	t.Helper()
	for _, c := range cases {
		p := slimProgOf(t, c.body)
		if fault := plainAll(p); fault != (impl.Fault{}) {
			t.Fatalf("%s: %v", c.body, fault)
		}
		var all []int
		for pc := range p.Funs[0].Body {
			all = append(all, pc)
		}
		if c.reach == "" {
			c.reach = listText(all)
		}
		if c.keep == "" {
			c.keep = c.reach
		}
		if c.slim == "" {
			c.slim = c.body
		}
		if got := listText(impl.SlimReach(p, 0)); got != c.reach {
			t.Errorf("%s: %s are come to, not %s", c.body, got, c.reach)
		}
		if got := listText(impl.SlimKeep(p, 0)); got != c.keep {
			t.Errorf("%s: %s are kept, not %s", c.body, got, c.keep)
		}
		if got := insText(impl.SlimFun(p, 0)); got != c.slim {
			t.Errorf("%s: %s is left, not %s", c.body, got, c.slim)
		}
		if got := impl.SlimProg(p); !alike(got, withBody(p, 0, readBody(t, c.slim))) {
			t.Errorf("%s: %v is left of the program", c.body, got)
		}
		if listText(plainComeTo(p, 0)) != c.reach || listText(plainKept(p, 0)) != c.keep || insText(plainSlimFun(p, 0)) != c.slim {
			t.Errorf("%s: %v, %v, %s by the document's words", c.body, plainComeTo(p, 0), plainKept(p, 0), insText(plainSlimFun(p, 0)))
		}
	}
}

// readBody is instructions that are written with semicolons between.
func readBody(t *testing.T, text string) []impl.Ins {
	t.Helper()
	var body []impl.Ins
	for _, one := range strings.Split(text, "; ") {
		body = append(body, insOf(t, one))
	}
	return body
}

func TestSlimReach(t *testing.T) {
	checkSlimCases(t, []slimCase{
		{body: "jump 0"},
		{body: "num 0; ret"},
		{body: "get 0; get 1; get 2; pass 0"},
		// Forward, backward, and to itself.
		{body: "jump 1; num 0; ret"},
		{body: "jump 3; num 0; ret; jump 1"},
		{body: "jump 2; jump 4; num 1; if 1; num 0; ret"},
		{body: "num 1; say; jump 0"},
		{body: "sweep 0; jump 1"},
		{body: "jump 3; jump 1; jump 2; jump 2", reach: "0 2 3", slim: "jump 2; jump 1; jump 1"},
		// An if goes both ways.
		{body: "num 1; if 4; num 0; ret; num 2; ret"},
		{body: "num 1; if 2; num 0; ret"},
		{body: "num 1; if 0; jump 0"},
		{body: "num 0; if 3; jump 2; jump 3"},
		{body: "num 1; if 6; num 0; if 4; num 1; ret; num 2; ret"},
		// What nothing leads to: behind a jump, a pass and a return.
		{body: "jump 2; sweep 0; num 0; ret", reach: "0 2 3", slim: "jump 1; num 0; ret"},
		{body: "num 0; ret; sweep 1; num 1; ret", reach: "0 1", slim: "num 0; ret"},
		{body: "get 0; get 1; get 2; pass 0; num 1; ret", reach: "0 1 2 3", slim: "get 0; get 1; get 2; pass 0"},
		{body: "jump 0; jump 0; jump 1", reach: "0", slim: "jump 0"},
		{body: "num 1; if 5; num 0; ret; sweep 0; jump 0; jump 4", reach: "0 1 2 3 5", slim: "num 1; if 4; num 0; ret; jump 0"},
		// What only such instructions name, ahead and behind.
		{body: "num 0; ret; jump 5; sweep 0; jump 3; num 1; ret", reach: "0 1", slim: "num 0; ret"},
		{body: "num 0; ret; num 1; if 2; jump 6; sweep 0; num 1; ret", reach: "0 1", slim: "num 0; ret"},
		{body: "jump 4; sweep 0; num 0; ret; num 7; ret; jump 1", reach: "0 4 5", slim: "jump 1; num 7; ret"},
		// What is named twice, and what is come to by itself and by a jump, stands there once.
		{body: "num 1; if 4; num 2; if 4; num 0; ret"},
		{body: "num 1; if 6; num 2; if 6; num 0; ret; num 3; say; jump 4"},
	})
}

// TestSlimOfMost has functions of as many instructions as there may be.
func TestSlimOfMost(t *testing.T) {
	var up, back []string
	for pc := range 30 {
		up = append(up, fmt.Sprintf("jump %d", (pc+1)%30))
		back = append(back, fmt.Sprintf("jump %d", (pc+29)%30))
	}
	sweeps := strings.Repeat("sweep 0; ", 29)
	checkSlimCases(t, []slimCase{
		{body: strings.Join(up, "; ")},
		{body: strings.Join(back, "; ")},
		{body: sweeps + "jump 29"},
		{body: sweeps + "jump 0"},
		{body: strings.Repeat("sweep 1; ", 28) + "num 0; ret"},
		{body: strings.Repeat("jump 0; ", 29) + "jump 0", reach: "0", slim: "jump 0"},
		{body: strings.Repeat("jump 29; ", 29) + "jump 0", reach: "0 29", slim: "jump 1; jump 0"},
		{body: strings.Repeat("jump 29; ", 29) + "jump 29", reach: "0 29", slim: "jump 1; jump 1"},
		{body: "num 5; if 29; " + strings.Repeat("sweep 0; ", 25) + "num 0; ret; jump 27"},
		// And what need not be done among them.
		{body: strings.Repeat("num 1; drop; ", 14) + "num 0; ret", keep: "28 29", slim: "num 0; ret"},
		{body: "num 5; if 28; " + strings.Repeat("num 1; drop; ", 13) + "num 0; ret", keep: "0 1 28 29", slim: "num 5; if 2; num 0; ret"},
		{body: "num 0; " + strings.Repeat("num 1; drop; ", 14) + "ret", keep: "0 29", slim: "num 0; ret"},
	})
}

// TestSlimSure makes sure of what is surely there, and of what may be none.
func TestSlimSure(t *testing.T) {
	checkSlimCases(t, []slimCase{
		{body: "get 0; sure; show; num 0; ret", keep: "0 2 3 4", slim: "get 0; show; num 0; ret"},
		{body: "get 3; sure; show; num 0; ret"},
		{body: "get 4; sure; sure; show; num 0; ret", keep: "0 1 3 4 5", slim: "get 4; sure; show; num 0; ret"},
		{body: "null chip; sure; sure; sure; show; num 0; ret", keep: "0 1 4 5 6", slim: "null chip; sure; show; num 0; ret"},
		{body: "num 1; chip; sure; show; num 0; ret", keep: "0 1 3 4 5", slim: "num 1; chip; show; num 0; ret"},
		{body: "num 1; new 0; sure; show; num 0; ret", keep: "0 1 3 4 5", slim: "num 1; new 0; show; num 0; ret"},
		{body: "num 1; num 2; row 3; sure; show; num 0; ret", keep: "0 1 2 4 5 6", slim: "num 1; num 2; row 3; show; num 0; ret"},
		{body: "take 1; sure; show; take 2; sure; show; num 0; ret"},
		{body: "get 3; cast any; sure; show; num 0; ret", keep: "0 1 3 4 5", slim: "get 3; cast any; show; num 0; ret"},
		// The uppermost alone is asked.
		{body: "get 0; get 3; sure; same; say; num 0; ret"},
		{body: "get 3; get 0; sure; same; say; num 0; ret", keep: "0 1 3 4 5 6", slim: "get 3; get 0; same; say; num 0; ret"},
		{body: "get 3; sure; get 4; sure; same; say; num 0; ret"},
		// It is told by what stands ahead as it is written, not by what is come to.
		{body: "jump 4; get 3; sure; show; get 0; sure; show; num 0; ret", reach: "0 4 5 6 7 8", keep: "0 4 6 7 8", slim: "jump 1; get 0; show; num 0; ret"},
		{body: "num 0; ret; get 0; sure; show; num 0; ret", reach: "0 1", slim: "num 0; ret"},
	})
}

// castSorts is every sort that may be cast among the types of slimWorld.
func castSorts() []impl.Field {
	return allSorts(7)[1:]
}

// TestSlimCast casts what is of each sort to each of what a reference may be to.
func TestSlimCast(t *testing.T) {
	for _, of := range castSorts() {
		for to := impl.OfChip; to < 7; to++ {
			p := readProg(t, slimWorld+"fun n "+plainFieldText(of)+"\nget 0\ncast "+plainNumber(to)+"\nshow\nnum 0\nret\n")
			want := "0 1 2 3 4"
			if of.Kind == impl.FieldSure && (of.Of == to || to == impl.OfAny || slices.Contains(slimAbove()[of.Of], to)) {
				want = "0 2 3 4"
			}
			if got := listText(impl.SlimKeep(p, 0)); got != want {
				t.Errorf("%s cast to %d: %s are kept, not %s", plainFieldText(of), to, got, want)
			}
			if got := listText(plainKept(p, 0)); got != want {
				t.Errorf("%s cast to %d: %s are kept by the document's words", plainFieldText(of), to, got)
			}
		}
	}
}

// slimAbove has for types of slimWorld what else they are under.
func slimAbove() map[int][]int {
	return map[int][]int{1: {0}, 2: {1, 0}, 4: {5}, 5: {4}, 6: {5, 4}}
}

func TestSlimCastByHand(t *testing.T) {
	checkSlimCases(t, []slimCase{
		// The same, above, under, neither; place 0 is surely to 2, and place 1 to 0.
		{body: "get 0; cast 2; show; num 0; ret", keep: "0 2 3 4", slim: "get 0; show; num 0; ret"},
		{body: "get 0; cast 1; show; num 0; ret", keep: "0 2 3 4", slim: "get 0; show; num 0; ret"},
		{body: "get 0; cast 0; show; num 0; ret", keep: "0 2 3 4", slim: "get 0; show; num 0; ret"},
		{body: "get 0; cast any; show; num 0; ret", keep: "0 2 3 4", slim: "get 0; show; num 0; ret"},
		{body: "get 1; cast 2; show; num 0; ret"},
		{body: "get 1; cast 1; show; num 0; ret"},
		{body: "get 0; cast 3; show; num 0; ret"},
		{body: "get 0; cast chip; show; num 0; ret"},
		{body: "get 0; cast 4; show; num 0; ret"},
		// What may be none, though it is to what is the same or under.
		{body: "get 4; cast 1; show; num 0; ret"},
		{body: "get 4; cast 0; show; num 0; ret"},
		{body: "get 4; cast any; show; num 0; ret"},
		{body: "get 5; cast chip; show; num 0; ret"},
		{body: "get 3; cast any; show; num 0; ret"},
		// What was cast is what it was cast to.
		{body: "get 3; cast 0; cast 0; show; num 0; ret", keep: "0 1 3 4 5", slim: "get 3; cast 0; show; num 0; ret"},
		{body: "get 3; cast 2; cast 0; show; num 0; ret", keep: "0 1 3 4 5", slim: "get 3; cast 2; show; num 0; ret"},
		{body: "get 3; cast 0; cast 2; show; num 0; ret"},
		{body: "get 0; cast 0; cast 2; show; num 0; ret", keep: "0 2 3 4 5", slim: "get 0; cast 2; show; num 0; ret"},
		{body: "get 0; cast any; cast chip; show; num 0; ret", keep: "0 2 3 4 5", slim: "get 0; cast chip; show; num 0; ret"},
		{body: "get 4; sure; cast 0; show; num 0; ret", keep: "0 1 3 4 5", slim: "get 4; sure; show; num 0; ret"},
		{body: "num 1; chip; cast chip; back; say; num 0; ret", keep: "0 1 3 4 5 6", slim: "num 1; chip; back; say; num 0; ret"},
		// The uppermost alone is asked.
		{body: "get 0; get 3; cast 0; same; say; num 0; ret"},
		{body: "get 3; get 0; cast 0; same; say; num 0; ret", keep: "0 1 3 4 5 6", slim: "get 3; get 0; same; say; num 0; ret"},
		{body: "num 0; ret; get 0; cast 2; show; num 0; ret", reach: "0 1", slim: "num 0; ret"},
	})
}

// TestSlimDropped drops what an instruction gave that does nothing else.
func TestSlimDropped(t *testing.T) {
	for _, giver := range []string{"num 0", "num 9972", "get 0", "get 2", "get 5", "take 0", "take 2", "null any", "null chip", "null 0", "null 6"} {
		checkSlimCases(t, []slimCase{
			{body: giver + "; drop; num 0; ret", keep: "2 3", slim: "num 0; ret"},
			{body: "num 7; " + giver + "; drop; say; num 0; ret", keep: "0 3 4 5", slim: "num 7; say; num 0; ret"},
			{body: "num 0; " + giver + "; drop; ret", keep: "0 3", slim: "num 0; ret"},
			{body: "sweep 1; " + giver + "; drop; jump 0", keep: "0 3", slim: "sweep 1; jump 0"},
			// With others between.
			{body: giver + "; sweep 0; drop; num 0; ret"},
			{body: giver + "; num 6; say; drop; num 0; ret"},
			{body: giver + "; num 6; drop; drop; num 0; ret", keep: "0 3 4 5", slim: giver + "; drop; num 0; ret"},
			{body: giver + "; num 6; drop; sweep 1; drop; num 0; ret", keep: "0 3 4 5 6", slim: giver + "; sweep 1; drop; num 0; ret"},
			// One behind the other, and one within the other.
			{body: giver + "; drop; " + giver + "; drop; num 0; ret", keep: "4 5", slim: "num 0; ret"},
			{body: giver + "; " + giver + "; drop; drop; num 0; ret", keep: "0 3 4 5", slim: giver + "; drop; num 0; ret"},
			{body: giver + "; " + giver + "; " + giver + "; drop; drop; drop; num 0; ret", keep: "0 1 4 5 6 7", slim: giver + "; " + giver + "; drop; drop; num 0; ret"},
			{body: giver + "; " + giver + "; drop; " + giver + "; drop; drop; num 0; ret", keep: "0 5 6 7", slim: giver + "; drop; num 0; ret"},
			{body: giver + "; drop; " + giver + "; " + giver + "; drop; drop; num 0; ret", keep: "2 5 6 7", slim: giver + "; drop; num 0; ret"},
			// Where it is not come to.
			{body: "num 0; ret; " + giver + "; drop; jump 0", reach: "0 1", slim: "num 0; ret"},
			{body: "jump 3; " + giver + "; drop; num 0; ret", reach: "0 3 4", slim: "jump 1; num 0; ret"},
		})
	}
	checkSlimCases(t, []slimCase{
		{body: "num 1; get 0; drop; num 2; add; say; num 0; ret", keep: "0 3 4 5 6 7", slim: "num 1; num 2; add; say; num 0; ret"},
		{body: "num 1; num 2; add; drop; num 0; ret"},
		{body: "num 1; num 2; say; drop; num 0; ret"},
		{body: "num 1; num 2; keep 0; drop; num 0; ret"},
		{body: "num 5; ask; drop; num 0; ret"},
		{body: "get 0; get 1; get 2; call 0; drop; num 0; ret"},
		{body: "get 0; sure; drop; num 0; ret", keep: "0 2 3 4", slim: "get 0; drop; num 0; ret"},
		{body: "get 0; cast 0; drop; num 0; ret", keep: "0 2 3 4", slim: "get 0; drop; num 0; ret"},
		{body: "get 3; sure; drop; num 0; ret"},
		{body: "get 3; cast 0; drop; num 0; ret"},
	})
}

// TestSlimDropsOfOthers has each instruction of checkWorld that gives something right ahead of a drop.
func TestSlimDropsOfOthers(t *testing.T) {
	world := readProg(t, checkWorld)
	done := map[string]bool{}
	for _, row := range append(checkRows(), checkRow{"sure", "rany", "sany"}, checkRow{"sure", "r3", "s3"}) {
		if row.gives == "" {
			continue
		}
		var body []impl.Ins
		for _, f := range sortsOf(t, row.takes) {
			body = append(body, giving(f)...)
		}
		at := len(body)
		body = append(body, insOf(t, row.ins), ins(impl.InsDrop), ins(impl.InsNull, impl.OfAny), ins(impl.InsRet))
		p := withBody(world, 2, body)
		if fault := plainAll(p); fault != (impl.Fault{}) {
			t.Fatalf("%s: %v", row.ins, fault)
		}
		var want []int
		word := wordOf(body[at])
		for pc := range body {
			if only := word == "num" || word == "get" || word == "take" || word == "null"; !only || pc != at && pc != at+1 {
				want = append(want, pc)
			}
		}
		if got := impl.SlimKeep(p, 2); !slices.Equal(got, want) {
			t.Errorf("%s: %v are kept, not %v", insText(body), got, want)
		}
		done[word] = true
	}
	if len(done) != 21 {
		t.Error(len(done), done)
	}
}

// TestSlimDropThatIsJumpedTo has functions that are wrong, as something is held where they jump to.
func TestSlimDropThatIsJumpedTo(t *testing.T) {
	for body, fault := range map[string]impl.Fault{
		"jump 2; num 1; drop; num 0; ret":                 {Pc: 0, Code: 4},
		"num 0; if 3; num 1; drop; num 0; ret":            {Pc: 1, Code: 4},
		"num 1; drop; num 5; if 1; num 0; ret":            {Pc: 3, Code: 4},
		"num 1; num 2; drop; drop; jump 2":                {Pc: 4, Code: 4},
		"num 1; num 2; drop; drop; jump 3":                {Pc: 4, Code: 4},
		"num 0; ret; num 1; drop; jump 3":                 {Pc: 4, Code: 4},
		"get 0; sure; show; jump 1":                       {Pc: 3, Code: 4},
		"get 0; cast 0; show; num 1; if 1; num 0; ret":    {Pc: 4, Code: 4},
		"num 1; drop; jump 5; num 0; ret; get 0; drop":    {Pc: 6, Code: 6},
		"num 1; drop; num 0; num 0; ret":                  {Pc: 4, Code: 4},
		"num 1; drop; drop; num 0; ret":                   {Pc: 2, Code: 2},
		"num 1; drop; jump 6; num 0; ret":                 {Pc: 2, Code: 1},
		"num 0; ret; add; jump 0":                         {Pc: 2, Code: 2},
		"num 1; drop; get 0; ret":                         {Pc: 3, Code: 3},
		strings.Repeat("num 1; ", 9) + "drop; num 0; ret": {Pc: 8, Code: 5},
	} {
		p := slimProgOf(t, body)
		if got := plainAll(p); got != fault {
			t.Fatalf("%s: %v", body, got)
		}
		checkSlimNone(t, body, p, 0)
		checkSlimNothing(t, body, p)
	}
	// Where a jump leads to what gives it, both are still not kept.
	checkSlimCases(t, []slimCase{
		{body: "jump 1; num 1; drop; num 0; ret", keep: "0 3 4", slim: "jump 1; num 0; ret"},
		{body: "num 7; if 2; num 1; drop; num 0; ret", keep: "0 1 4 5", slim: "num 7; if 2; num 0; ret"},
		{body: "num 1; drop; num 7; if 0; num 0; ret", keep: "2 3 4 5", slim: "num 7; if 0; num 0; ret"},
		{body: "jump 3; num 0; ret; get 0; drop; jump 1", keep: "0 1 2 5", slim: "jump 3; num 0; ret; jump 1"},
	})
}

// checkSlimNone asks for all that is told of a function that is not there, or with which something is wrong.
func checkSlimNone(t *testing.T, name string, p impl.Prog, f int) {
	t.Helper()
	if reach, keep, body := impl.SlimReach(p, f), impl.SlimKeep(p, f), impl.SlimFun(p, f); len(reach) != 0 || len(keep) != 0 || len(body) != 0 {
		t.Errorf("%s, function %d: %v, %v, %v", name, f, reach, keep, body)
	}
	if plainSlims(p, f) || len(plainSlimFun(p, f)) != 0 {
		t.Errorf("%s, function %d: something by the document's words", name, f)
	}
}

// checkSlimNothing asks for all that is told of a program with which something is wrong.
func checkSlimNothing(t *testing.T, name string, p impl.Prog) {
	t.Helper()
	if one, all := impl.SlimProg(p), impl.SlimAll(p); !isNothing(one) || !isNothing(all) {
		t.Errorf("%s: %v, %v", name, one, all)
	}
}

func TestSlimJumps(t *testing.T) {
	checkSlimCases(t, []slimCase{
		// To what is kept, with nothing between, and with something.
		{body: "sweep 0; num 1; if 0; jump 1"},
		{body: "num 1; drop; sweep 0; num 1; if 2; jump 3", keep: "2 3 4 5", slim: "sweep 0; num 1; if 0; jump 1"},
		{body: "num 1; if 4; num 2; drop; num 0; ret", keep: "0 1 4 5", slim: "num 1; if 2; num 0; ret"},
		{body: "jump 3; num 0; ret; get 3; show; num 1; drop; jump 1", keep: "0 1 2 3 4 7", slim: "jump 3; num 0; ret; get 3; show; jump 1"},
		// To what is not kept: the first that is, behind it.
		{body: "jump 1; num 1; drop; get 0; drop; take 0; drop; null 0; drop; num 0; ret", keep: "0 9 10", slim: "jump 1; num 0; ret"},
		{body: "jump 5; num 1; drop; get 0; drop; take 0; drop; null 0; drop; num 0; ret", reach: "0 5 6 7 8 9 10", keep: "0 9 10", slim: "jump 1; num 0; ret"},
		{body: "num 1; if 5; num 2; drop; sweep 0; num 3; drop; num 0; ret", keep: "0 1 4 7 8", slim: "num 1; if 3; sweep 0; num 0; ret"},
		{body: "num 1; if 2; num 2; drop; sweep 0; num 3; drop; num 0; ret", keep: "0 1 4 7 8", slim: "num 1; if 2; sweep 0; num 0; ret"},
		{body: "num 1; if 4; num 0; ret; num 1; drop; jump 4", keep: "0 1 2 3 6", slim: "num 1; if 4; num 0; ret; jump 4"},
		// To the first instruction, kept or not, and to the last.
		{body: "num 1; drop; jump 0", keep: "2", slim: "jump 0"},
		{body: "num 1; drop; sweep 0; jump 0", keep: "2 3", slim: "sweep 0; jump 0"},
		{body: "sweep 0; num 1; drop; jump 0", keep: "0 3", slim: "sweep 0; jump 0"},
		{body: "num 1; drop; get 0; drop; num 5; if 0; num 7; drop; jump 2", keep: "4 5 8", slim: "num 5; if 0; jump 0"},
		{body: "num 5; if 4; num 0; drop; jump 0", keep: "0 1 4", slim: "num 5; if 2; jump 0"},
		{body: "num 5; if 2; num 0; drop; jump 4", keep: "0 1 4", slim: "num 5; if 2; jump 2"},
		{body: "jump 3; num 0; ret; jump 1"},
		// Backward over what is not kept, to itself even.
		{body: "sweep 0; num 1; drop; jump 1", keep: "0 3", slim: "sweep 0; jump 1"},
		{body: "sweep 0; num 1; drop; sweep 1; num 2; drop; jump 1", keep: "0 3 6", slim: "sweep 0; sweep 1; jump 1"},
		{body: "sweep 0; num 1; drop; sweep 1; num 2; drop; jump 4", keep: "0 3 6", slim: "sweep 0; sweep 1; jump 2"},
		{body: "sweep 0; num 1; drop; num 5; if 1; num 0; ret", keep: "0 3 4 5 6", slim: "sweep 0; num 5; if 1; num 0; ret"},
		// Over what is not come to, forward and backward.
		{body: "jump 3; num 0; ret; num 1; ret", reach: "0 3 4", slim: "jump 1; num 1; ret"},
		{body: "num 3; if 5; jump 0; num 0; ret; num 1; drop; jump 2", reach: "0 1 2 5 6 7", keep: "0 1 2 7", slim: "num 3; if 3; jump 0; jump 2"},
		{body: "jump 2; jump 9; sweep 0; jump 6; num 0; ret; sweep 1; num 1; if 2; jump 2", reach: "0 2 3 6 7 8 9", slim: "jump 1; sweep 0; jump 3; sweep 1; num 1; if 1; jump 1"},
		// Over a sure and a cast that are not kept.
		{body: "get 0; sure; cast 0; show; jump 5; num 1; if 0; jump 5", keep: "0 3 4 5 6 7", slim: "get 0; show; jump 3; num 1; if 0; jump 3"},
		// What else has a number is as it was.
		{body: "num 1; drop; num 3; say; get 2; say; take 0; keep 0; sweep 1; get 0; get 1; get 2; pass 0", keep: "2 3 4 5 6 7 8 9 10 11 12", slim: "num 3; say; get 2; say; take 0; keep 0; sweep 1; get 0; get 1; get 2; pass 0"},
		{body: "num 1; drop; get 0; look 2 1; say; get 0; test 5; say; num 4; set 2; null 3; len 3; say; num 0; ret", keep: "2 3 4 5 6 7 8 9 10 11 12 13 14", slim: "get 0; look 2 1; say; get 0; test 5; say; num 4; set 2; null 3; len 3; say; num 0; ret"},
	})
}

// Functions that are fine, and wrong ones; what need not be done is in all of them.
const (
	slimFine    = "fun n\nnum 1\ndrop\nnum 0\nret\n"
	slimPasses  = "fun n\nnum 1\ndrop\npass 0\n"
	slimLacks   = "fun n\nnum 1\ndrop\nadd\nret\n"
	slimNoEnd   = "fun n\nnum 1\ndrop\n"
	slimUnnamed = "fun n\nnum 1\ndrop\nget 5\nret\n"
	slimHolds   = "fun n\nnum 1\ndrop\nnum 2\nsay\njump 1\n"
)

// TestSlimFunsOfWrongProgs has a function that is wrong beside others: these alone are told.
func TestSlimFunsOfWrongProgs(t *testing.T) {
	for _, wrong := range []string{slimLacks, slimNoEnd, slimUnnamed, slimHolds} {
		for at := range 4 {
			funs := []string{slimFine, slimPasses, slimFine}
			funs = slices.Insert(funs, at, wrong)
			p := readProg(t, strings.Join(funs, ""))
			for f := range funs {
				if f == at {
					checkSlimNone(t, wrong, p, f)
					continue
				}
				left := map[string]string{slimFine: "num 0; ret", slimPasses: "pass 0"}[funs[f]]
				if got := insText(impl.SlimFun(p, f)); got != left || len(impl.SlimKeep(p, f)) != len(readBody(t, left)) || len(impl.SlimReach(p, f)) != len(p.Funs[f].Body) {
					t.Errorf("%q, function %d: %s", strings.Join(funs, ""), f, got)
				}
			}
			checkSlimNothing(t, wrong, p)
		}
	}
}

// TestSlimWhereThereIsNone asks of functions that are not there, and of programs that are not ok.
func TestSlimWhereThereIsNone(t *testing.T) {
	edges := []int{-1, -2, -5, math.MinInt, math.MaxInt, 1 << 32, -1 << 32, 31, 64}
	for many := 1; many <= 5; many++ {
		p := readProg(t, strings.Repeat(slimFine, many))
		for _, f := range append(edges, many, many+1, 5, 6) {
			checkSlimNone(t, fmt.Sprint(many, " functions"), p, f)
		}
		for f := range many {
			if got := insText(impl.SlimFun(p, f)); got != "num 0; ret" {
				t.Errorf("function %d of %d: %s", f, many, got)
			}
		}
	}
	for name, p := range badProgs() {
		for _, f := range append(edges, 0, 1, 2, 3, 4, 5) {
			checkSlimNone(t, name, p, f)
		}
		checkSlimNothing(t, name, p)
	}
	for name, p := range boundProgs() {
		if plainAll(p) != (impl.Fault{}) {
			checkSlimNothing(t, name, p)
		}
	}
	for name, p := range noGo(t) {
		if plainAll(p) != (impl.Fault{}) {
			checkSlimNothing(t, name, p)
			continue
		}
		// What takes something can not go, but nothing is wrong with it.
		if got := impl.SlimAll(p); !alike(got, p) {
			t.Errorf("%s: %v", name, got)
		}
	}
}

func TestSlimProg(t *testing.T) {
	before := slimWorld + `fun s0 n s1
own rany n rchip
num 1
drop
get 1
cast 0
ret
sweep 0
jump 5
fun n
num 7
say
null any
drop
jump 0
fun rany
own r0
get 0
ret
fun schip rchip
get 0
sure
sure
ret
fun n n n n
get 0
if 4
num 5
drop
get 1
get 2
null 6
drop
take 0
pass 4
`
	p := readProg(t, before)
	got := impl.SlimProg(p)
	want := slimWorld + `fun s0 n s1
own rany n rchip
get 1
ret
fun n
num 7
say
jump 0
fun rany
own r0
get 0
ret
fun schip rchip
get 0
sure
ret
fun n n n n
get 0
if 2
get 1
get 2
take 0
pass 4
`
	if plainText(got) != want || !alike(got, plainSlimProg(p)) {
		t.Errorf("%q is left", plainText(got))
	}
	if all := impl.SlimAll(p); plainText(all) != want {
		t.Errorf("%q is left in the end", plainText(all))
	}
	for f := range p.Funs {
		if !slices.Equal(got.Funs[f].Body, impl.SlimFun(p, f)) {
			t.Errorf("function %d: %v", f, got.Funs[f].Body)
		}
		own := withBody(p, f, got.Funs[f].Body).Funs[f]
		if !reflect.DeepEqual(bare(impl.Prog{Funs: []impl.Fun{own}}), bare(impl.Prog{Funs: got.Funs[f : f+1]})) {
			t.Errorf("function %d: %v", f, got.Funs[f])
		}
	}
}

// passesCase is what a function of slimWorld does, what is left in the end, and how many passes turn something.
type passesCase struct {
	body   string
	slim   string
	passes int
}

func TestSlimAll(t *testing.T) {
	for _, c := range []passesCase{
		{"num 0; ret", "num 0; ret", 0},
		{"jump 0", "jump 0", 0},
		{"num 0; ret; num 1; ret", "num 0; ret", 1},
		{"num 1; drop; num 0; ret", "num 0; ret", 1},
		{"num 1; drop; num 2; drop; num 0; ret", "num 0; ret", 1},
		{"get 0; sure; show; num 0; ret", "get 0; show; num 0; ret", 1},
		{"num 1; num 2; drop; drop; num 0; ret", "num 0; ret", 2},
		{"num 1; get 0; drop; null any; drop; drop; num 0; ret", "num 0; ret", 2},
		{"get 0; sure; drop; num 0; ret", "num 0; ret", 2},
		{"get 0; cast any; drop; num 0; ret", "num 0; ret", 2},
		{"get 0; cast 0; cast 2; show; num 0; ret", "get 0; show; num 0; ret", 2},
		{"get 3; cast 0; cast any; cast 0; show; num 0; ret", "get 3; cast 0; show; num 0; ret", 2},
		{"get 0; cast any; cast 3; show; num 0; ret", "get 0; cast 3; show; num 0; ret", 1},
		{"num 1; num 2; num 3; drop; drop; drop; num 0; ret", "num 0; ret", 3},
		{"get 0; cast 1; cast 2; sure; cast 0; cast 1; drop; num 0; ret", "num 0; ret", 3},
		{"get 0; cast any; cast 0; cast 2; drop; num 0; ret", "num 0; ret", 4},
		{"num 1; get 0; sure; drop; drop; num 0; ret", "num 0; ret", 3},
		{strings.Repeat("num 1; ", 8) + strings.Repeat("drop; ", 8) + "num 0; ret", "num 0; ret", 8},
		{strings.Repeat("num 1; ", 7) + "get 0; cast any; cast 2; " + strings.Repeat("drop; ", 8) + "num 0; ret", "num 0; ret", 10},
		{"num 1; num 2; drop; sweep 0; drop; num 0; ret", "num 1; sweep 0; drop; num 0; ret", 1},
		// Jumps stay right over all passes.
		{"num 5; if 6; num 1; num 2; drop; drop; num 3; num 4; drop; drop; num 0; ret", "num 5; if 2; num 0; ret", 2},
		{"num 1; num 2; drop; drop; num 5; if 0; num 1; num 2; drop; drop; jump 6", "num 5; if 0; jump 2", 2},
		{"jump 3; num 0; ret; get 0; cast any; drop; num 5; if 3; jump 1", "jump 3; num 0; ret; num 5; if 3; jump 1", 2},
		// What only ever drops something that was made, or asked for, is done.
		{"num 1; new 0; drop; num 5; ask; drop; get 3; sure; drop; num 0; ret", "num 1; new 0; drop; num 5; ask; drop; get 3; sure; drop; num 0; ret", 0},
	} {
		p := slimProgOf(t, c.body)
		got := impl.SlimAll(p)
		if insText(got.Funs[0].Body) != c.slim || !alike(got, withBody(p, 0, readBody(t, c.slim))) {
			t.Errorf("%s: %s is left in the end, not %s", c.body, insText(got.Funs[0].Body), c.slim)
		}
		if want, passes := plainSlimAll(p); passes != c.passes || !alike(got, want) {
			t.Errorf("%s: %v in %d passes by the document's words", c.body, want, passes)
		}
		one := p
		for range c.passes {
			one = impl.SlimProg(one)
		}
		if !alike(one, got) || !alike(impl.SlimProg(got), got) || !alike(impl.SlimAll(got), got) {
			t.Errorf("%s: %v behind %d passes, and %v in the end", c.body, one, c.passes, got)
		}
	}
}

// TestSlimAllOfFunctions has functions that want more passes than others.
func TestSlimAllOfFunctions(t *testing.T) {
	nest := func(deep int) string {
		return "fun n\n" + strings.Repeat("num 1\n", deep) + strings.Repeat("drop\n", deep) + "num 0\nret\n"
	}
	p := readProg(t, nest(0)+nest(3)+nest(1)+nest(8)+nest(2))
	want := readProg(t, strings.Repeat(nest(0), 5))
	if got := impl.SlimAll(p); !alike(got, want) {
		t.Error(plainText(got))
	}
	for pass := range 9 {
		if alike(p, want) != (pass == 8) {
			t.Errorf("behind %d passes: %s", pass, plainText(p))
		}
		p = impl.SlimProg(p)
	}
}

// TestSlimStays has programs in which all must be done.
func TestSlimStays(t *testing.T) {
	for _, text := range []string{
		"fun n\nnum 0\nret\n",
		"fun n\njump 0\n",
		"glob n\nfun n\ntake 0\nnum 1\nadd\nkeep 0\njump 0\n",
		"group\nbox - n r0!\nfun n\nown r0 n\nnum 7\nnull 0\nnew 0\nset 0\nget 0\nget 0\nput 0 1\nnum 3\nchip\nshow\nget 0\nshow\nget 0\nlook 0 1\nlook 0 0\nsay\nnum 0\nret\n",
		"fun n\nnum 6\ncall 1\nsay\nnum 0\nret\nfun n n\nget 0\nif 4\nnum 1\nret\nget 0\nget 0\nnum 9972\nadd\npass 2\nfun n n n\nget 1\nif 4\nget 0\nret\nget 0\nget 1\nmul\nget 1\nnum 9972\nadd\npass 2\n",
		"fun n\nnull any\nsure\ndrop\nnum 0\nret\n",
		"fun n\nnull any\ncast any\ndrop\nnum 0\nret\n",
		"fun n\ncall 0\ndrop\nnum 0\nret\n",
		checkWorld,
	} {
		p := readProg(t, text)
		if one, all := impl.SlimProg(p), impl.SlimAll(p); plainText(one) != text || plainText(all) != text {
			t.Errorf("%q: %q, %q", text, plainText(one), plainText(all))
		}
	}
}

// checkSlimWords holds all that is told of a program against the document's words.
func checkSlimWords(t *testing.T, p impl.Prog) int {
	t.Helper()
	for f := -1; f <= len(p.Funs); f++ {
		if got, want := impl.SlimReach(p, f), plainComeTo(p, f); !slices.Equal(got, want) {
			t.Fatalf("%v: function %d: %v are come to, not %v", p, f, got, want)
		}
		if got, want := impl.SlimKeep(p, f), plainKept(p, f); !slices.Equal(got, want) {
			t.Fatalf("%v: function %d: %v are kept, not %v", p, f, got, want)
		}
		if got, want := impl.SlimFun(p, f), plainSlimFun(p, f); !slices.Equal(got, want) {
			t.Fatalf("%v: function %d: %v is left, not %v", p, f, got, want)
		}
	}
	if got, want := impl.SlimProg(p), plainSlimProg(p); !alike(got, want) {
		t.Fatalf("%v: %v is left, not %v", p, got, want)
	}
	want, passes := plainSlimAll(p)
	if got := impl.SlimAll(p); !alike(got, want) {
		t.Fatalf("%v: %v is left in the end, not %v", p, got, want)
	}
	return passes
}

// TestSlimAgainstWords holds all functions against the words of the chapter, on programs in which much need not be done, and on
// such with one part turned.
func TestSlimAgainstWords(t *testing.T) {
	r := rand.New(rand.NewSource(11))
	passes, codes, gone := map[int]int{}, map[int]int{}, map[string]int{}
	for at := range 1200 {
		p := someWasteful(t, r)
		if fault := plainAll(p); fault != (impl.Fault{}) {
			t.Fatalf("%v: %v", p, fault)
		}
		if at%10 == 0 {
			p, _ = plainSlimAll(p)
		}
		for range at % 3 {
			p = marred(r, p)
		}
		fault := plainAll(p)
		codes[fault.Code]++
		many := checkSlimWords(t, p)
		if fault.Code != 0 {
			continue
		}
		passes[many]++
		for f := range p.Funs {
			come, kept := plainComeTo(p, f), plainKept(p, f)
			gone["not come to"] += len(p.Funs[f].Body) - len(come)
			for _, pc := range come {
				if i := p.Funs[f].Body[pc]; !slices.Contains(kept, pc) {
					gone[wordOf(i)]++
				} else if word := wordOf(i); (word == "jump" || word == "if") && !slices.Contains(kept, i.A) {
					gone["where it jumps to"]++
				}
			}
		}
	}
	// The programs are such that it is worth it.
	for code := range 8 {
		if codes[code] == 0 {
			t.Errorf("code %d is never told", code)
		}
	}
	for _, word := range []string{"not come to", "where it jumps to", "sure", "cast", "num", "get", "take", "null", "drop"} {
		if gone[word] < 50 {
			t.Errorf("%s is gone %d times only", word, gone[word])
		}
	}
	if passes[0] < 5 || passes[1] < 50 || passes[2] < 50 || passes[3] < 10 {
		t.Error(passes, gone)
	}
}

// slimmedMean is a state of a program as one of what is left of it: each frame is at the first instruction that is kept from
// where it was on.
func slimmedMean(p impl.Prog, m impl.Mean) impl.Mean {
	return turnedMean(m, func(m *impl.Mean) {
		for at := range m.Frames {
			f := &m.Frames[at]
			f.Pc = plainWhere(plainKept(p, f.Fun), f.Pc)
		}
	})
}

// TestSlimStepByStep goes through programs, and what is left of them, side by side: wherever an instruction is done that is kept,
// both do the same.
func TestSlimStepByStep(t *testing.T) {
	r := rand.New(rand.NewSource(111))
	both, alone := 0, 0
	ends := map[int]int{}
	for range 450 {
		p, host := someWasteful(t, r), someHost(r)
		q := impl.SlimProg(p)
		kept := make([][]int, len(p.Funs))
		for f := range p.Funs {
			kept[f] = impl.SlimKeep(p, f)
		}
		left := impl.MeanStart(q)
		last := meanWalk(p, host, 60, func(from impl.Mean, to impl.Mean) {
			f := from.Frames[len(from.Frames)-1]
			if !slices.Contains(kept[f.Fun], f.Pc) {
				if alone++; to.Code != impl.EndGoes || len(to.Things) != len(from.Things) || len(to.Outs) != len(from.Outs) || !slices.Equal(to.Glob, from.Glob) {
					t.Fatalf("%q with %v: from %s to %s, but that need not be done", impl.ProgText(p), host, meanText(from), meanText(to))
				}
				return
			}
			both++
			left = impl.MeanStep(q, host, left)
			if want := slimmedMean(p, to); meanText(left) != meanText(want) || !impl.MeanOk(q, want) {
				t.Fatalf("%q with %v: from %s to %s, and what is left of it to %s", impl.ProgText(p), host, meanText(from), meanText(to), meanText(left))
			}
		})
		ends[last.Code]++
	}
	if both < 5000 || alone < 1000 {
		t.Error(both, alone)
	}
	for _, code := range []int{impl.EndGoes, impl.EndFine, impl.EndNone, impl.EndCast, impl.EndPlace} {
		if ends[code] == 0 {
			t.Errorf("no program ends with %d", code)
		}
	}
}

// withoutFrames is a state without where its functions are.
func withoutFrames(m impl.Mean) string {
	m.Frames = nil
	return meanText(m)
}

// checkTold asks that what is left of a program, run as long, tells and ends as the program does, as far as that goes: it is at
// least as far.
func checkTold(t *testing.T, p impl.Prog, q impl.Prog, host []int, fuel int) {
	t.Helper()
	was, is := impl.MeanRun(p, host, fuel), impl.MeanRun(q, host, fuel)
	if was.Code != impl.EndGoes && withoutFrames(was) != withoutFrames(is) || !isAhead(was.Outs, is.Outs) || was.Asked > is.Asked {
		t.Fatalf("%q with %v by %d: %s; what is left is %q: %s", impl.ProgText(p), host, fuel, meanText(was), impl.ProgText(q), meanText(is))
	}
}

// TestSlimPromise is the promise: what is left of a program is not wrong, takes and gives the same, and tells the same, as it
// means and on a heap.
func TestSlimPromise(t *testing.T) {
	r := rand.New(rand.NewSource(1111))
	ends, engines, fewer := map[int]int{}, map[int]int{}, 0
	for range 500 {
		p, host := someWasteful(t, r), someHost(r)
		want := impl.MeanRun(p, host, 300)
		ends[want.Code]++
		for _, q := range []impl.Prog{impl.SlimProg(p), impl.SlimAll(p)} {
			checkSlimForm(t, p, q)
			for _, fuel := range []int{300, r.Intn(301), r.Intn(30)} {
				checkTold(t, p, q, host, fuel)
			}
			for range 3 {
				plan := somePlan(r)
				e := impl.EngineRun(q, plan, host, 300)
				engines[e.Code]++
				switch {
				case !impl.EngineOk(q, e):
					t.Fatalf("%q by %v: not ok: %s", impl.ProgText(q), plan, engineText(e))
				case e.Code == impl.EndRoom:
					// It may have told more than the program in as many steps, but nothing else.
					if !isAhead(e.Outs, want.Outs) && !isAhead(want.Outs, e.Outs) {
						t.Fatalf("%q by %v with %v: %s, not %s", impl.ProgText(q), plan, host, engineText(e), meanText(want))
					}
				case want.Code != impl.EndGoes && (e.Code != want.Code || !slices.Equal(e.Outs, want.Outs) || e.Asked != want.Asked), !isAhead(want.Outs, e.Outs):
					t.Fatalf("%q by %v with %v: %s, not %s", impl.ProgText(q), plan, host, engineText(e), meanText(want))
				}
			}
		}
		if is := impl.SlimAll(p); !alike(is, p) {
			fewer++
		}
	}
	for _, code := range []int{impl.EndGoes, impl.EndFine, impl.EndNone, impl.EndCast, impl.EndPlace, impl.EndFull, impl.EndHost} {
		if ends[code] == 0 || engines[code] == 0 {
			t.Errorf("no program ends with %d", code)
		}
	}
	if fewer < 400 || engines[impl.EndRoom] < 50 {
		t.Error(fewer, engines)
	}
}

// checkSlimForm asks that what is left of a program is not wrong, and is the same but for what its functions do.
func checkSlimForm(t *testing.T, p impl.Prog, q impl.Prog) {
	t.Helper()
	if !impl.ProgOk(q) || impl.CheckAll(q) != (impl.Fault{}) || plainAll(q) != (impl.Fault{}) {
		t.Fatalf("%q is left of %q, and wrong: %v", impl.ProgText(q), impl.ProgText(p), impl.CheckAll(q))
	}
	own := bare(p)
	for f := range own.Funs {
		if own.Funs[f].Body = q.Funs[f].Body; len(q.Funs[f].Body) > len(p.Funs[f].Body) {
			t.Fatalf("%q is left of %q", impl.ProgText(q), impl.ProgText(p))
		}
	}
	if !alike(own, q) {
		t.Fatalf("%q is left of %q", impl.ProgText(q), impl.ProgText(p))
	}
}

// TestSlimRoom gives what is left of a program just as many words as the program needs.
func TestSlimRoom(t *testing.T) {
	r := rand.New(rand.NewSource(11111))
	enough := 0
	for range 200 {
		p, host := someWasteful(t, r), someHost(r)
		want := impl.MeanRun(p, host, 300)
		most, _ := peak(p, host)
		if want.Code == impl.EndGoes || most == 0 || most > impl.OldMost {
			continue
		}
		enough++
		q := impl.SlimAll(p)
		for range 4 {
			plan := somePlan(r)
			plan.Old = most
			if e := impl.EngineRun(q, plan, host, 300); e.Code != want.Code || !slices.Equal(e.Outs, want.Outs) || e.Asked != want.Asked {
				t.Fatalf("%q by %v with %v: %s, not %s", impl.ProgText(q), plan, host, engineText(e), meanText(want))
			}
		}
	}
	if enough < 50 {
		t.Error(enough)
	}
}

// TestSlimPadded pads a function, ahead of all that it does, with a number that is held and dropped, and behind its end with what
// is never come to.
func TestSlimPadded(t *testing.T) {
	r := rand.New(rand.NewSource(111111))
	padded := 0
	for range 800 {
		p := someWasteful(t, r)
		f := r.Intn(len(p.Funs))
		ahead, behind := []impl.Ins{ins(impl.InsNum, r.Intn(impl.NumMod)), ins(impl.InsDrop)}, someTail(r, p, f)
		body := p.Funs[f].Body
		if len(ahead)+len(body)+len(behind) > impl.BodyMost {
			continue
		}
		padded++
		for _, past := range []bool{false, true} {
			q := withBody(p, f, append(inserted(body, 0, ahead, past), behind...))
			if plainAll(q) != (impl.Fault{}) {
				t.Fatalf("%q is wrong", impl.ProgText(q))
			}
			if got, want := impl.SlimFun(q, f), impl.SlimFun(p, f); !slices.Equal(got, want) || len(got) == 0 {
				t.Fatalf("%q: function %d: %s, not %s", impl.ProgText(q), f, insText(got), insText(want))
			}
			if got, want := impl.SlimAll(q), impl.SlimAll(p); !alike(got, want) {
				t.Fatalf("%q: %q, not %q", impl.ProgText(q), impl.ProgText(got), impl.ProgText(want))
			}
		}
	}
	if padded < 80 {
		t.Error(padded)
	}
}

// TestSlimOwnBodyAlone turns what the others do, so that it is wrong even: what is taken from a function is the same.
func TestSlimOwnBodyAlone(t *testing.T) {
	r := rand.New(rand.NewSource(1111111))
	wrong := 0
	for range 250 {
		p := someWasteful(t, r)
		own := r.Intn(len(p.Funs))
		q := copyProg(p)
		for f := range q.Funs {
			if f != own {
				q.Funs[f].Body = [][]impl.Ins{many(1+r.Intn(30), ins(impl.InsAdd)), many(1+r.Intn(30), ins(impl.InsJump)), shortened(p, f, 0)}[r.Intn(3)]
			}
		}
		if impl.CheckAll(q) != (impl.Fault{}) {
			wrong++
		}
		if !slices.Equal(impl.SlimReach(p, own), impl.SlimReach(q, own)) || !slices.Equal(impl.SlimKeep(p, own), impl.SlimKeep(q, own)) || !slices.Equal(impl.SlimFun(p, own), impl.SlimFun(q, own)) {
			t.Fatalf("%v and %v: function %d: %s, then %s", p, q, own, insText(impl.SlimFun(p, own)), insText(impl.SlimFun(q, own)))
		}
	}
	if wrong < 50 {
		t.Error(wrong)
	}
}

// TestSlimOfAnyProgs holds all functions against the words of the chapter on programs of all kinds, right and wrong.
func TestSlimOfAnyProgs(t *testing.T) {
	r := rand.New(rand.NewSource(112))
	for range 300 {
		checkSlimWords(t, someProg(r))
		checkSlimWords(t, someGoing(r))
	}
	for _, p := range boundProgs() {
		checkSlimWords(t, p)
	}
}

// TestSlimTurnsNothing hands in what has room behind each list, and writes over all that is answered.
func TestSlimTurnsNothing(t *testing.T) {
	r := rand.New(rand.NewSource(113))
	answers := 0
	for at := range 150 {
		p := copyProg(someWasteful(t, r))
		switch at % 5 {
		case 0:
			p = copyProg(marred(r, p))
		case 1:
			p = copyProg(impl.SlimAll(p))
		}
		whole := spreadProg(p)
		ask := func() ([][]int, [][]impl.Ins, []impl.Prog) {
			var places [][]int
			var bodies [][]impl.Ins
			for f := -1; f <= len(p.Funs); f++ {
				places = append(places, impl.SlimReach(p, f), impl.SlimKeep(p, f))
				bodies = append(bodies, impl.SlimFun(p, f))
			}
			return places, bodies, []impl.Prog{impl.SlimProg(p), impl.SlimAll(p)}
		}
		text := fmt.Sprint(ask())
		places, bodies, progs := ask()
		if scribbleLists(places, func(list int, at int) int { return 1000*list + at }) || scribbleLists(bodies, func(list int, at int) impl.Ins { return impl.Ins{Op: 1000 * list, A: at} }) {
			t.Fatalf("two answers are one: %s", text)
		}
		for _, one := range progs {
			if answers += len(one.Funs); scribbleProg(one) {
				t.Fatalf("two lists are one: %s", text)
			}
		}
		if !reflect.DeepEqual(spreadProg(p), whole) {
			t.Fatalf("what was handed in is turned: %s", text)
		}
		if got := fmt.Sprint(ask()); got != text {
			t.Fatalf("%s, and then %s", text, got)
		}
	}
	if answers < 300 {
		t.Error(answers)
	}
}
