package tests

import (
	"math"
	"math/rand"
	"reflect"
	"slices"
	"strings"
	"testing"

	"loop.example/lairage/impl"
)

// expectIns holds what is told of an instruction in a function against sorts and a code.
func expectIns(t *testing.T, p impl.Prog, f int, stack string, text string, want string, code int) {
	t.Helper()
	got, told := impl.CheckIns(p, f, sortsOf(t, stack), insOf(t, text))
	if sortsText(got) != want || told != code {
		t.Errorf("%q on %q in %d: %q, %d, not %q, %d", text, stack, f, sortsText(got), told, want, code)
	}
}

// join is two texts of sorts, one behind the other.
func join(a string, b string) string {
	return strings.TrimSpace(a + " " + b)
}

func TestCheckConstants(t *testing.T) {
	got := []int{impl.CheckFine, impl.CheckName, impl.CheckLack, impl.CheckSort, impl.CheckRest, impl.CheckDeep, impl.CheckEnd, impl.CheckForm, impl.StackMost}
	if !slices.Equal(got, []int{0, 1, 2, 3, 4, 5, 6, 7, 8}) {
		t.Error(got)
	}
}

func TestCheckSlots(t *testing.T) {
	p := readProg(t, checkWorld)
	for f, want := range []string{"s1 rany n n r3 rchip", "", "r0 n rany", ""} {
		if got := sortsText(impl.CheckSlots(p, f)); got != want {
			t.Errorf("places of %d: %q, not %q", f, got, want)
		}
	}
	for _, f := range []int{-1, 4, 5, math.MinInt, math.MaxInt} {
		if got := impl.CheckSlots(p, f); len(got) != 0 {
			t.Errorf("places of %d: %v", f, got)
		}
	}
	for name, bad := range badProgs() {
		if got := impl.CheckSlots(bad, 0); len(got) != 0 {
			t.Errorf("places, %s: %v", name, got)
		}
	}
}

// TestCheckRows holds each row of the table with just what it takes, with less, with more beneath, and with a sort of every kind at each place.
func TestCheckRows(t *testing.T) {
	p := readProg(t, checkWorld)
	for _, row := range checkRows() {
		expectIns(t, p, 2, row.takes, row.ins, row.gives, 0)
		takes := strings.Fields(row.takes)
		for from := range takes {
			expectIns(t, p, 2, strings.Join(takes[from+1:], " "), row.ins, "", impl.CheckLack)
		}
		for _, beneath := range []string{"n", "rany", "s4 n", "n n n n"} {
			if clearing(row.ins) {
				expectIns(t, p, 2, join(beneath, row.takes), row.ins, "", impl.CheckRest)
			} else {
				expectIns(t, p, 2, join(beneath, row.takes), row.ins, join(beneath, row.gives), 0)
			}
		}
		for at := range takes {
			for _, f := range allSorts(7) {
				turned := slices.Clone(takes)
				turned[at] = plainFieldText(f)
				if !plainFieldUnder(p.Types, f, knownFieldTexts[takes[at]]) {
					expectIns(t, p, 2, strings.Join(turned, " "), row.ins, "", impl.CheckSort)
				} else {
					expectIns(t, p, 2, strings.Join(turned, " "), row.ins, row.gives, 0)
				}
			}
		}
	}
}

func TestCheckRowsAreAll(t *testing.T) {
	left := map[string]bool{"drop": true, "sure": true}
	for _, row := range checkRows() {
		word, _, _ := strings.Cut(row.ins, " ")
		left[word] = true
	}
	if len(left) != 33 {
		t.Error(len(left))
	}
}

// TestCheckDropAndSure are the two that hang on what is there.
func TestCheckDropAndSure(t *testing.T) {
	p := readProg(t, checkWorld)
	expectIns(t, p, 2, "", "drop", "", impl.CheckLack)
	expectIns(t, p, 2, "", "sure", "", impl.CheckLack)
	expectIns(t, p, 2, "n", "sure", "", impl.CheckSort)
	expectIns(t, p, 2, "r0 n", "sure", "", impl.CheckSort)
	for _, f := range allSorts(7) {
		text := plainFieldText(f)
		expectIns(t, p, 2, text, "drop", "", 0)
		expectIns(t, p, 2, "n r3 "+text, "drop", "n r3", 0)
		if f.Kind != impl.FieldNum {
			expectIns(t, p, 2, text, "sure", "s"+text[1:], 0)
			expectIns(t, p, 2, "n rany "+text, "sure", "n rany s"+text[1:], 0)
		}
	}
}

func TestCheckNames(t *testing.T) {
	p := readProg(t, checkWorld)
	for _, text := range checkNameless() {
		for _, stack := range []string{"", "n", "rany", "r0 n s1", "r2 s0", "n n n n n n n n"} {
			expectIns(t, p, 2, stack, text, "", impl.CheckName)
		}
	}
	// What one function may name another may not: places and instructions are each function's own.
	expectIns(t, p, 0, "", "get 5", "rchip", 0)
	expectIns(t, p, 1, "", "get 0", "", impl.CheckName)
	expectIns(t, p, 3, "n", "set 0", "", impl.CheckName)
	expectIns(t, p, 1, "", "jump 2", "", 0)
	expectIns(t, p, 0, "", "jump 2", "", impl.CheckName)
	expectIns(t, p, 0, "n", "if 2", "", impl.CheckName)
	small := readProg(t, "fun n\nnum 1\nret\n")
	for _, text := range []string{"null 0", "test 0", "cast 0", "new 0", "look 0 0", "put 0 0", "row 0", "at 0", "lay 0", "len 0", "take 0", "keep 0", "get 0", "set 0", "call 1", "pass 1"} {
		expectIns(t, small, 0, "n n n", text, "", impl.CheckName)
	}
	// What names nothing asks for nothing to be there.
	for _, row := range append(checkRows(), checkRow{"sure", "rany", "sany"}, checkRow{"drop", "rany", ""}) {
		if i := insOf(t, row.ins); i.A < 0 || impl.InsHas(i.Op) == 0 && i.Op != impl.InsRet || i.Op == impl.InsSweep {
			expectIns(t, small, 0, row.takes, row.ins, row.gives, 0)
		}
	}
	expectIns(t, small, 0, "n", "ret", "", 0)
}

// TestCheckEveryInstruction holds every instruction that is ok against the words of the chapter.
func TestCheckEveryInstruction(t *testing.T) {
	p := readProg(t, checkWorld)
	stacks := []string{"", "n", "rany", "rchip", "schip", "r0", "s1", "n n", "r0 n", "r3 n", "r5 n r3", "s4 n s1", "rany rany", "s0 rchip n s2", "s1 r0 n", "n n n n n n n n", "r2 s0 rchip n r2"}
	for _, i := range knownInsTexts {
		// All numbers below NumMod are held alike, and there are many.
		if i.Op == impl.InsNum && i.A%500 != 0 {
			continue
		}
		for _, stack := range stacks {
			for f := range p.Funs {
				held := sortsOf(t, stack)
				got, code := impl.CheckIns(p, f, held, i)
				want, right := plainBehind(p, f, held, i)
				if !slices.Equal(got, want) || code != right {
					t.Fatalf("%v on %q in %d: %v, %d, not %v, %d", i, stack, f, got, code, want, right)
				}
			}
		}
	}
}

// TestCheckFirstCode has two things wrong at once: the one that is listed first is told.
func TestCheckFirstCode(t *testing.T) {
	p := readProg(t, checkWorld)
	for _, c := range []struct {
		f     int
		stack string
		ins   string
		code  int
	}{
		{2, "", "put 0 0", impl.CheckName},              // and less is held
		{2, "n n", "put 0 0", impl.CheckName},           // and it does not fit
		{2, "n", "jump 4", impl.CheckName},              // and something is beneath
		{2, "rany", "if 4", impl.CheckName},             // and it does not fit
		{2, "n n n n n n n n", "get 3", impl.CheckName}, // and it is too much
		{2, "", "pass 4", impl.CheckName},
		{2, "rany", "add", impl.CheckLack},     // and it does not fit
		{2, "n", "lay 4", impl.CheckLack},      // and it does not fit
		{1, "", "pass 0", impl.CheckLack},      // and it gives something else
		{1, "n n", "pass 0", impl.CheckLack},   // and it does not fit
		{2, "r0", "call 2", impl.CheckLack},    // and it does not fit
		{2, "rany n", "ret", impl.CheckSort},   // and something is beneath
		{2, "n rany", "if 0", impl.CheckSort},  // and something is beneath
		{2, "n n n", "pass 2", impl.CheckSort}, // and something is beneath
		{1, "r0 n", "pass 2", impl.CheckSort},  // what it gives is wider
		{1, "n r0 n", "pass 2", impl.CheckSort},
		{1, "n n n n n n n n", "num 1", impl.CheckDeep},
		{1, "n n n n n n n n", "jump 0", impl.CheckRest},
		{1, "n n n n n n n n", "call 1", impl.CheckDeep},
		{1, "n n n n n n n n", "pass 1", impl.CheckRest},
	} {
		expectIns(t, p, c.f, c.stack, c.ins, "", c.code)
	}
}

// TestCheckDeep holds just as much as may be, and one more.
func TestCheckDeep(t *testing.T) {
	p := readProg(t, checkWorld)
	seven, eight := strings.TrimSpace(strings.Repeat("n ", 7)), strings.TrimSpace(strings.Repeat("n ", 8))
	for _, c := range [][2]string{{"num 1", "n"}, {"get 0", "r0"}, {"take 0", "n"}, {"null any", "rany"}, {"new 6", "s6"}, {"call 1", "s0"}} {
		expectIns(t, p, 2, seven, c[0], seven+" "+c[1], 0)
		expectIns(t, p, 2, eight, c[0], "", impl.CheckDeep)
		expectIns(t, p, 2, eight+" n", c[0], "", impl.CheckForm)
	}
	expectIns(t, p, 2, eight, "ask", eight, 0)
	expectIns(t, p, 2, eight, "chip", seven+" schip", 0)
	expectIns(t, p, 2, eight, "new 0", seven+" s0", 0)
	expectIns(t, p, 2, eight, "add", seven, 0)
	expectIns(t, p, 2, eight, "drop", seven, 0)
	expectIns(t, p, 2, eight, "sweep 1", eight, 0)
	for _, text := range []string{"ask", "add", "drop", "sweep 1", "jump 0", "jump 29", "new 7"} {
		expectIns(t, p, 2, eight+" n", text, "", impl.CheckForm)
		expectIns(t, p, 2, eight+" "+eight, text, "", impl.CheckForm)
	}
}

// TestCheckForm asks about what is not written right.
func TestCheckForm(t *testing.T) {
	p := readProg(t, checkWorld)
	form := func(p impl.Prog, f int, stack []impl.Field, i impl.Ins, why string) {
		t.Helper()
		if got, code := impl.CheckIns(p, f, stack, i); len(got) != 0 || code != impl.CheckForm {
			t.Errorf("%s: %v, %d", why, got, code)
		}
	}
	sweep := ins(impl.InsSweep)
	for _, f := range []int{-1, 4, 5, -4, math.MinInt, math.MaxInt} {
		form(p, f, nil, sweep, "no function")
	}
	for _, wrong := range sorts(ref(7), sure(7), ref(8), ref(-3), impl.Field{}, impl.Field{Kind: 4}, impl.Field{Kind: -1}, impl.Field{Kind: 1, Of: 1}, impl.Field{Kind: 1, Of: -1}, mut(num()), mut(ref(0)), mut(sure(impl.OfAny)), ref(math.MaxInt), ref(math.MinInt)) {
		form(p, 2, sorts(wrong), sweep, "alone on the stack: "+plainFieldText(wrong))
		form(p, 2, sorts(wrong, num()), sweep, "beneath: "+plainFieldText(wrong))
		form(p, 2, sorts(num(), wrong), ins(impl.InsDrop), "on top: "+plainFieldText(wrong))
		form(p, 2, sorts(num(), wrong, num()), ins(impl.InsNew, 7), "between: "+plainFieldText(wrong))
	}
	for _, i := range []impl.Ins{{}, {Op: 34}, {Op: -1}, {Op: math.MaxInt}, {Op: math.MinInt}, ins(1, 9973), ins(1, -1), ins(2, 6), ins(2, -1), ins(4, 3), ins(6, 1), ins(12, 8), ins(12, -3), ins(13, 8), ins(13, -1), ins(14, 0, 4), ins(14, 0, -1), ins(25, 30), ins(25, -1), ins(27, 5), ins(28, -1), ins(29, 0, 1), ins(33, 2), ins(33, math.MinInt)} {
		form(p, 2, sorts(num(), num()), i, "instruction")
		form(p, 2, nil, i, "instruction")
	}
	for name, bad := range badProgs() {
		form(bad, 0, nil, sweep, name)
		for f := -1; f <= 2; f++ {
			if pc, code := impl.CheckFun(bad, f); pc != 0 || code != impl.CheckForm {
				t.Errorf("function %d, %s: %d, %d", f, name, pc, code)
			}
			if got := impl.CheckStacks(bad, f); len(got) != 0 {
				t.Errorf("stacks %d, %s: %v", f, name, got)
			}
		}
		if got := impl.CheckAll(bad); got != (impl.Fault{Code: impl.CheckForm}) {
			t.Errorf("%s: %v", name, got)
		}
	}
	for _, f := range []int{-1, 4, math.MinInt, math.MaxInt} {
		if pc, code := impl.CheckFun(p, f); pc != 0 || code != impl.CheckForm {
			t.Errorf("function %d: %d, %d", f, pc, code)
		}
		if got := impl.CheckStacks(p, f); len(got) != 0 {
			t.Errorf("stacks of %d: %v", f, got)
		}
	}
	// A fault in the last function of a program that is not ok is not looked for.
	bad := readProg(t, "fun n\nnum 1\nret\nfun n\nadd\nret\n")
	bad.Funs[1].Own = sorts(sure(impl.OfAny))
	if got := impl.CheckAll(bad); got != (impl.Fault{Code: impl.CheckForm}) {
		t.Error(got)
	}
}

// funCase is a program, where and how it goes wrong first, and what is held ahead of the instructions of that function.
type funCase struct {
	text   string
	fault  impl.Fault
	stacks string
}

func checkFunCase(t *testing.T, c funCase) {
	t.Helper()
	p := readProg(t, c.text)
	if got := impl.CheckAll(p); got != c.fault {
		t.Errorf("%q: %v, not %v", c.text, got, c.fault)
	}
	if pc, code := impl.CheckFun(p, c.fault.Fun); pc != c.fault.Pc || code != c.fault.Code {
		t.Errorf("%q: %d, %d, not %v", c.text, pc, code, c.fault)
	}
	if got := stacksText(impl.CheckStacks(p, c.fault.Fun)); got != c.stacks {
		t.Errorf("%q: %q, not %q", c.text, got, c.stacks)
	}
}

func TestCheckJumps(t *testing.T) {
	for _, c := range []funCase{
		{"fun n\njump 0\n", impl.Fault{}, ""},
		{"fun n\njump 1\nnum 1\nret\n", impl.Fault{}, "||n"},
		{"fun n\nnum 0\nif 3\nsweep 0\nnum 1\nret\n", impl.Fault{}, "|n|||n"},
		{"fun n\nnum 0\nif 0\nnum 1\nret\n", impl.Fault{}, "|n||n"},
		// To where something is held: ahead, back, itself, and the first of two.
		{"fun n\njump 2\nnum 1\nret\n", impl.Fault{Pc: 0, Code: 4}, "||n"},
		{"fun n\nnum 0\nif 4\nnum 1\nret\n", impl.Fault{Pc: 1, Code: 1}, "|n"},
		{"fun n\nnum 0\nif 3\nnum 1\nret\n", impl.Fault{Pc: 1, Code: 4}, "|n||n"},
		{"fun n\nnum 0\nif 1\nnum 1\nret\n", impl.Fault{Pc: 1, Code: 4}, "|n||n"},
		{"fun n\nnum 0\nsay\njump 1\n", impl.Fault{Pc: 2, Code: 4}, "|n|"},
		{"fun n\nnum 0\nsay\nnum 1\nif 0\njump 3\n", impl.Fault{Pc: 4, Code: 4}, "|n||n|"},
		{"fun n\nnum 0\nif 1\nnum 1\nif 1\njump 0\n", impl.Fault{Pc: 1, Code: 4}, "|n||n|"},
		// What is held beneath.
		{"fun n\nnum 0\njump 0\n", impl.Fault{Pc: 1, Code: 4}, "|n"},
		{"fun n\nnum 0\nnum 1\nif 0\njump 0\n", impl.Fault{Pc: 2, Code: 4}, "|n|n n"},
		{"fun n\nnum 0\nnum 1\nret\n", impl.Fault{Pc: 2, Code: 4}, "|n|n n"},
		{"fun n\nnum 0\npass 0\n", impl.Fault{Pc: 1, Code: 4}, "|n"},
		{"fun n n\nget 0\nget 0\npass 0\n", impl.Fault{Pc: 2, Code: 4}, "|n|n n"},
		// An instruction that is wrong is told ahead of a jump that is.
		{"fun n\njump 2\nnum 1\nadd\nret\n", impl.Fault{Pc: 2, Code: 2}, "||n"},
		{"fun n\njump 2\nnum 1\nsay\nnum 1\n", impl.Fault{Pc: 3, Code: 6}, "||n|"},
		// What nothing goes on to is looked at all the same.
		{"fun n\nnum 1\nret\nadd\njump 0\n", impl.Fault{Pc: 2, Code: 2}, "|n|"},
		{"fun n\nnum 1\nret\nnum 2\nret\n", impl.Fault{}, "|n||n"},
	} {
		checkFunCase(t, c)
	}
}

func TestCheckEnds(t *testing.T) {
	for _, c := range []funCase{
		{"fun n\nnum 1\n", impl.Fault{Pc: 0, Code: 6}, ""},
		{"fun n\nsweep 1\n", impl.Fault{Pc: 0, Code: 6}, ""},
		{"fun n\nnum 1\nret\nsweep 0\n", impl.Fault{Pc: 2, Code: 6}, "|n|"},
		{"fun n\nnum 1\nif 0\n", impl.Fault{Pc: 1, Code: 6}, "|n"},
		{"fun n\ncall 0\nsay\n", impl.Fault{Pc: 1, Code: 6}, "|n"},
		{"fun n\nnum 1\nsay\npass 0\n", impl.Fault{}, "|n|"},
		{"fun n\nnum 1\nsay\njump 0\n", impl.Fault{}, "|n|"},
		{"fun n\n" + strings.Repeat("num 1\n", 8) + strings.Repeat("say\n", 8) + "jump 0\n", impl.Fault{}, "|n|n n|n n n|n n n n|n n n n n|n n n n n n|n n n n n n n|n n n n n n n n|n n n n n n n|n n n n n n|n n n n n|n n n n|n n n|n n|n|"},
		{"fun n\n" + strings.Repeat("num 1\n", 9) + "ret\n", impl.Fault{Pc: 8, Code: 5}, "|n|n n|n n n|n n n n|n n n n n|n n n n n n|n n n n n n n|n n n n n n n n"},
		{"fun n\n" + strings.Repeat("sweep 0\n", 29) + "jump 29\n", impl.Fault{}, strings.Repeat("|", 29)},
		{"fun n\n" + strings.Repeat("sweep 0\n", 30), impl.Fault{Pc: 29, Code: 6}, strings.Repeat("|", 29)},
	} {
		checkFunCase(t, c)
	}
}

// TestCheckPass passes on to what gives the same, something narrower, something wider, and something else.
func TestCheckPass(t *testing.T) {
	types := "group\nbox -\nbox 0\ngroup\nbox -\nbox 2\n"
	for _, c := range []struct {
		own  string
		that string
		code int
	}{
		{"n", "n", 0}, {"rany", "rany", 0}, {"sany", "sany", 0}, {"r0", "r0", 0}, {"s1", "s1", 0}, {"schip", "schip", 0},
		{"rany", "sany", 0}, {"rany", "r0", 0}, {"rany", "schip", 0}, {"sany", "s3", 0}, {"r0", "s1", 0}, {"s0", "s1", 0}, {"r0", "r1", 0}, {"rchip", "schip", 0},
		{"r2", "r0", 0}, {"s0", "s3", 0}, {"r1", "s3", 0},
		{"sany", "rany", 3}, {"r0", "rany", 3}, {"s1", "s0", 3}, {"r1", "s0", 3}, {"schip", "rchip", 3}, {"rchip", "rany", 3}, {"s3", "s0", 3}, {"s0", "r0", 3},
		{"n", "rany", 3}, {"rany", "n", 3}, {"r0", "rchip", 3}, {"rchip", "s0", 3}, {"schip", "n", 3},
	} {
		// The second function only jumps, so that it can give anything.
		checkFunCase(t, funCase{types + "fun " + c.own + "\npass 1\nfun " + c.that + "\njump 0\n", impl.Fault{Code: c.code}, ""})
		checkFunCase(t, funCase{types + "fun n\njump 0\nfun " + c.that + " n\njump 0\nfun " + c.own + "\nnum 1\npass 1\n", impl.Fault{Fun: 2 * min(c.code, 1), Pc: min(c.code, 1), Code: c.code}, map[int]string{0: "", 3: "|n"}[c.code]})
	}
}

func TestCheckAllFindsTheFirst(t *testing.T) {
	fine, lack, name, end := "fun n\nnum 1\nret\n", "fun n\nnum 1\nadd\nret\n", "fun n\nget 0\nret\n", "fun n\nnum 1\nsay\n"
	for _, c := range []funCase{
		{fine, impl.Fault{}, "|n"},
		{fine + fine + fine + fine + fine, impl.Fault{}, "|n"},
		{lack + fine, impl.Fault{Fun: 0, Pc: 1, Code: 2}, "|n"},
		{fine + lack, impl.Fault{Fun: 1, Pc: 1, Code: 2}, "|n"},
		{fine + fine + fine + fine + end, impl.Fault{Fun: 4, Pc: 1, Code: 6}, "|n"},
		{fine + lack + name, impl.Fault{Fun: 1, Pc: 1, Code: 2}, "|n"},
		{fine + name + lack, impl.Fault{Fun: 1, Pc: 0, Code: 1}, ""},
		{end + name + lack, impl.Fault{Fun: 0, Pc: 1, Code: 6}, "|n"},
	} {
		checkFunCase(t, c)
	}
	p := readProg(t, fine+lack+name)
	if pc, code := impl.CheckFun(p, 2); pc != 0 || code != impl.CheckName {
		t.Error(pc, code)
	}
	if pc, code := impl.CheckFun(p, 0); pc != 0 || code != impl.CheckFine {
		t.Error(pc, code)
	}
}

// TestCheckGives returns, makes sure and casts each of what a reference may be to.
func TestCheckGives(t *testing.T) {
	types := "group\nbox - r0! s0!\nbox 0 r0! s0!\nrow - sany!\n"
	for _, c := range []funCase{
		{types + "fun sany\nnull any\nsure\nret\n", impl.Fault{}, "|rany|sany"},
		{types + "fun schip\nnull chip\nsure\nret\n", impl.Fault{}, "|rchip|schip"},
		{types + "fun s1\nnull 1\nsure\nret\n", impl.Fault{}, "|r1|s1"},
		{types + "fun s0\nnull 1\nsure\nret\n", impl.Fault{}, "|r1|s1"},
		{types + "fun s1\nnull 0\nsure\nret\n", impl.Fault{Pc: 2, Code: 3}, "|r0|s0"},
		{types + "fun s1\nnull 1\nret\n", impl.Fault{Pc: 1, Code: 3}, "|r1"},
		{types + "fun sany\nnull 2\nsure\nret\n", impl.Fault{}, "|r2|s2"},
		{types + "fun schip\nnull any\nsure\nret\n", impl.Fault{Pc: 2, Code: 3}, "|rany|sany"},
		{types + "fun sany\nnull 0\ncast any\nret\n", impl.Fault{}, "|r0|sany"},
		{types + "fun schip\nnull 0\ncast chip\nret\n", impl.Fault{}, "|r0|schip"},
		{types + "fun s1\nnull any\ncast 1\nret\n", impl.Fault{}, "|rany|s1"},
		{types + "fun s1\nnull any\ncast 0\nret\n", impl.Fault{Pc: 2, Code: 3}, "|rany|s0"},
		{types + "fun rany\nnull chip\ncast 2\nret\n", impl.Fault{}, "|rchip|s2"},
		// What is looked at is a sort, whether or not it may be turned.
		{types + "fun r0\nnull 1\nlook 0 0\nret\n", impl.Fault{}, "|r1|r0"},
		{types + "fun s0\nnull 1\nlook 1 1\nret\n", impl.Fault{}, "|r1|s0"},
		{types + "fun sany\nnull 2\nnum 0\nat 2\nret\n", impl.Fault{}, "|r2|r2 n|sany"},
		{types + "fun s0\nnull 0\nnull 0\nsure\nnew 0\nret\n", impl.Fault{}, "|r0|r0 r0|r0 s0|s0"},
		{types + "fun s0\nnull 0\nnull 0\nnew 0\nret\n", impl.Fault{Pc: 2, Code: 3}, "|r0|r0 r0"},
	} {
		checkFunCase(t, c)
	}
}

// TestCheckTopAlone is the promise for an instruction: what is held beneath makes no difference.
func TestCheckTopAlone(t *testing.T) {
	p := readProg(t, checkWorld)
	r := rand.New(rand.NewSource(41))
	for _, row := range checkRows() {
		takes, gives, i := sortsOf(t, row.takes), sortsOf(t, row.gives), insOf(t, row.ins)
		for range 100 {
			beneath := someHeld(r, impl.StackMost-len(takes), 7)
			got, code := impl.CheckIns(p, 2, slices.Concat(beneath, takes), i)
			want, right := slices.Concat(beneath, gives), 0
			if clearing(row.ins) && len(beneath) > 0 {
				want, right = nil, impl.CheckRest
			} else if len(want) > impl.StackMost {
				want, right = nil, impl.CheckDeep
			}
			if !slices.Equal(got, want) || code != right {
				t.Errorf("%q on %q and %q: %q, %d", row.ins, sortsText(beneath), row.takes, sortsText(got), code)
			}
		}
	}
}

// TestCheckOwnBodyAlone is the promise for a function: what the others do makes no difference, only what they take and give.
func TestCheckOwnBodyAlone(t *testing.T) {
	r := rand.New(rand.NewSource(42))
	for range 300 {
		p := someGoing(r)
		if r.Intn(2) == 0 {
			p = marred(r, p)
		}
		if !plainProgOk(p) {
			continue
		}
		own := r.Intn(len(p.Funs))
		q := copyProg(p)
		for f := range q.Funs {
			if f != own {
				q.Funs[f].Body = many(1+r.Intn(30), ins(impl.InsAdd))
				q.Funs[f].Own = many(r.Intn(4), ref(impl.OfAny))
			}
		}
		pc, code := impl.CheckFun(p, own)
		pcNow, codeNow := impl.CheckFun(q, own)
		if pc != pcNow || code != codeNow || stacksText(impl.CheckStacks(p, own)) != stacksText(impl.CheckStacks(q, own)) || !slices.Equal(impl.CheckSlots(p, own), impl.CheckSlots(q, own)) {
			t.Errorf("%v: function %d: %d, %d; then %d, %d", p, own, pc, code, pcNow, codeNow)
		}
	}
}

// TestCheckAgainstWords holds all functions against the words of the chapter, on programs that go, and on such with one part turned.
func TestCheckAgainstWords(t *testing.T) {
	r := rand.New(rand.NewSource(43))
	codes := map[int]int{}
	for range 1500 {
		p := someGoing(r)
		for range r.Intn(3) {
			p = marred(r, p)
		}
		got, want := impl.CheckAll(p), plainAll(p)
		if got != want {
			t.Fatalf("%v: %v, not %v", p, got, want)
		}
		codes[got.Code]++
		if want.Code == impl.CheckForm {
			continue
		}
		for f := range p.Funs {
			pc, code := impl.CheckFun(p, f)
			wantPc, wantCode := plainFun(p, f)
			if pc != wantPc || code != wantCode {
				t.Fatalf("%v: function %d: %d, %d, not %d, %d", p, f, pc, code, wantPc, wantCode)
			}
			stacks, wantStacks := impl.CheckStacks(p, f), plainStacks(p, f)
			if len(stacks) != len(wantStacks) || stacksText(stacks) != stacksText(wantStacks) {
				t.Fatalf("%v: function %d: %v, not %v", p, f, stacks, wantStacks)
			}
			if !slices.Equal(impl.CheckSlots(p, f), plainSlots(p, f)) {
				t.Fatalf("%v: function %d: %v", p, f, impl.CheckSlots(p, f))
			}
		}
	}
	for code := range 8 {
		if codes[code] < 5 {
			t.Errorf("code %d was told %d times only", code, codes[code])
		}
	}
}

// TestCheckInsAgainstWords holds CheckIns against the words of the chapter on any stacks.
func TestCheckInsAgainstWords(t *testing.T) {
	r := rand.New(rand.NewSource(44))
	codes := map[int]int{}
	for range 200 {
		p := someGoing(r)
		n := impl.KinCount(p.Types)
		for range 60 {
			f, stack, i := r.Intn(len(p.Funs)), someHeld(r, 9, n), someIns(r)
			if r.Intn(2) == 0 && len(stack) <= 8 {
				i = someFitting(r, p, f, stack)
			}
			if r.Intn(40) == 0 && len(stack) > 0 {
				stack[r.Intn(len(stack))] = someField(r, n)
			}
			want, right := []impl.Field(nil), impl.CheckForm
			if len(stack) <= 8 && plainInsOk(i) && !slices.ContainsFunc(stack, func(f impl.Field) bool { return !plainSort(f, n) }) {
				want, right = plainBehind(p, f, stack, i)
			}
			got, code := impl.CheckIns(p, f, stack, i)
			if !slices.Equal(got, want) || code != right {
				t.Fatalf("%v: %v on %v in %d: %v, %d, not %v, %d", p, i, stack, f, got, code, want, right)
			}
			codes[code]++
		}
	}
	for _, code := range []int{0, 1, 2, 3, 4, 5, 7} {
		if codes[code] < 20 {
			t.Errorf("code %d was told %d times only", code, codes[code])
		}
	}
}

// TestCheckMemory writes into all that was answered: neither what was handed in nor another part of the answer turns.
func TestCheckMemory(t *testing.T) {
	p := copyProg(readProg(t, checkWorld))
	p.Funs[2].Body = append(many(2, ins(impl.InsGet, 0)), ins(impl.InsDrop), ins(impl.InsSweep), ins(impl.InsSweep), ins(impl.InsRet))
	p = copyProg(p)
	before := spreadProg(p)
	junk := impl.Field{Kind: 55, Of: 55}
	soil := func(list []impl.Field) {
		for i := range list[:cap(list)] {
			list[:cap(list)][i] = junk
		}
	}
	for f := range p.Funs {
		soil(impl.CheckSlots(p, f))
		all := impl.CheckStacks(p, f)
		for at := range all {
			now := stacksText(all[at+1:])
			soil(all[at])
			if stacksText(all[at+1:]) != now {
				t.Errorf("function %d: a stack shares memory with one behind it", f)
			}
		}
		impl.CheckFun(p, f)
		impl.CheckAll(p)
	}
	for _, row := range append(checkRows(), checkRow{"drop", "n", ""}, checkRow{"sure", "r0", ""}) {
		for _, beneath := range []string{"", "n r3"} {
			stack := withRoom(sortsOf(t, join(beneath, row.takes)), junk)
			whole := slices.Clone(stack[:cap(stack)])
			got, _ := impl.CheckIns(p, 2, stack, insOf(t, row.ins))
			soil(got)
			if !slices.Equal(stack[:cap(stack)], whole) {
				t.Errorf("%q on %q: the stack was written into", row.ins, sortsText(whole))
			}
		}
	}
	if !reflect.DeepEqual(spreadProg(p), before) {
		t.Error("the program was written into")
	}
}
