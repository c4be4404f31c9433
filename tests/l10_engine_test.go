package tests

import (
	"fmt"
	"math"
	"math/rand"
	"reflect"
	"slices"
	"strconv"
	"strings"
	"testing"

	"loop.example/lairage/impl"
)

func TestPlanOk(t *testing.T) {
	right := impl.Plan{Old: 60, Young: 20, Minor: 7, Major: 9}
	for _, c := range []struct {
		name  string
		part  func(plan *impl.Plan) *int
		least int
		most  int
	}{
		{"old", func(plan *impl.Plan) *int { return &plan.Old }, 1, 120},
		{"young", func(plan *impl.Plan) *int { return &plan.Young }, 0, 40},
		{"minor", func(plan *impl.Plan) *int { return &plan.Minor }, 0, 300},
		{"major", func(plan *impl.Plan) *int { return &plan.Major }, 0, 300},
	} {
		for _, n := range append(edgeNumbers(), c.least-1, c.least, c.least+1, c.most-1, c.most, c.most+1) {
			plan := right
			*c.part(&plan) = n
			if got, want := impl.PlanOk(plan), n >= c.least && n <= c.most; got != want || plainPlanOk(plan) != want {
				t.Errorf("%s of %d: %v", c.name, n, got)
			}
		}
	}
	for plan, want := range map[impl.Plan]bool{
		{}: false, {Old: 1}: true, {Old: 120, Young: 40, Minor: 300, Major: 300}: true, {Young: 40, Minor: 300, Major: 300}: false, {Old: 121, Young: 41}: false,
	} {
		if got := impl.PlanOk(plan); got != want {
			t.Errorf("%v: %v", plan, got)
		}
	}
}

// rightPlans is plans that are ok, most of them at an edge.
func rightPlans() []impl.Plan {
	return []impl.Plan{{Old: 1}, {Old: 120}, {Old: 1, Young: 40}, {Old: 120, Young: 40, Minor: 300, Major: 300}, {Old: 9, Young: 4, Minor: 1, Major: 1}}
}

// wrongPlans is plans that are not ok, most of them by one part that is past an edge.
func wrongPlans() []impl.Plan {
	return []impl.Plan{{}, {Old: 0, Young: 5}, {Old: -1}, {Old: 121}, {Old: 9, Young: -1}, {Old: 9, Young: 41}, {Old: 9, Minor: -1}, {Old: 9, Minor: 301}, {Old: 9, Major: -1}, {Old: 9, Major: 301}, {Old: math.MinInt}, {Old: 9, Major: math.MaxInt}}
}

func TestEngineStart(t *testing.T) {
	for text, want := range map[string]string{
		"fun n\nnum 0\nret\n": "|()|0:0()()||0|0",
		"glob n rany rchip\nfun rany\nown rchip n rany\nnull any\nret\n":                            "|(0 - -)|0:0(- 0 -)()||0|0",
		"group\nbox -\nglob r0\nfun s0\nown n r0\nnew 0\nret\nfun n n n n\nown n n n\nget 0\nret\n": "|(-)|0:0(0 -)()||0|0",
	} {
		p := readProg(t, text)
		for _, plan := range rightPlans() {
			got := impl.EngineStart(p, plan)
			if meanText(withoutHeap(got)) != want || heapText(got.Heap) != heapText(impl.HeapNew(plan.Old, plan.Young)) || got.Steps != 0 {
				t.Errorf("%q by %v begins %s", text, plan, engineText(got))
			}
			if !impl.EngineOk(p, got) || !impl.MeanSame(impl.EngineMean(p, got), impl.MeanStart(p)) {
				t.Errorf("%q by %v: not ok: %s", text, plan, engineText(got))
			}
		}
		for _, plan := range wrongPlans() {
			if got := impl.EngineStart(p, plan); engineText(got) != engineText(plainEngineForm()) {
				t.Errorf("%q by %v begins %s", text, plan, engineText(got))
			}
		}
	}
}

// TestEngineNoGo asks all that is told of engines of programs that can not go.
func TestEngineNoGo(t *testing.T) {
	form := engineText(plainEngineForm())
	for name, p := range noGo(t) {
		for _, plan := range rightPlans() {
			if got := impl.EngineStart(p, plan); engineText(got) != form {
				t.Errorf("%s begins %s", name, engineText(got))
			}
			for _, fuel := range []int{-1, 0, 1, 300, 301} {
				if got := impl.EngineRun(p, plan, nil, fuel); engineText(got) != form {
					t.Errorf("%s: run by %d: %s", name, fuel, engineText(got))
				}
			}
		}
		for _, state := range []string{"|()|0:0()()||0|0", "|()|||0|1", "|()|||0|10", "|()|0:0(0)()||0|0", "|(0)|0:0()()||0|0", "|()|0:0()()||0|9"} {
			e := engineWith(impl.HeapNew(9, 5), meanOf(t, state), 0)
			if impl.EngineOk(p, e) {
				t.Errorf("%s: %s is ok", name, engineText(e))
			}
			for _, all := range []bool{false, true} {
				if got := impl.EngineSweep(p, e, all); engineText(got) != form {
					t.Errorf("%s: %s is swept to %s", name, engineText(e), engineText(got))
				}
			}
			if got := impl.EngineStep(p, impl.Plan{Old: 9}, nil, e); engineText(got) != form {
				t.Errorf("%s: a step from %s: %s", name, engineText(e), engineText(got))
			}
		}
	}
}

// fullEngine is an engine of trimWorld with old things at 0, 2 and 6 and young ones at 20 and 22, which two frames name.
const fullEngine = "20+10|1(c1) 0(@0 @20 5) 2(@2 -)|1(@2) 3(7 8)|4|(@20 - 3)|0:3(@0 c4 2)(@6) 1:2(@22 @2)(@20 @0)|5 6|1|0|7"

func TestEngineMean(t *testing.T) {
	p := readProg(t, trimWorld)
	for from, want := range map[string]string{
		fullEngine:                           "1(c1) 0(@0 @3 5) 2(@1 -) 1(@1) 3(7 8)|(@3 - 3)|0:3(@0 c4 2)(@2) 1:2(@4 @1)(@3 @0)|5 6|1|0",
		"9+5||||(- - 0)|0:0(- - 0)()||0|0|0": "|(- - 0)|0:0(- - 0)()||0|0",
		"9+5||||(- - 0)||9 8|2|1|300":        "|(- - 0)||9 8|2|1",
		"9+5|3() 3()|3() 3()||(@9 @10 0)|0:1(@1 @0 0)(@10)||0|2|0":                    "3() 3() 3() 3()|(@2 @3 0)|0:1(@1 @0 0)(@3)||0|2",
		"9+0|1(@2) 1(@0)|||(@2 - 0)|0:0(- - 0)()||0|0|0":                              "1(@1) 1(@0)|(@1 - 0)|0:0(- - 0)()||0|0",
		"1+7||1(@3) 1(@1) 1(@5)||(@5 - 0)|0:0(- - 0)()||0|0|0":                        "1(@1) 1(@0) 1(@2)|(@2 - 0)|0:0(- - 0)()||0|0",
		"6+6|1(@6) 2(@0 c6)|1(@2) 1(c0)|1 4|(c6 c0 6)|0:2(c2 @8 2)(@2 -)|0 2 6|3|0|9": "1(@2) 2(@0 c6) 1(@1) 1(c0)|(c6 c0 6)|0:2(c2 @3 2)(@1 -)|0 2 6|3|0",
	} {
		e := engineOf(t, from)
		if got := impl.EngineMean(p, e); meanText(got) != want {
			t.Errorf("%s means %s, not %s", from, meanText(got), want)
		}
		if got := plainEngineMean(p, e); meanText(got) != want {
			t.Errorf("%s means %s by the document's words", from, meanText(got))
		}
	}
}

// TestEngineMeanOfAnyState asks for what is told of engines whose heap is ok, and nothing else is.
func TestEngineMeanOfAnyState(t *testing.T) {
	p := readProg(t, trimWorld)
	full := engineOf(t, fullEngine)
	for code := -2; code < 13; code++ {
		want := code
		if code == impl.EndRoom {
			want = impl.EndGoes
		}
		e := turnedEngine(full, func(e *impl.Engine) { e.Code = code })
		if got := impl.EngineMean(p, e); got.Code != want || len(got.Things) != 5 || len(got.Frames) != 2 {
			t.Errorf("%s means %s", engineText(e), meanText(got))
		}
	}
	odd := turnedEngine(full, func(e *impl.Engine) {
		e.Glob = values(impl.Val{Kind: 7, N: 20}, impl.Val{Kind: -4, N: 1}, impl.Val{}, number(-9), none(), chip(99999), impl.Val{Kind: 2, N: 6}, thing(22))
		e.Frames[0] = impl.Frame{Fun: 99, Pc: -5, Locals: values(thing(6)), Stack: many(20, thing(0))}
		e.Frames = append(e.Frames, e.Frames[1], e.Frames[0], e.Frames[0], e.Frames[0], impl.Frame{})
		e.Outs, e.Asked, e.Code, e.Steps = many(40, -7), -3, 66, -1
	})
	// Neither must the program be right, but for its types.
	for name, p := range map[string]impl.Prog{"world": p, "no functions": {Types: p.Types}, "wrong function": {Types: p.Types, Funs: []impl.Fun{{}}}} {
		for _, e := range []impl.Engine{full, odd} {
			if got, want := impl.EngineMean(p, e), plainEngineMean(p, e); !impl.MeanSame(got, want) || got.Code == impl.EndForm {
				t.Errorf("%s: %s means %s, not %s", name, engineText(e), meanText(got), meanText(want))
			}
		}
	}
	want := "(?7.20 ?-4.1 ?0.0 -9 - c99999 ?2.6 @4)"
	if got := impl.EngineMean(p, odd); valsText(got.Glob) != want || got.Frames[0].Fun != 99 || got.Frames[0].Pc != -5 || len(got.Frames) != 7 || got.Asked != -3 || got.Code != 66 || len(got.Outs) != 40 {
		t.Errorf("%s means %s", engineText(odd), meanText(got))
	}
}

// TestEngineMeanOfWhatIsNotThere has one value that names a place at which nothing begins.
func TestEngineMeanOfWhatIsNotThere(t *testing.T) {
	p := readProg(t, trimWorld)
	full := engineOf(t, fullEngine)
	for _, at := range []int{1, 3, 4, 5, 7, 8, 9, 10, 19, 21, 23, 24, 25, 26, 29, 30, 31, 119, 120, 159, 160, -1, -2, -20, math.MinInt, math.MaxInt} {
		for name, turn := range map[string]func(e *impl.Engine){
			"first shared":  func(e *impl.Engine) { e.Glob[0].N = at },
			"shared":        func(e *impl.Engine) { e.Glob[1] = thing(at) },
			"a number":      func(e *impl.Engine) { e.Glob[2] = thing(at) },
			"waiting place": func(e *impl.Engine) { e.Frames[0].Locals[1] = thing(at) },
			"waiting held":  func(e *impl.Engine) { e.Frames[0].Stack[0] = thing(at) },
			"last place":    func(e *impl.Engine) { e.Frames[1].Locals[1] = thing(at) },
			"held":          func(e *impl.Engine) { e.Frames[1].Stack[0] = thing(at) },
			"held last":     func(e *impl.Engine) { e.Frames[1].Stack[1] = thing(at) },
		} {
			checkEngineForm(t, fmt.Sprint(name, " names ", at), p, turnedEngine(full, turn))
		}
	}
	for _, at := range []int{0, 2, 6, 20, 22} {
		if e := turnedEngine(full, func(e *impl.Engine) { e.Frames[1].Stack[1] = thing(at) }); !impl.EngineOk(p, e) {
			t.Errorf("%d is not there: %s", at, engineText(e))
		}
	}
}

// checkEngineForm asks for all that is told of an engine that is not ok, and that means nothing.
func checkEngineForm(t *testing.T, name string, p impl.Prog, e impl.Engine) {
	t.Helper()
	if got := impl.EngineMean(p, e); meanText(got) != "|()|||0|10" {
		t.Errorf("%s: %s means %s", name, engineText(e), meanText(got))
	}
	checkEngineNotOk(t, name, p, e)
}

// checkEngineNotOk asks for all that is told of an engine that is not ok.
func checkEngineNotOk(t *testing.T, name string, p impl.Prog, e impl.Engine) {
	t.Helper()
	form := engineText(plainEngineForm())
	if impl.EngineOk(p, e) || plainEngineOk(p, e) {
		t.Errorf("%s is ok: %s", name, engineText(e))
	}
	for _, all := range []bool{false, true} {
		if got := impl.EngineSweep(p, e, all); engineText(got) != form {
			t.Errorf("%s: %s is swept to %s", name, engineText(e), engineText(got))
		}
	}
	for _, plan := range rightPlans() {
		if got := impl.EngineStep(p, plan, meanHost(), e); engineText(got) != form {
			t.Errorf("%s: a step from %s: %s", name, engineText(e), engineText(got))
		}
	}
}

// TestEngineOfWrongHeaps has heaps that are not ok under a program that is nowhere wrong, and types that are not ok.
func TestEngineOfWrongHeaps(t *testing.T) {
	p := readProg(t, heapWorld+"fun n\nnum 0\nret\n")
	state := meanOf(t, "|()|0:0()()||0|0")
	for name, h := range brokenHeaps(t) {
		checkEngineForm(t, name, p, engineWith(h, state, 0))
	}
	for _, text := range rightHeaps() {
		if e := engineWith(heapOf(t, text), state, 0); !impl.EngineOk(p, e) {
			t.Errorf("not ok: %s", text)
		}
	}
	for name, g := range badFamilies() {
		for _, text := range []string{"5+5|||", "5+5|0()||", "5+5||0()|", "5+5|0(1)||"} {
			checkEngineForm(t, name, impl.Prog{Types: g, Funs: p.Funs}, engineWith(heapOf(t, text), state, 0))
		}
	}
}

func TestEngineOk(t *testing.T) {
	p := readProg(t, trimWorld)
	full := engineOf(t, fullEngine)
	for _, steps := range []int{math.MinInt, -301, -300, -2, -1, 0, 1, 2, 7, 150, 298, 299, 300, 301, 302, 600, math.MaxInt} {
		e := turnedEngine(full, func(e *impl.Engine) { e.Steps = steps })
		if got, want := impl.EngineOk(p, e), steps >= 0 && steps <= 300; got != want {
			t.Errorf("%d steps: %v", steps, got)
		} else if !want {
			checkEngineNotOk(t, fmt.Sprint(steps, " steps"), p, e)
		}
	}
	for code := -2; code < 13; code++ {
		e := turnedEngine(full, func(e *impl.Engine) { e.Code = code })
		if got, want := impl.EngineOk(p, e), code >= 0 && code <= 9 && code != 1; got != want {
			t.Errorf("code %d: %v", code, got)
		}
		e.Frames = nil
		if got := impl.EngineOk(p, e); got != (code == 1) {
			t.Errorf("code %d without a frame: %v", code, got)
		}
	}
	for name, e := range engineTurns(full) {
		ok := plainEngineOk(p, e)
		if got := impl.EngineOk(p, e); got != ok {
			t.Errorf("%s: %v: %s", name, got, engineText(e))
		}
		if !ok {
			checkEngineNotOk(t, name, p, e)
		}
		if got, want := impl.EngineMean(p, e), plainEngineMean(p, e); !impl.MeanSame(got, want) {
			t.Errorf("%s: %s means %s, not %s", name, engineText(e), meanText(got), meanText(want))
		}
	}
}

// TestEngineOkBroken breaks one condition alone of an engine that is ok.
func TestEngineOkBroken(t *testing.T) {
	p := readProg(t, trimWorld)
	full := engineOf(t, fullEngine)
	for name, turn := range map[string]func(e *impl.Engine){
		"nothing":                    func(e *impl.Engine) { *e = impl.Engine{} },
		"form":                       func(e *impl.Engine) { *e = impl.Engine{Code: impl.EndForm} },
		"steps past":                 func(e *impl.Engine) { e.Steps = 301 },
		"steps below":                func(e *impl.Engine) { e.Steps = -1 },
		"a known word is not in log": func(e *impl.Engine) { e.Heap.Log = nil },
		"a word is known twice":      func(e *impl.Engine) { e.Heap.Log = []int{4, 4} },
		"a number is known":          func(e *impl.Engine) { e.Heap.Log = []int{4, 5} },
		"a word behind OldAt":        func(e *impl.Engine) { e.Heap.Words[15] = 1 },
		"a word behind YoungAt":      func(e *impl.Engine) { e.Heap.Words[29] = 1 },
		"a head of no type":          func(e *impl.Engine) { e.Heap.Words[0] = 16*4 + 1 },
		"a number past":              func(e *impl.Engine) { e.Heap.Words[5] = 9973 },
		"a word names no beginning":  func(e *impl.Engine) { e.Heap.Words[3] = 2*1 + 2 },
		"shared of another sort":     func(e *impl.Engine) { e.Glob[0] = number(1) },
		"shared number is none":      func(e *impl.Engine) { e.Glob[2] = none() },
		"place of another sort":      func(e *impl.Engine) { e.Frames[0].Locals[2] = chip(4) },
		"held of another sort":       func(e *impl.Engine) { e.Frames[1].Stack[0] = number(0) },
		"waiting held of another":    func(e *impl.Engine) { e.Frames[0].Stack[0] = number(0) },
		"held too much":              func(e *impl.Engine) { e.Frames[1].Stack = append(e.Frames[1].Stack, none()) },
		"held too little":            func(e *impl.Engine) { e.Frames[1].Stack = e.Frames[1].Stack[:1] },
		"no such instruction":        func(e *impl.Engine) { e.Frames[1].Pc = 7 },
		"no such function":           func(e *impl.Engine) { e.Frames[1].Fun = 2 },
		"no frame":                   func(e *impl.Engine) { e.Frames = nil },
		"no frame, and no room":      func(e *impl.Engine) { e.Frames, e.Code = nil, impl.EndRoom },
		"ends fine with frames":      func(e *impl.Engine) { e.Code = impl.EndFine },
		"code form":                  func(e *impl.Engine) { e.Code = impl.EndForm },
		"told too much":              func(e *impl.Engine) { e.Outs = many(31, 0) },
		"asked too much":             func(e *impl.Engine) { e.Asked = 3 },
	} {
		checkEngineNotOk(t, name, p, turnedEngine(full, turn))
	}
}

func TestEngineSame(t *testing.T) {
	full := engineOf(t, fullEngine)
	// What is told of any two holds of what is not ok too.
	odd := impl.Engine{
		Heap: impl.Heap{Words: []int{-5, 7}, Old: -3, OldAt: 99, YoungAt: -1, Log: []int{4, 9}}, Glob: values(impl.Val{Kind: 9, N: -9}),
		Frames: []impl.Frame{{Fun: -1, Pc: 99, Locals: values(none()), Stack: values(none(), number(-1))}}, Outs: []int{1, 0}, Asked: -5, Code: 77, Steps: -8,
	}
	all := []impl.Engine{full, odd, {}, {Code: impl.EndForm}, engineOf(t, "9+5||||(- - 0)|0:0(- - 0)()||0|0|0")}
	for i, e := range all {
		if !impl.EngineSame(e, e) || !impl.EngineSame(e, copyEngine(e)) || !impl.EngineSame(copyEngine(e), e) {
			t.Errorf("not the same as itself: %s", engineText(e))
		}
		for j, other := range all {
			if got := impl.EngineSame(e, other); got != (i == j) {
				t.Errorf("%s and %s: %v", engineText(e), engineText(other), got)
			}
		}
	}
	for _, e := range []impl.Engine{full, odd} {
		for name, turned := range engineTurns(e) {
			if impl.EngineSame(e, turned) || impl.EngineSame(turned, e) {
				t.Errorf("%s makes no difference", name)
			}
			if !impl.EngineSame(turned, copyEngine(turned)) {
				t.Errorf("%s: not the same as itself", name)
			}
		}
	}
	empty := impl.Engine{Heap: impl.Heap{Words: []int{}, Log: []int{}}, Glob: values(), Frames: []impl.Frame{}, Outs: []int{}}
	if !impl.EngineSame(empty, impl.Engine{}) || !impl.EngineSame(impl.Engine{}, empty) {
		t.Error("an empty list is not the nil list")
	}
	if !impl.EngineSame(impl.Engine{Frames: []impl.Frame{{Locals: values(), Stack: values()}}}, impl.Engine{Frames: []impl.Frame{{}}}) {
		t.Error("an empty list is not the nil list inside")
	}
}

func TestEngineRoots(t *testing.T) {
	full := engineOf(t, fullEngine)
	odd := turnedEngine(full, func(e *impl.Engine) {
		e.Heap, e.Steps, e.Code = impl.Heap{}, -1, 99
		e.Glob = values(thing(-7), impl.Val{Kind: 9, N: 9})
		e.Frames = []impl.Frame{{Stack: values(number(1))}, {}, {Fun: -4, Locals: values(number(2), number(3))}, {Locals: values(number(4)), Stack: values(number(5), number(6))}}
	})
	for _, c := range []struct {
		name string
		from impl.Engine
		want string
	}{
		{"full", full, "(@20 - 3 @0 c4 2 @6 @22 @2 @20 @0)"},
		{"odd", odd, "(@-7 ?9.9 1 2 3 4 5 6)"},
		{"nothing", impl.Engine{}, "()"},
		{"no frames", engineOf(t, "9+5||||(c1 - 7)||3 4|1|1|6"), "(c1 - 7)"},
		{"nothing shared", engineOf(t, "9+5||||()|0:0(1)(2 3) 0:0()() 0:1()(4)||0|0|0"), "(1 2 3 4)"},
		{"a stack ahead of the next frame's places", engineOf(t, "9+5||||(0)|0:0(1 2)(3 4) 0:0(5 6)(7 8) 0:0(9)(10)||0|0|0"), "(0 1 2 3 4 5 6 7 8 9 10)"},
	} {
		if got := impl.EngineRoots(c.from); valsText(got) != c.want {
			t.Errorf("%s: %s, not %s", c.name, valsText(got), c.want)
		}
	}
}

// sweepCase is an engine of trimWorld, and what it is behind a sweep of the young, and behind one of all; nothing, if it is
// as it was.
type sweepCase struct {
	name  string
	from  string
	minor string
	major string
}

func TestEngineSweep(t *testing.T) {
	p := readProg(t, trimWorld)
	idle := "|0:0(- - 0)()||0|0|3"
	six := "1(c2) 1(c3) 1(c4) 1(c5) 1(c6) 1(c7)"
	for _, c := range []sweepCase{
		{"shared and places", "20+10|1(c1) 1(c2)|1(c3) 1(c4) 1(c5)||(@24 @20 1)|0:0(@0 - 0)()|7|1|0|3",
			"20+10|1(c1) 1(c2) 1(c5) 1(c3)|||(@4 @6 1)|0:0(@0 - 0)()|7|1|0|3",
			"20+10|1(c1) 1(c3) 1(c5)|||(@4 @2 1)|0:0(@0 - 0)()|7|1|0|3"},
		{"several frames", "30+12|1(c1)|" + six + "||(- @40 1)|0:3(@38 - 0)(@36) 1:3(@34 @0)(@32) 1:2(@30 -)(- @40)|7 8|2|0|300",
			"30+12|1(c1) 1(c7) 1(c6) 1(c5) 1(c4) 1(c3) 1(c2)|||(- @2 1)|0:3(@4 - 0)(@6) 1:3(@8 @0)(@10) 1:2(@12 -)(- @2)|7 8|2|0|300",
			"30+12|1(c1) " + six + "|||(- @12 1)|0:3(@10 - 0)(@8) 1:3(@6 @0)(@4) 1:2(@2 -)(- @12)|7 8|2|0|300"},
		{"full", fullEngine,
			"20+10|1(c1) 0(@0 @9 5) 2(@2 -) 1(@2) 3(7 8)|||(@9 - 3)|0:3(@0 c4 2)(@6) 1:2(@11 @2)(@9 @0)|5 6|1|0|7",
			"20+10|1(c1) 0(@0 @9 5) 2(@2 -) 1(@2) 3(7 8)|||(@9 - 3)|0:3(@0 c4 2)(@6) 1:2(@11 @2)(@9 @0)|5 6|1|0|7"},
		{"numbers and chips that are also places", "9+6|1(c0) 1(c9)|1(c9)||(c9 c2 9)|0:2(c0 - 2)(c11 @9)|9 2|0|0|0",
			"9+6|1(c0) 1(c9) 1(c9)|||(c9 c2 9)|0:2(c0 - 2)(c11 @4)|9 2|0|0|0",
			"9+6|1(c9)|||(c9 c2 9)|0:2(c0 - 2)(c11 @0)|9 2|0|0|0"},
		{"by a known word", "9+6|1(@9) 1(c1)|1(c2) 1(c3)|1|(@2 - 0)" + idle,
			"9+6|1(@4) 1(c1) 1(c2)|||(@2 - 0)" + idle, "9+6|1(c1)|||(@0 - 0)" + idle},
		{"nothing young, and a known word", "9+6|1(@0)||1|(@0 - 0)" + idle, "9+6|1(@0)|||(@0 - 0)" + idle, "9+6|1(@0)|||(@0 - 0)" + idle},
		{"nothing is reached", "9+6|1(c1)|1(c2)||(- c0 0)" + idle, "9+6|1(c1)|||(- c0 0)" + idle, "9+6||||(- c0 0)" + idle},
		{"no things", "9+0||||(- - 0)" + idle, "", ""},
		{"just enough room for the young", "4+6|1(c1)|1(c3)||(@4 - 0)" + idle, "4+6|1(c1) 1(c3)|||(@2 - 0)" + idle, "4+6|1(c3)|||(@0 - 0)" + idle},
		{"a word too little for the young", "3+6|1(c1)|1(c3)||(@3 - 0)" + idle, "", "3+6|1(c3)|||(@0 - 0)" + idle},
		{"a word too little for the young, and known words", "3+6|1(@3)|1(c3)|1|(@3 - 0)" + idle, "", "3+6|1(c3)|||(@0 - 0)" + idle},
		{"just enough room for all", "4+6|1(c1)|1(c2) 1(c3)||(@0 @6 0)" + idle, "", "4+6|1(c1) 1(c3)|||(@0 @2 0)" + idle},
		{"too little for both", "3+6|1(c1)|1(c2)||(@0 @3 0)" + idle, "", ""},
		{"too little for both, and known words", "3+6|1(@3)|1(c2)|1|(@0 - 0)" + idle, "", ""},
		{"ended", "9+6|1(c1) 1(c4)|1(c2) 1(c3)||(@11 @2 5)||1 2|2|1|9", "9+6|1(c1) 1(c4) 1(c3)|||(@4 @2 5)||1 2|2|1|9", "9+6|1(c4) 1(c3)|||(@2 @0 5)||1 2|2|1|9"},
	} {
		t.Run(c.name, func(t *testing.T) {
			from := engineOf(t, c.from)
			for all, text := range map[bool]string{false: c.minor, true: c.major} {
				want := from
				if text != "" {
					want = engineOf(t, text)
				}
				checkEngineSweep(t, p, from, all, want)
			}
		})
	}
	// However it ended, it is swept, and has ended so.
	for code := impl.EndNone; code <= impl.EndRoom; code++ {
		end := "|0:2(@9 - 0)(@11 -)||0|" + strconv.Itoa(code) + "|3"
		from := engineOf(t, "9+6|1(c1)|1(c2) 1(c3)||(- - 0)"+end)
		checkEngineSweep(t, p, from, true, engineOf(t, "9+6|1(c2) 1(c3)|||(- - 0)"+strings.NewReplacer("@9", "@0", "@11", "@2").Replace(end)))
	}
}

// checkEngineSweep holds a sweep against what it should come to, and against what it was ahead.
func checkEngineSweep(t *testing.T, p impl.Prog, from impl.Engine, all bool, want impl.Engine) {
	t.Helper()
	if !impl.EngineOk(p, from) {
		t.Fatalf("not ok: %s", engineText(from))
	}
	got := impl.EngineSweep(p, from, all)
	if engineText(got) != engineText(want) || !impl.EngineSame(got, want) {
		t.Fatalf("%q: all is %v: %s is swept to %s, not %s", impl.ProgText(p), all, engineText(from), engineText(got), engineText(want))
	}
	if !impl.EngineOk(p, got) {
		t.Fatalf("%q: swept, it is not ok: %s", impl.ProgText(p), engineText(got))
	}
	if ahead, behind := impl.MeanTrim(p, impl.EngineMean(p, from)), impl.MeanTrim(p, impl.EngineMean(p, got)); !impl.MeanSame(ahead, behind) || ahead.Code == impl.EndForm {
		t.Fatalf("%q: all is %v: %s meant %s, and %s means %s", impl.ProgText(p), all, engineText(from), meanText(ahead), engineText(got), meanText(behind))
	}
}

// checkEngineStep holds one step against the engine that is behind it, and against the document's words.
func checkEngineStep(t *testing.T, p impl.Prog, plan impl.Plan, host []int, from impl.Engine, want impl.Engine) {
	t.Helper()
	if !impl.EngineOk(p, from) {
		t.Fatalf("not ok: %s", engineText(from))
	}
	given, prog, own := copyEngine(from), copyProg(p), withRoom(host, 66)
	whole, wholeProg := spreadEngine(given), spreadProg(prog)
	got := impl.EngineStep(prog, plan, own, given)
	if engineText(got) != engineText(want) || !impl.EngineSame(got, want) {
		t.Errorf("by %v from %s to %s, not %s", plan, engineText(from), engineText(got), engineText(want))
	}
	if plain := plainEngineStep(p, plan, host, from); engineText(plain) != engineText(want) {
		t.Errorf("by %v and the document's words from %s to %s, not %s", plan, engineText(from), engineText(plain), engineText(want))
	}
	if !impl.EngineOk(p, got) || !impl.HeapOk(p.Types, got.Heap) {
		t.Errorf("not ok: %s", engineText(got))
	}
	if scribbleEngine(got) {
		t.Errorf("from %s: two lists are one", engineText(from))
	}
	if !reflect.DeepEqual(spreadEngine(given), whole) || !reflect.DeepEqual(spreadProg(prog), wholeProg) || !slices.Equal(own[:cap(own)], append(slices.Clone(host), 66, 66)) {
		t.Errorf("from %s: what was handed in is turned", engineText(from))
	}
}

// engineCase is an instruction that is done once by an engine of aroundIns. Engines are texts, or only their heaps and what
// is held, with a stroke between; P is its place and N the one behind. An engine behind that is = and a number is that code,
// and a step more, all else as it was.
type engineCase struct {
	ins  string
	held string
	from string
	to   string
}

// engineCaseText is the whole text of an engine of a case.
func engineCaseText(text string, pc string, at int, steps string) string {
	if parts := strings.Split(text, "|"); len(parts) == 5 {
		text = strings.Join(parts[:4], "|") + "|(3 - c1)|0:" + pc + "(4 - c2)(" + parts[4] + ")|7 -1|1|0|" + steps
	}
	return strings.NewReplacer("P", strconv.Itoa(at), "N", strconv.Itoa(at+1)).Replace(text)
}

// checkEngineCases does each case with a plan whose sizes are others than the heap's, as they are asked for at the start only.
func checkEngineCases(t *testing.T, plan impl.Plan, cases []engineCase) {
	t.Helper()
	for _, c := range cases {
		p, at := aroundIns(t, c.held, c.ins, "rany")
		from := engineOf(t, engineCaseText(c.from, "P", at, "5"))
		want := from
		if code, ok := strings.CutPrefix(c.to, "="); ok {
			want.Code, want.Steps = numberOf(t, code), from.Steps+1
		} else {
			want = engineOf(t, engineCaseText(c.to, "N", at, "6"))
		}
		checkEngineStep(t, p, plan, meanHost(), from, want)
	}
}

func TestEngineMakes(t *testing.T) {
	checkEngineCases(t, impl.Plan{Old: 1}, []engineCase{
		// Room behind the young ones: much, just enough, and a word too little, so that the young are swept.
		{"new 0", "n r0", "9+9||||5 -", "9+9||0(5 -)||@9"},
		{"new 0", "n r0", "9+6|0(1 -)|0(2 @0)||5 @9", "9+6|0(1 -)|0(2 @0) 0(5 @9)||@12"},
		{"new 0", "n r0", "9+5|0(1 -)|0(2 @0)||5 @9", "9+5|0(1 -) 0(2 @0)|0(5 @3)||@9"},
		{"new 0", "n r0", "9+3|0(1 -)|0(2 @0)||5 @9", "9+3|0(1 -) 0(2 @0)|0(5 @3)||@9"},
		{"new 0", "n r0", "9+3|0(1 -)|0(2 @0)||5 @0", "9+3|0(1 -)|0(5 @0)||@9"},
		{"new 0", "n r0", "9+5|0(1 @9)|0(2 @0)|2|5 -", "9+5|0(1 @3) 0(2 @0)|0(5 -)||@9"},
		{"new 0", "n r0", "9+6|0(1 @9)|0(2 @0)|2|5 @9", "9+6|0(1 @9)|0(2 @0) 0(5 @9)|2|@12"},
		{"new 0", "rany n r0", "9+5||0(1 -)||@9 5 @9", "9+5|0(1 -)|0(5 @0)||@0 @9"},
		// No room for all young ones behind the old ones, so all is swept; then just as much as is reached, and a word more.
		{"new 0", "n r0", "5+5|0(1 -)|0(2 -)||5 @5", "5+5|0(2 -)|0(5 @0)||@5"},
		{"new 0", "n r0", "5+5|0(1 -)|0(2 -)||5 @0", "5+5|0(1 -)|0(5 @0)||@5"},
		{"new 0", "n r0", "3+3|0(1 -)|0(2 -)||5 @3", "3+3|0(2 -)|0(5 @0)||@3"},
		{"new 0", "n r0", "5+5|0(1 -)|0(2 @0)||5 @5", "=9"},
		{"new 0", "rany n r0", "5+5|0(1 -)|0(2 -)||@0 5 @5", "=9"},
		{"new 0", "rany n r0", "6+5|0(1 -)|0(2 -)||@0 5 @6", "6+5|0(1 -) 0(2 -)|0(5 @3)||@0 @6"},
		{"new 0", "n r0", "2+3||0(2 -)||5 @2", "=9"},
		{"new 0", "n r0", "2+3||0(2 -)||5 -", "2+3||0(5 -)||@2"},
		{"new 0", "n r0", "5+5|0(1 @5)|0(2 @0)|2|5 @5", "=9"},
		// Greater than all that there is for young ones, so it is made old.
		{"new 0", "n r0", "9+2|0(1 -)|||5 @0", "9+2|0(1 -) 0(5 @0)|||@3"},
		{"new 0", "n r0", "9+2|0(1 -)|2(7)||5 @0", "9+2|0(1 -) 0(5 @0)|||@3"},
		{"new 0", "r2 n r0", "9+2|0(1 -)|2(7)||@9 5 @0", "9+2|0(1 -) 2(7) 0(5 @0)|||@3 @5"},
		{"new 1", "n r0 rany", "9+2|0(1 -)|2(7)||5 @0 @9", "9+2|0(1 -) 2(7) 1(5 @0 @3)|||@5"},
		{"new 0", "n r0", "9+2|0(1 @0)||2|5 @0", "9+2|0(1 @0) 0(5 @0)|||@3"},
		{"new 0", "n r0", "6+2|0(1 -)|||5 @0", "6+2|0(1 -) 0(5 @0)|||@3"},
		{"new 0", "n r0", "5+2|0(1 -)|||5 @0", "=9"},
		{"new 0", "n r0", "5+2|0(1 -)|||5 -", "5+2|0(5 -)|||@0"},
		{"new 0", "n r0", "7+2|0(1 -) 0(2 -)|2()||5 @3", "7+2|0(2 -) 0(5 @0)|||@3"},
		{"new 0", "rany n r0", "7+2|0(1 -) 0(2 -)|2()||@7 5 @3", "7+2|0(2 -) 2() 0(5 @0)|||@3 @4"},
		{"new 0", "rany n r0", "6+2|0(1 -) 0(2 -)|2()||@6 5 @3", "=9"},
		{"new 0", "rany n r0", "7+2|0(1 -) 0(2 -)|2() 2()||@8 5 @3", "7+2|0(2 -) 2() 0(5 @0)|||@3 @4"},
		{"new 0", "n r0", "3+2||||5 -", "3+2|0(5 -)|||@0"},
		{"new 0", "n r0", "2+2||||5 -", "=9"},
		{"new 0", "n r0", "1+2||2(7)||5 -", "=9"},
		// No words for young ones.
		{"new 0", "n r0", "9+0||||5 -", "9+0|0(5 -)|||@0"},
		{"new 0", "n r0", "6+0|0(1 -)|||5 @0", "6+0|0(1 -) 0(5 @0)|||@3"},
		{"new 0", "n r0", "5+0|0(1 -)|||5 @0", "=9"},
		{"new 0", "n r0", "5+0|0(1 @0)||2|5 @0", "=9"},
		{"new 0", "n r0", "3+0|0(1 -)|||5 -", "3+0|0(5 -)|||@0"},
		{"new 0", "n r0", "6+0|0(1 -) 0(2 -)|||5 @3", "6+0|0(2 -) 0(5 @0)|||@3"},
		{"new 0", "n r0", "2+0||||5 -", "=9"},
		{"new 0", "n r0", "120+40|" + strings.Repeat("2(1 2 3 4) ", 23) + "||" + "|5 -", "120+40|" + strings.Repeat("2(1 2 3 4) ", 23) + "|0(5 -)||@120"},
	})
}

func TestEngineMakesRows(t *testing.T) {
	checkEngineCases(t, impl.Plan{Old: 1}, []engineCase{
		{"row 2", "n n", "9+4||||3 7", "9+4||2(7 7 7)||@9"},
		{"row 2", "n n", "9+4||||0 7", "9+4||2()||@9"},
		{"row 2", "n n", "9+4|0(1 -)|2(5)||1 7", "9+4|0(1 -)|2(5) 2(7)||@11"},
		{"row 2", "n n", "9+4|0(1 -)|2(5)||2 7", "9+4|0(1 -)|2(7 7)||@9"},
		{"row 2", "n n", "9+7||||6 7", "9+7||2(7 7 7 7 7 7)||@9"},
		{"row 2", "n n", "9+6||||6 7", "9+6|2(7 7 7 7 7 7)|||@0"},
		{"row 2", "n n", "7+0||||6 9972", "7+0|2(9972 9972 9972 9972 9972 9972)|||@0"},
		{"row 2", "n n", "6+6||||6 7", "=9"},
		{"row 2", "n n", "1+0||||0 7", "1+0|2()|||@0"},
		{"row 2", "n n", "1+0|2()|||0 7", "1+0|2()|||@0"},
		{"row 2", "rany n n", "1+0|2()|||@0 0 7", "=9"},
		{"row 2", "rany n n", "2+0|2()|||@0 0 7", "2+0|2() 2()|||@0 @1"},
		// What stands in it is moved with it, as often as it stands there.
		{"row 3", "n r0", "9+5|0(1 -)|0(2 @0)||2 @9", "9+5|0(1 -) 0(2 @0)|3(@3 @3)||@9"},
		{"row 3", "n r0", "5+5|0(1 -)|0(2 -)||4 @5", "5+5|0(2 -)|3(@0 @0 @0 @0)||@5"},
		{"row 3", "n r0", "9+3|0(1 -)|0(2 -)||3 @9", "9+3|0(2 -) 3(@0 @0 @0)|||@3"},
		{"row 3", "n r0", "10+3|0(1 -)|0(2 -)||3 @10", "10+3|0(1 -) 0(2 -) 3(@3 @3 @3)|||@6"},
		{"row 3", "n r0", "9+3|0(1 -)|0(2 -)||4 @9", "9+3|0(2 -) 3(@0 @0 @0 @0)|||@3"},
		{"row 3", "n r0", "9+3|0(1 -)|0(2 @0)||3 @9", "=9"},
		// One of nothing holds nothing, so what was beside it is lost.
		{"row 3", "n r0", "9+3|0(1 -)|0(2 -)||0 @9", "9+3|0(1 -) 0(2 -)|3()||@9"},
		// Too long is told ahead of all that is swept, and whatever room there is.
		{"row 2", "n n", "9+4|0(1 -)|2(5)||7 7", "=5"},
		{"row 2", "n n", "120+40||||7 7", "=5"},
		{"row 2", "n n", "1+0||||7 7", "=5"},
		{"row 2", "n n", "1+0||||9972 7", "=5"},
		{"row 3", "n r0", "5+5|0(1 -)|0(2 @0)||7 @5", "=5"},
	})
}

// TestEngineMakesWhileAllNameYoung makes things while what all share, and places and stacks of several frames, name what moves.
func TestEngineMakesWhileAllNameYoung(t *testing.T) {
	p := readProg(t, `group
box - n! r0!
row - rany!
glob r0 rany
fun n
own r0
get 0
call 1
say
drop
num 0
ret
fun n
own rany r0
get 1
num 5
get 1
new 0
drop
drop
num 2
null any
row 1
drop
num 0
ret
`)
	for name, c := range map[string][2]string{
		"behind a sweep of the young": {
			"40+12|0(1 -)|0(2 -) 0(3 @40) 0(4 @0) 0(6 -)||(@46 c1)|0:2(@43)(@0) 1:3(@49 @40)(@46 5 @43)|9|1|0|8",
			"40+12|0(1 -) 0(4 @0) 0(3 @12) 0(6 -) 0(2 -)|0(5 @6)||(@3 c1)|0:2(@6)(@0) 1:4(@9 @12)(@3 @40)|9|1|0|9",
		},
		"behind a sweep of all": {
			"17+12|0(1 -) 0(7 -)|0(2 -) 0(3 @17) 0(4 @0) 0(6 -)||(@23 c1)|0:2(@20)(@0) 1:3(@26 @17)(@23 5 @20)|9|1|0|8",
			"17+12|0(1 -) 0(2 -) 0(3 @3) 0(4 @0) 0(6 -)|0(5 @6)||(@9 c1)|0:2(@6)(@0) 1:4(@12 @3)(@9 @17)|9|1|0|9",
		},
		"made old": {
			"30+2|0(1 -) 0(2 -)|1() 1()||(@3 @31)|0:2(@0)(@3) 1:3(@30 @0)(@0 5 @3)|9|1|0|8",
			"30+2|0(1 -) 0(2 -) 1() 1() 0(5 @3)|||(@3 @6)|0:2(@0)(@3) 1:4(@7 @0)(@0 @8)|9|1|0|9",
		},
		"made old behind a sweep of all": {
			"13+2|0(1 -) 0(7 -) 0(2 -)|1() 1()||(@6 @14)|0:2(@0)(@6) 1:3(@13 @0)(@0 5 @6)|9|1|0|8",
			"13+2|0(1 -) 0(2 -) 1() 1() 0(5 @3)|||(@3 @6)|0:2(@0)(@3) 1:4(@7 @0)(@0 @8)|9|1|0|9",
		},
		"a row, behind a sweep of the young": {
			"20+5|0(1 -)|0(2 -)||(@20 -)|0:2(-)(@20) 1:8(@0 @20)(2 @20)|9|1|0|8",
			"20+5|0(1 -) 0(2 -)|1(@3 @3)||(@3 -)|0:2(-)(@3) 1:9(@0 @3)(@20)|9|1|0|9",
		},
		"no room": {
			"10+12|0(1 -) 0(7 -)|0(2 -) 0(3 @10) 0(4 @0) 0(6 -)||(@16 c1)|0:2(@13)(@0) 1:3(@19 @10)(@16 5 @13)|9|1|0|8",
			"10+12|0(1 -) 0(7 -)|0(2 -) 0(3 @10) 0(4 @0) 0(6 -)||(@16 c1)|0:2(@13)(@0) 1:3(@19 @10)(@16 5 @13)|9|1|9|9",
		},
		"no room, and known words": {
			"10+9|0(1 @10) 0(7 @10)|0(2 @10) 0(3 @10) 0(4 @0)|5 2|(@16 c1)|0:2(@13)(@0) 1:3(@3 @10)(@16 5 @13)|9|1|0|8",
			"10+9|0(1 @10) 0(7 @10)|0(2 @10) 0(3 @10) 0(4 @0)|5 2|(@16 c1)|0:2(@13)(@0) 1:3(@3 @10)(@16 5 @13)|9|1|9|9",
		},
	} {
		t.Run(name, func(t *testing.T) {
			checkEngineStep(t, p, impl.Plan{Old: 1}, nil, engineOf(t, c[0]), engineOf(t, c[1]))
		})
	}
}

// TestEngineMakesOfNothing has things that are a head alone, whose word is 0.
func TestEngineMakesOfNothing(t *testing.T) {
	p := readProg(t, "group\nbox -\nglob rany\nfun s0\nnew 0\nret\n")
	for from, want := range map[string]string{
		"2+1||||(-)|0:0()()||0|0|0":            "2+1||0()||(-)|0:1()(@2)||0|0|1",
		"2+1||0()||(@2)|0:0()()||0|0|0":        "2+1|0()|0()||(@0)|0:1()(@2)||0|0|1",
		"1+1|0()|0()||(@1)|0:0()()||0|0|0":     "1+1|0()|0()||(@0)|0:1()(@1)||0|0|1",
		"1+0|0()|||(-)|0:0()()||0|0|0":         "1+0|0()|||(-)|0:1()(@0)||0|0|1",
		"1+0|0()|||(@0)|0:0()()||0|0|0":        "1+0|0()|||(@0)|0:0()()||0|9|1",
		"2+0|0()|||(@0)|0:0()()||0|0|0":        "2+0|0() 0()|||(@0)|0:1()(@1)||0|0|1",
		"2+0|0() 0()|||(@1)|0:0()()||0|0|0":    "2+0|0() 0()|||(@0)|0:1()(@1)||0|0|1",
		"2+1|0() 0()|0()||(c0)|0:0()()||0|0|0": "2+1||0()||(c0)|0:1()(@2)||0|0|1",
	} {
		checkEngineStep(t, p, impl.Plan{Old: 1}, nil, engineOf(t, from), engineOf(t, want))
	}
}

func TestEnginePuts(t *testing.T) {
	checkEngineCases(t, impl.Plan{Old: 1}, []engineCase{
		// Old and young things into old and young ones.
		{"put 0 1", "r0 r0", "9+6|0(1 -) 0(2 -)|||@0 @3", "9+6|0(1 @3) 0(2 -)||2|"},
		{"put 0 1", "r0 r0", "9+6|0(1 -)|0(2 -)||@0 @9", "9+6|0(1 @9)|0(2 -)|2|"},
		{"put 0 1", "r0 r0", "9+6|0(1 -)|0(2 -)||@9 @0", "9+6|0(1 -)|0(2 @0)||"},
		{"put 0 1", "r0 r0", "9+6||0(1 -) 0(2 -)||@9 @12", "9+6||0(1 @12) 0(2 -)||"},
		{"put 0 1", "n r0 r0", "9+6|0(1 -)|||8 @0 @0", "9+6|0(1 @0)||2|8"},
		{"put 0 1", "r0 r0", "9+6|0(1 -)|1(2 - -)||@0 -", "9+6|0(1 -)|1(2 - -)|2|"},
		{"put 0 1", "s1 r1", "9+6|1(1 - c5)|1(2 - -)||@0 @9", "9+6|1(1 @9 c5)|1(2 - -)|2|"},
		{"put 4 0", "s6 s1", "20+6|0(1 -) 6(@0 - 3)|1(1 - -)||@3 @20", "20+6|0(1 -) 6(@20 - 3)|1(1 - -)|4|"},
		// A word that is known already, and others beside it.
		{"put 0 1", "r0 r0", "9+6|0(1 @9)|0(2 -)|2|@0 @9", "9+6|0(1 @9)|0(2 -)|2|"},
		{"put 0 1", "r0 r0", "9+6|0(1 @9)|0(2 -)|2|@0 -", "9+6|0(1 -)|0(2 -)|2|"},
		{"put 0 1", "r0 r0", "9+6|0(1 -) 0(2 @9)|0(3 -)|5|@0 @9", "9+6|0(1 @9) 0(2 @9)|0(3 -)|5 2|"},
		// A number is no word that may name something.
		{"put 0 0", "r0 n", "9+6|0(1 -)|||@0 20", "9+6|0(20 -)|||"},
		{"put 0 0", "r0 n", "9+6||0(1 -)||@9 20", "9+6||0(20 -)||"},
		{"put 0 1", "r0 r0", "9+6|0(1 -)|0(2 -)||- @9", "=2"},
		{"lay 3", "r3 n r0", "9+6|3(- -)|0(2 -)||@0 0 @9", "9+6|3(@9 -)|0(2 -)|1|"},
		{"lay 3", "r3 n r0", "9+6|3(- -)|0(2 -)||@0 1 @9", "9+6|3(- @9)|0(2 -)|2|"},
		{"lay 3", "r3 n r0", "9+6|3(- @9) 0(1 -)|0(2 -)|2|@0 1 @3", "9+6|3(- @3) 0(1 -)|0(2 -)|2|"},
		{"lay 3", "s7 n r0", "9+6|0(1 -)|7(- - -)||@9 2 @0", "9+6|0(1 -)|7(- - @0)||"},
		{"lay 3", "rany r3 n r0", "9+9||0(1 -) 3(- -)||c4 @12 1 @9", "9+9||0(1 -) 3(- @9)||c4"},
		{"lay 2", "r2 n n", "9+6|2(1 2)|||@0 1 9972", "9+6|2(1 9972)|||"},
		{"lay 2", "r2 n n", "9+6||2(1 2)||@9 0 7", "9+6||2(7 2)||"},
		{"lay 2", "r2 n n", "9+6||2(1 2)||@9 2 7", "=4"},
		{"lay 2", "r2 n n", "9+6|2(1 2)|||@0 2 7", "=4"},
		{"lay 2", "r2 n n", "9+6|2()|2(1)||@0 0 7", "=4"},
		{"lay 3", "r3 n r0", "9+6|3(-)|0(2 -)||@0 1 @9", "=4"},
		{"lay 3", "r3 n r0", "9+6|3(-)|0(2 -)||- 1 @9", "=2"},
	})
}

// TestEngineLooks asks of things of both ages, which stay where they are.
func TestEngineLooks(t *testing.T) {
	both := "20+9|0(1 @0) 1(5 @0 @20) 2(8 9)|0(2 @3) 5(@3 c7)|6|"
	var cases []engineCase
	for _, c := range []engineCase{
		{"look 0 0", "r0", "@3", "5"}, {"look 0 1", "r0", "@20", "@3"}, {"look 1 2", "r1", "@3", "@20"}, {"look 4 0", "r5", "@23", "@3"}, {"look 4 1", "r4", "@23", "c7"}, {"look 0 1", "r0", "-", "=2"},
		{"at 2", "r2 n", "@7 1", "9"}, {"at 2", "r2 n", "@7 2", "=4"}, {"at 2", "r2 n", "- 2", "=2"}, {"len 2", "r2", "@7", "2"}, {"len 2", "r2", "-", "=2"},
		{"same", "rany rany", "@20 @20", "1"}, {"same", "rany rany", "@20 @0", "0"}, {"same", "rany rany", "@20 c20", "0"}, {"none", "rany", "@20", "0"}, {"sure", "rany", "@20", "@20"}, {"sure", "rany", "-", "=2"},
		{"test 0", "rany", "@3", "1"}, {"test 1", "rany", "@20", "0"}, {"test 4", "rany", "@23", "1"}, {"test chip", "rany", "@23", "0"}, {"test any", "rany", "@23", "1"}, {"test chip", "rany", "c23", "1"}, {"test any", "rany", "-", "0"},
		{"cast 0", "rany", "@3", "@3"}, {"cast 1", "rany", "@20", "=3"}, {"cast 5", "rany", "@23", "@23"}, {"cast 2", "rany", "@7", "@7"}, {"cast chip", "rany", "@7", "=3"}, {"cast any", "rany", "-", "=3"},
	} {
		to := c.to
		if !strings.HasPrefix(to, "=") {
			to = both + to
		}
		cases = append(cases, engineCase{c.ins, c.held, both + c.from, to})
	}
	checkEngineCases(t, impl.Plan{Old: 1}, cases)
	told := both + "(3 - c1)|0:N(4 - c2)()|7 -1 "
	checkEngineCases(t, impl.Plan{Old: 1}, []engineCase{
		{"show", "rany", both + "@20", told + "9973|1|0|6"}, {"show", "rany", both + "@3", told + "9974|1|0|6"}, {"show", "rany", both + "@23", told + "9977|1|0|6"}, {"show", "rany", both + "@7", told + "9975|1|0|6"},
		{"show", "rany", both + "c20", told + "-22|1|0|6"}, {"show", "rany", both + "-", told + "-1|1|0|6"}, {"say", "n", both + "20", told + "20|1|0|6"},
	})
}

func TestEngineSweepsWhenAsked(t *testing.T) {
	checkEngineCases(t, impl.Plan{Old: 1}, []engineCase{
		{"sweep 0", "r0", "9+6|0(1 -)|0(2 @0) 0(3 -)||@9", "9+6|0(1 -) 0(2 @0)|||@3"},
		{"sweep 1", "r0", "9+6|0(1 -)|0(2 @0) 0(3 -)||@9", "9+6|0(1 -) 0(2 @0)|||@3"},
		{"sweep 0", "r0", "9+6|0(1 -)|0(2 -) 0(3 -)||@12", "9+6|0(1 -) 0(3 -)|||@3"},
		{"sweep 1", "r0", "9+6|0(1 -)|0(2 -) 0(3 -)||@12", "9+6|0(3 -)|||@0"},
		{"sweep 0", "r0 r0", "9+6||0(2 -) 0(3 -)||@12 @9", "9+6|0(3 -) 0(2 -)|||@0 @3"},
		{"sweep 1", "r0 r0", "9+6||0(2 -) 0(3 -)||@12 @9", "9+6|0(2 -) 0(3 -)|||@3 @0"},
		{"sweep 0", "", "9+6|0(1 @9)|0(2 -)|2|", "9+6|0(1 @3) 0(2 -)|||"},
		{"sweep 1", "", "9+6|0(1 @9)|0(2 -)|2|", "9+6||||"},
		// As it is, if there is no room; and it goes on.
		{"sweep 0", "r0", "5+6|0(1 -)|0(2 -)||@5", "5+6|0(1 -)|0(2 -)||@5"},
		{"sweep 1", "r0", "5+6|0(1 -)|0(2 -)||@5", "5+6|0(2 -)|||@0"},
		{"sweep 1", "r0", "5+6|0(1 @5)|0(2 @0)|2|@5", "5+6|0(1 @5)|0(2 @0)|2|@5"},
	})
}

// TestEnginePlans sweeps ahead of a step, by plans of each kind.
func TestEnginePlans(t *testing.T) {
	from := "9+6|0(1 -)|0(2 -) 0(3 -)||@12 @9"
	behind := map[string]string{
		"":     "9+6|0(1 -)|0(2 -) 0(3 -)||@12 @9 8",
		"M":    "9+6|0(1 -) 0(3 -) 0(2 -)|||@3 @6 8",
		"A":    "9+6|0(2 -) 0(3 -)|||@3 @0 8",
		"both": "9+6|0(3 -) 0(2 -)|||@0 @3 8",
	}
	p, at := aroundIns(t, "r0 r0", "num 8", "rany")
	for _, steps := range []int{0, 1, 2, 5, 11, 149, 298, 299} {
		for _, minor := range []int{0, 1, 2, 3, 4, 5, 6, 7, 12, 150, 299, 300} {
			for _, major := range []int{0, 1, 2, 3, 4, 5, 6, 7, 12, 150, 299, 300} {
				due := ""
				if minor != 0 && (steps+1)%minor == 0 {
					due = "M"
				}
				if major != 0 && (steps+1)%major == 0 {
					due = map[string]string{"": "A", "M": "both"}[due]
				}
				plan := impl.Plan{Old: 120, Young: 40, Minor: minor, Major: major}
				checkEngineStep(t, p, plan, nil, engineOf(t, engineCaseText(from, "P", at, strconv.Itoa(steps))), engineOf(t, engineCaseText(behind[due], "N", at, strconv.Itoa(steps+1))))
			}
		}
	}
	// Where it can not be swept it goes on; of both, each is done by itself.
	checkEngineCases(t, impl.Plan{Old: 1, Minor: 1}, []engineCase{
		{"num 8", "r0", "5+6|0(1 -)|0(2 -)||@5", "5+6|0(1 -)|0(2 -)||@5 8"},
		{"num 8", "r0", "6+6|0(1 -)|0(2 -)||@6", "6+6|0(1 -) 0(2 -)|||@3 8"},
	})
	checkEngineCases(t, impl.Plan{Old: 1, Major: 6}, []engineCase{
		{"num 8", "r0", "5+6|0(1 -)|0(2 @0)||@5", "5+6|0(1 -)|0(2 @0)||@5 8"},
		{"num 8", "r0", "5+6|0(1 -)|0(2 -)||@5", "5+6|0(2 -)|||@0 8"},
	})
	checkEngineCases(t, impl.Plan{Old: 1, Minor: 2, Major: 3}, []engineCase{
		{"num 8", "r0", "5+6|0(1 -)|0(2 @0)||@5", "5+6|0(1 -)|0(2 @0)||@5 8"},
		{"num 8", "r0", "5+6|0(1 -)|0(2 -)||@5", "5+6|0(2 -)|||@0 8"},
		{"num 8", "r0", "6+6|0(1 -)|0(2 @0)||@6", "6+6|0(1 -) 0(2 @0)|||@3 8"},
	})
}

// TestEnginePlansAndEnds has instructions that end while the plan sweeps: what was swept is swept, and a step was done.
func TestEnginePlansAndEnds(t *testing.T) {
	ended := func(heap string, held string, code string) string {
		return heap + "|(3 - c1)|0:P(4 - c2)(" + held + ")|7 -1|1|" + code + "|6"
	}
	from := "9+6|0(1 -)|0(2 -) 0(3 -)||"
	minor, major, both := "9+6|0(1 -) 0(3 -) 0(2 -)||", "9+6|0(2 -) 0(3 -)||", "9+6|0(3 -) 0(2 -)||"
	for plan, heap := range map[impl.Plan][2]string{
		{Old: 1, Minor: 3}:           {minor, "@3 @6"},
		{Old: 1, Major: 2}:           {major, "@3 @0"},
		{Old: 1, Minor: 6, Major: 1}: {both, "@0 @3"},
		{Old: 1, Minor: 4, Major: 5}: {strings.TrimSuffix(from, "|"), "@12 @9"},
	} {
		swept, held := heap[0], heap[1]
		checkEngineCases(t, plan, []engineCase{
			{"sure", "r0 r0 rany", from + "@12 @9 -", ended(swept, held+" -", "2")},
			{"cast chip", "r0 r0", from + "@12 @9", ended(swept, held, "3")},
			{"at 2", "r0 r0 r2 n", from + "@12 @9 - 0", ended(swept, held+" - 0", "2")},
			{"row 2", "r0 r0 n n", from + "@12 @9 7 0", ended(swept, held+" 7 0", "5")},
			{"back", "r0 r0 rchip", from + "@12 @9 -", ended(swept, held+" -", "2")},
			{"ask", "r0 r0 n", from + "@12 @9 4", swept + "|(3 - c1)|0:N(4 - c2)(" + held + " 0)|7 -1 4|2|0|6"},
		})
	}
	// There is no room for it, but what the plan swept ahead is as it is then.
	checkEngineCases(t, impl.Plan{Old: 1, Minor: 1}, []engineCase{
		{"new 0", "r0 n r0", "8+2|0(1 -) 0(2 @0)|2(9)||@3 5 @0", ended("8+2|0(1 -) 0(2 @0)||", "@3 5 @0", "9")},
		{"new 0", "rany n r0", "8+2|0(1 -) 0(2 @0)|2(9)||@8 5 @3", ended("8+2|0(1 -) 0(2 @0) 2(9)||", "@6 5 @3", "9")},
	})
	checkEngineCases(t, impl.Plan{Old: 1, Major: 3}, []engineCase{
		{"new 0", "rany n r0", "10+2|0(7 -) 0(1 -) 0(2 @3)|2(9)||@10 5 @6", ended("10+2|0(1 -) 0(2 @0) 2(9)||", "@6 5 @3", "9")},
		{"row 2", "rany n n", "8+2|0(7 -) 0(1 -)|2(9)||@3 6 4", ended("8+2|0(1 -)||", "@0 6 4", "9")},
	})
}

// TestEngineStepAsItIs turns nothing where it has ended, or where as many steps were done as there may be.
func TestEngineStepAsItIs(t *testing.T) {
	plans := []impl.Plan{{Old: 1}, {Old: 1, Minor: 1}, {Old: 1, Major: 1}, {Old: 120, Young: 40, Minor: 1, Major: 1}, {Old: 9, Minor: 300, Major: 300}}
	p, at := aroundIns(t, "n r0", "new 0", "rany")
	pc := strconv.Itoa(at)
	for _, plan := range plans {
		for code := 1; code <= 9; code++ {
			for _, steps := range []string{"0", "5", "299", "300"} {
				text := "9+9|0(1 -)|0(2 -) 0(3 -)||(3 @9 c1)|0:" + pc + "(4 - c2)(5 @0)|7 -1|1|" + strconv.Itoa(code) + "|" + steps
				if code == impl.EndFine {
					text = "9+9|0(1 -)|0(2 -) 0(3 -)||(3 @9 c1)||7 -1|1|1|" + steps
				}
				checkEngineStep(t, p, plan, meanHost(), engineOf(t, text), engineOf(t, text))
			}
		}
		last := engineOf(t, "9+9|0(1 -)|0(2 -) 0(3 -)||(3 @9 c1)|0:"+pc+"(4 - c2)(5 @0)|7 -1|1|0|300")
		checkEngineStep(t, p, plan, meanHost(), last, last)
	}
	checkEngineStep(t, p, impl.Plan{Old: 1}, nil, engineOf(t, "9+9|||"+"|(3 - c1)|0:"+pc+"(4 - c2)(5 -)|7 -1|1|0|299"),
		engineOf(t, "9+9||0(5 -)||(3 - c1)|0:"+strconv.Itoa(at+1)+"(4 - c2)(@9)|7 -1|1|0|300"))
}

// TestEngineWrongPlans asks for steps and runs by plans that are not ok.
func TestEngineWrongPlans(t *testing.T) {
	p := readProg(t, trimWorld)
	form := engineText(plainEngineForm())
	for _, plan := range wrongPlans() {
		for _, text := range []string{fullEngine, "9+5||||(- - 0)||9 8|2|1|300", "9+5||||(- - 0)|0:0(- - 0)()||0|9|300"} {
			e := engineOf(t, text)
			if !impl.EngineOk(p, e) {
				t.Fatalf("not ok: %s", text)
			}
			if got := impl.EngineStep(p, plan, meanHost(), e); engineText(got) != form {
				t.Errorf("by %v a step from %s: %s", plan, text, engineText(got))
			}
		}
		for _, fuel := range []int{0, 1, 300} {
			if got := impl.EngineRun(p, plan, nil, fuel); engineText(got) != form {
				t.Errorf("by %v a run of %d: %s", plan, fuel, engineText(got))
			}
		}
	}
}

// checkLaidSteps lays a state out on heaps, with its first things old and all others young, and asks that a step of each
// engine means what a step of the state comes to.
func checkLaidSteps(t *testing.T, p impl.Prog, host []int, from impl.Mean) {
	t.Helper()
	to := impl.MeanStep(p, host, from)
	for first := range len(from.Things) + 1 {
		for _, others := range []int{40, 0} {
			e, ok := laidEngine(from, 120, others, first, 9)
			if !ok {
				continue
			}
			if !impl.EngineOk(p, e) || !impl.MeanSame(impl.EngineMean(p, e), from) {
				t.Fatalf("%s does not mean %s", engineText(e), meanText(from))
			}
			got := impl.EngineStep(p, impl.Plan{Old: 1}, host, e)
			mean, want, steps := impl.EngineMean(p, got), to, 10
			if from.Code != impl.EndGoes {
				steps = 9
			} else if plainEngineIns(p, e).Op == impl.InsSweep {
				// What is swept is in another order, or lost.
				mean, want = impl.MeanTrim(p, mean), impl.MeanTrim(p, to)
			}
			if !impl.MeanSame(mean, want) || got.Code != want.Code || got.Steps != steps || !impl.EngineOk(p, got) {
				t.Errorf("from %s to %s, which means %s, not %s", engineText(e), engineText(got), meanText(mean), meanText(want))
			}
		}
	}
}

func TestEngineRunFuel(t *testing.T) {
	plan := impl.Plan{Old: 9, Young: 4}
	loop := readProg(t, "glob n\nfun n\ntake 0\nnum 1\nadd\nkeep 0\njump 0\n")
	for fuel, want := range map[int]string{
		0: "9+4||||(0)|0:0()()||0|0|0", 1: "9+4||||(0)|0:1()(0)||0|0|1", 5: "9+4||||(1)|0:0()()||0|0|5", 299: "9+4||||(60)|0:4()()||0|0|299", 300: "9+4||||(60)|0:0()()||0|0|300",
	} {
		if got := impl.EngineRun(loop, plan, nil, fuel); engineText(got) != engineText(engineOf(t, want)) {
			t.Errorf("by %d: %s, not %s", fuel, engineText(got), want)
		}
	}
	for _, fuel := range []int{-1, -2, 301, 302, math.MinInt, math.MaxInt} {
		if got := impl.EngineRun(loop, plan, nil, fuel); engineText(got) != engineText(plainEngineForm()) {
			t.Errorf("by %d: %s", fuel, engineText(got))
		}
	}
	// It ends when it ends, whatever fuel is left.
	short := readProg(t, "fun n\nnum 1\nret\n")
	for fuel, want := range map[int]string{0: "9+4||||()|0:0()()||0|0|0", 1: "9+4||||()|0:1()(1)||0|0|1", 2: "9+4||||()|||0|1|2", 3: "9+4||||()|||0|1|2", 300: "9+4||||()|||0|1|2"} {
		if got := impl.EngineRun(short, plan, nil, fuel); engineText(got) != engineText(engineOf(t, want)) {
			t.Errorf("by %d: %s, not %s", fuel, engineText(got), want)
		}
	}
}

// TestEngineRunByHand is whole programs, with what they come to.
func TestEngineRunByHand(t *testing.T) {
	asks := "fun n\nnum 1\nask\nsay\nnum 2\nask\nret\n"
	for _, c := range []struct {
		text string
		plan impl.Plan
		host []int
		want string
	}{
		{asks, impl.Plan{Old: 1}, []int{8}, "1+0||||()|0:4()(2)|1 8|1|8|5"},
		{asks, impl.Plan{Old: 1}, []int{8, 7}, "1+0||||()||1 8 2|2|1|6"},
		{asks, impl.Plan{Old: 1}, []int{-1, 7}, "1+0||||()|0:1()(1)||0|8|2"},
		{"fun n\ncall 0\nret\n", impl.Plan{Old: 1}, nil, "1+0||||()|0:1()() 0:1()() 0:1()() 0:1()() 0:0()()||0|6|5"},
		{"group\nbox - n\nfun rany\nown r0\nget 0\nlook 0 0\nnew 0\nret\n", impl.Plan{Old: 5, Young: 5}, nil, "5+5||||()|0:1(-)(-)||0|2|2"},
		{"group\nbox - n\nfun rany\nnum 1\nnew 0\nnum 2\nnew 0\ndrop\nsweep 1\nret\n", impl.Plan{Old: 5, Young: 5}, nil, "5+5|0(1)|||()|||0|1|7"},
		{"group\nbox - n\nfun rany\nnum 1\nnew 0\nnum 2\nnew 0\ndrop\nsweep 0\nret\n", impl.Plan{Old: 5}, nil, "5+0|0(1) 0(2)|||()|||0|1|7"},
		{"group\nbox - n\nfun rany\nnum 1\nnew 0\nnum 2\nnew 0\ndrop\nsweep 1\nret\n", impl.Plan{Old: 3}, nil, "3+0|0(1)|||()|0:3()(@0 2)||0|9|4"},
		{"fun n\n" + strings.Repeat("num 3\nsay\n", 14) + "jump 0\n", impl.Plan{Old: 1}, nil, "1+0||||()|0:5()(3)|" + strings.TrimSpace(strings.Repeat("3 ", 30)) + "|0|7|64"},
	} {
		p := readProg(t, c.text)
		if got := impl.EngineRun(p, c.plan, c.host, 300); engineText(got) != engineText(engineOf(t, c.want)) {
			t.Errorf("%q: %s, not %s", c.text, engineText(got), c.want)
		}
	}
}

// TestEngineExample is the example of the document's last chapter.
func TestEngineExample(t *testing.T) {
	p := readProg(t, "group\nbox - n r0!\nfun n\nown r0 n\nnum 7\nnull 0\nnew 0\nset 0\nget 0\nget 0\nput 0 1\nnum 3\nchip\nshow\nget 0\nshow\nget 0\nlook 0 1\nlook 0 0\nsay\nnum 0\nret\n")
	plan := impl.Plan{Old: 20, Young: 6, Minor: 4}
	if e := impl.EngineRun(p, plan, nil, 100); !slices.Equal(e.Outs, []int{-5, 9973, 7}) || e.Code != impl.EndFine {
		t.Error(engineText(e))
	}
	e := impl.EngineRun(p, plan, nil, 12)
	if trim := impl.MeanTrim(p, impl.EngineMean(p, e)); len(trim.Things) != 1 || trim.Things[0].Type != 0 || valsText(trim.Things[0].Vals) != "(7 @0)" {
		t.Error(meanText(trim))
	}
	if e.Heap.OldAt != 3 || e.Heap.YoungAt != 0 || len(e.Heap.Log) != 0 {
		t.Error(engineText(e))
	}
}

// TestEngineHoldsEverMore has a program that keeps each thing that it makes: how many there are when there is no room is told
// by the words that there are alone.
func TestEngineHoldsEverMore(t *testing.T) {
	p := readProg(t, "group\nbox - n r0!\nglob r0\nfun n\nown n\nget 0\ntake 0\nnew 0\nkeep 0\nget 0\nnum 1\nadd\nset 0\njump 0\n")
	for old := 1; old <= impl.OldMost; old++ {
		for _, young := range []int{0, 1, 2, 3, 4, 5, 6, 7, 12, 39, 40} {
			// Things of three words: as many as fit, or till the young ones are full while the others are more than fit.
			made := old / 3
			if fit := young / 3; fit > 0 {
				for made = fit; 3*made <= old; made += fit {
				}
			}
			plan := impl.Plan{Old: old, Young: young}
			e := impl.EngineRun(p, plan, nil, 300)
			if steps := 9*made + 3; steps <= 300 {
				if e.Code != impl.EndRoom || e.Steps != steps || len(impl.EngineMean(p, e).Things) != made {
					t.Errorf("%v: %d made: %s", plan, made, engineText(e))
				}
			} else if e.Code != impl.EndGoes || e.Steps != 300 {
				t.Errorf("%v: %s", plan, engineText(e))
			}
			if !impl.EngineOk(p, e) {
				t.Errorf("%v: not ok: %s", plan, engineText(e))
			}
		}
	}
}

// TestEngineDropsAll has a program that keeps only the last thing that it makes: little room is enough, however long it goes.
func TestEngineDropsAll(t *testing.T) {
	p := readProg(t, "group\nbox - n r0!\nglob r0\nfun n\nown n\nget 0\nnull 0\nnew 0\nkeep 0\nget 0\nnum 1\nadd\nset 0\njump 0\n")
	want := impl.MeanTrim(p, impl.MeanRun(p, nil, 300))
	if len(want.Things) != 2 {
		t.Fatal(meanText(want))
	}
	for old := 1; old <= 12; old++ {
		for young := 0; young <= 12; young++ {
			// While a thing is made the one ahead is still kept: one of them may be young.
			enough := old >= 6 || old >= 3 && young >= 3
			for _, each := range [][2]int{{0, 0}, {1, 0}, {0, 1}, {1, 1}, {2, 0}, {0, 2}, {5, 7}} {
				plan := impl.Plan{Old: old, Young: young, Minor: each[0], Major: each[1]}
				e := impl.EngineRun(p, plan, nil, 300)
				if !impl.EngineOk(p, e) {
					t.Errorf("%v: not ok: %s", plan, engineText(e))
				}
				if enough && (e.Code != impl.EndGoes || e.Steps != 300 || !impl.MeanSame(impl.MeanTrim(p, impl.EngineMean(p, e)), want)) || !enough && e.Code != impl.EndRoom {
					t.Errorf("%v: %s", plan, engineText(e))
				}
			}
		}
	}
}

// TestEngineKeepsYoungInOld has a program that puts new things into an old row, over and over, and looks at what is there.
func TestEngineKeepsYoungInOld(t *testing.T) {
	p := readProg(t, `group
box - n! rany!
row - r0!
fun n
own r1 n r0
num 4
null 0
row 1
set 0
sweep 0
get 0
num 1
get 1
get 2
new 0
lay 1
get 0
num 1
at 1
set 2
get 2
get 0
put 0 1
get 2
look 0 0
say
get 1
num 1
add
set 1
jump 5
`)
	m := impl.MeanRun(p, nil, 300)
	if len(m.Outs) != 14 || m.Outs[13] != 13 {
		t.Fatal(meanText(m))
	}
	known := 0
	for _, old := range []int{8, 9, 10, 11, 12, 15, 20, 40} {
		for young := range 11 {
			for _, each := range [][2]int{{0, 0}, {1, 0}, {0, 1}, {1, 1}, {3, 0}, {0, 3}, {2, 5}, {10, 0}} {
				plan := impl.Plan{Old: old, Young: young, Minor: each[0], Major: each[1]}
				e := impl.EngineRun(p, plan, nil, 300)
				if e.Code == impl.EndRoom && old >= 11 {
					t.Errorf("%v: no room for a row and two things: %s", plan, engineText(e))
				}
				if e.Code != impl.EndRoom && !slices.Equal(e.Outs, m.Outs) || !isAhead(e.Outs, m.Outs) || !impl.EngineOk(p, e) {
					t.Errorf("%v: %s", plan, engineText(e))
				}
				known += len(impl.EngineRun(p, plan, nil, 130).Heap.Log)
			}
		}
	}
	if known < 100 {
		t.Error(known)
	}
}

// engineWalk goes step by step through a program, by a plan, and calls see with each engine, the one behind it, and the states
// that the program is in at both.
func engineWalk(p impl.Prog, plan impl.Plan, host []int, most int, see func(from impl.Engine, to impl.Engine, ahead impl.Mean, behind impl.Mean)) impl.Engine {
	e, m := impl.EngineStart(p, plan), impl.MeanStart(p)
	for range most {
		next, behind := impl.EngineStep(p, plan, host, e), impl.MeanStep(p, host, m)
		see(e, next, m, behind)
		if next.Code != impl.EndGoes {
			return next
		}
		e, m = next, behind
	}
	return e
}

// checkTells asks that an engine is where its program is, and has told what that told; where there is no room, it is where the
// program was ahead of the step, and what is reached and what is made are too much.
func checkTells(t *testing.T, p impl.Prog, plan impl.Plan, e impl.Engine, ahead impl.Mean, behind impl.Mean) {
	t.Helper()
	want := behind
	if e.Code == impl.EndRoom {
		want = ahead
		live, made := impl.MeanWords(p, ahead), plainEngineWords(p, e, plainEngineIns(p, e))
		if live <= plan.Old && (made <= plan.Young || live+made <= plan.Old) {
			t.Fatalf("%q by %v: no room, but %d words are reached and %d are made: %s", impl.ProgText(p), plan, live, made, engineText(e))
		}
	} else if e.Code != behind.Code {
		t.Fatalf("%q by %v: %s, not %s", impl.ProgText(p), plan, engineText(e), meanText(behind))
	}
	if !slices.Equal(e.Outs, want.Outs) || e.Asked != want.Asked {
		t.Fatalf("%q by %v: %s tells something else than %s", impl.ProgText(p), plan, engineText(e), meanText(want))
	}
	if got, trim := impl.MeanTrim(p, impl.EngineMean(p, e)), impl.MeanTrim(p, want); !impl.MeanSame(got, trim) || trim.Code == impl.EndForm {
		t.Fatalf("%q by %v: %s means %s, not %s", impl.ProgText(p), plan, engineText(e), meanText(got), meanText(trim))
	}
}

// TestEnginePromise goes through programs made up at random, by plans made up at random: at each step the engine is ok, is
// that of the document's words, and is where the program is.
func TestEnginePromise(t *testing.T) {
	r := rand.New(rand.NewSource(10))
	ends, done := map[int]int{}, map[int]int{}
	grown, moved, known := 0, 0, 0
	for at := range 400 {
		p, host := soundProg(r), someHost(r)
		if at%2 == 0 {
			p = busyProg(t, r)
		}
		for range 2 {
			plan := somePlan(r)
			if got, want := impl.EngineStart(p, plan), plainEngineStart(p, plan); engineText(got) != engineText(want) {
				t.Fatalf("%q by %v begins %s", impl.ProgText(p), plan, engineText(got))
			}
			last := engineWalk(p, plan, host, 50, func(from impl.Engine, to impl.Engine, ahead impl.Mean, behind impl.Mean) {
				if want := plainEngineStep(p, plan, host, from); engineText(to) != engineText(want) {
					t.Fatalf("%q by %v with %v: from %s to %s, not %s", impl.ProgText(p), plan, host, engineText(from), engineText(to), engineText(want))
				}
				if !impl.EngineOk(p, to) || !plainEngineOk(p, to) || !impl.HeapOk(p.Types, to.Heap) || to.Steps != from.Steps+1 {
					t.Fatalf("%q by %v with %v: %s is not ok", impl.ProgText(p), plan, host, engineText(to))
				}
				if got, want := impl.EngineMean(p, to), plainEngineMean(p, to); !impl.MeanSame(got, want) {
					t.Fatalf("%q: %s means %s, not %s", impl.ProgText(p), engineText(to), meanText(got), meanText(want))
				}
				checkTells(t, p, plan, to, ahead, behind)
				i := plainEngineIns(p, from)
				if known += len(to.Heap.Log); to.Code <= impl.EndFine {
					done[i.Op]++
				}
				if i.Op == impl.InsNew || i.Op == impl.InsRow {
					if roots := plainEngineRoots(to); to.Code == impl.EndGoes && roots[len(roots)-1].N < to.Heap.Old {
						grown++
					}
					if from.Heap.YoungAt > 0 && to.Heap.OldAt != from.Heap.OldAt {
						moved++
					}
				}
			})
			ends[last.Code]++
			if got := impl.EngineRun(p, plan, host, last.Steps); engineText(got) != engineText(last) {
				t.Fatalf("%q by %v with %v, run by %d: %s, not %s", impl.ProgText(p), plan, host, last.Steps, engineText(got), engineText(last))
			}
		}
	}
	// The programs and plans are such that it is worth it: every end, every instruction, and much that moves.
	for op := impl.InsNum; op <= impl.InsSweep; op++ {
		if done[op] == 0 {
			t.Errorf("%d is not done", op)
		}
	}
	if ends[impl.EndRoom] < 100 || ends[impl.EndGoes] < 100 || ends[impl.EndFine] < 20 || grown < 300 || moved < 50 || known < 1000 {
		t.Error(ends, grown, moved, known)
	}
}

// TestEngineTells runs programs made up at random by many plans, with sweeps ahead of each step, of the young, of all, and of
// both, among them: they tell the same, which is what the program means, unless there is no room.
func TestEngineTells(t *testing.T) {
	r := rand.New(rand.NewSource(100))
	ends := map[int]int{}
	for at := range 300 {
		p, host := soundProg(r), someHost(r)
		if at%3 == 0 {
			p = busyProg(t, r)
		}
		fuel := []int{300, 300, r.Intn(301)}[r.Intn(3)]
		want := impl.MeanRun(p, host, fuel)
		sizes := []impl.Plan{{Old: 120, Young: 40}, {Old: 120}, somePlan(r), somePlan(r)}
		for _, size := range sizes {
			for _, each := range [][2]int{{0, 0}, {1, 0}, {0, 1}, {1, 1}, {size.Minor, size.Major}} {
				plan := impl.Plan{Old: size.Old, Young: size.Young, Minor: each[0], Major: each[1]}
				e := impl.EngineRun(p, plan, host, fuel)
				if ends[e.Code]++; !impl.EngineOk(p, e) {
					t.Fatalf("%q by %v with %v: not ok: %s", impl.ProgText(p), plan, host, engineText(e))
				}
				ahead := want
				if e.Code == impl.EndRoom {
					ahead = impl.MeanRun(p, host, e.Steps-1)
				}
				checkTells(t, p, plan, e, ahead, want)
				if !isAhead(e.Outs, want.Outs) || want.Code == impl.EndGoes && e.Code == impl.EndGoes && e.Steps != fuel {
					t.Fatalf("%q by %v with %v: %s, and it means %s", impl.ProgText(p), plan, host, engineText(e), meanText(want))
				}
			}
		}
	}
	for _, code := range []int{impl.EndGoes, impl.EndFine, impl.EndNone, impl.EndCast, impl.EndPlace, impl.EndLong, impl.EndDeep, impl.EndFull, impl.EndHost, impl.EndRoom} {
		if ends[code] == 0 {
			t.Errorf("no engine ends with %d", code)
		}
	}
}

// peak is the most words that are reached and made together in a step of a program, and each step with more than those ahead.
func peak(p impl.Prog, host []int) (int, map[int]int) {
	most, firsts, steps := 0, map[int]int{}, 0
	meanWalk(p, host, 300, func(from impl.Mean, to impl.Mean) {
		steps++
		e := impl.Engine{Frames: from.Frames}
		i := plainEngineIns(p, e)
		if to.Code > impl.EndFine || i.Op != impl.InsNew && i.Op != impl.InsRow {
			return
		}
		if words := impl.MeanWords(p, from) + plainEngineWords(p, e, i); words > most {
			for n := most + 1; n <= words; n++ {
				firsts[n] = steps
			}
			most = words
		}
	})
	return most, firsts
}

// TestEngineLeastRoom gives programs just as many words for old things as they need: that is enough, however many there are for
// young ones, and whenever it is swept. A word less is too little where there are none for young ones, and is told so where it is.
func TestEngineLeastRoom(t *testing.T) {
	r := rand.New(rand.NewSource(1010))
	enough, little := 0, 0
	for at := range 300 {
		p, host := soundProg(r), someHost(r)
		if at%2 == 0 {
			p = busyProg(t, r)
		}
		most, firsts := peak(p, host)
		if most <= impl.OldMost && most > 0 {
			enough++
			want := impl.MeanTrim(p, impl.MeanRun(p, host, 300))
			for range 6 {
				plan := somePlan(r)
				plan.Old = most
				e := impl.EngineRun(p, plan, host, 300)
				if got := impl.MeanTrim(p, impl.EngineMean(p, e)); e.Code != want.Code || !impl.MeanSame(got, want) {
					t.Fatalf("%q by %v with %v: %s, which means %s, not %s", impl.ProgText(p), plan, host, engineText(e), meanText(got), meanText(want))
				}
			}
		}
		for old := max(1, most-7); old < min(most, impl.OldMost+1); old++ {
			little++
			plan := somePlan(r)
			plan.Old, plan.Young = old, 0
			if e := impl.EngineRun(p, plan, host, 300); e.Code != impl.EndRoom || e.Steps != firsts[old+1] {
				t.Fatalf("%q by %v with %v: %d words at step %d, and it is %s", impl.ProgText(p), plan, host, old+1, firsts[old+1], engineText(e))
			}
		}
	}
	if enough < 100 || little < 300 {
		t.Error(enough, little)
	}
}

// TestEngineMarred turns parts of engines, and holds what is left of them against the document's words.
func TestEngineMarred(t *testing.T) {
	r := rand.New(rand.NewSource(1000))
	right, wrong := 0, 0
	for at := range 200 {
		p, host, plan := soundProg(r), someHost(r), somePlan(r)
		if at%2 == 0 {
			p = busyProg(t, r)
		}
		var all []impl.Engine
		engineWalk(p, plan, host, 40, func(from impl.Engine, to impl.Engine, ahead impl.Mean, behind impl.Mean) { all = append(all, from, to) })
		for range 20 {
			e := marredEngine(r, all[r.Intn(len(all))])
			if r.Intn(3) == 0 {
				e = marredEngine(r, e)
			}
			checkEngineWords(t, p, plan, host, e)
			if impl.EngineOk(p, e) {
				right++
			} else {
				wrong++
			}
		}
	}
	if right < 500 || wrong < 500 {
		t.Error(right, wrong)
	}
}

// checkEngineWords holds all that is told of any engine against the document's words.
func checkEngineWords(t *testing.T, p impl.Prog, plan impl.Plan, host []int, e impl.Engine) {
	t.Helper()
	ok := plainEngineOk(p, e)
	if got := impl.EngineOk(p, e); got != ok {
		t.Fatalf("%q: %s: %v", impl.ProgText(p), engineText(e), got)
	}
	if got, want := impl.EngineMean(p, e), plainEngineMean(p, e); !impl.MeanSame(got, want) {
		t.Fatalf("%q: %s means %s, not %s", impl.ProgText(p), engineText(e), meanText(got), meanText(want))
	}
	if got, want := impl.EngineRoots(e), plainEngineRoots(e); !slices.Equal(got, want) {
		t.Fatalf("%s: the roots are %s, not %s", engineText(e), valsText(got), valsText(want))
	}
	step := plainEngineForm()
	if ok {
		step = plainEngineStep(p, plan, host, e)
	}
	if got := impl.EngineStep(p, plan, host, e); engineText(got) != engineText(step) {
		t.Fatalf("%q by %v with %v: from %s to %s, not %s", impl.ProgText(p), plan, host, engineText(e), engineText(got), engineText(step))
	}
	for _, all := range []bool{false, true} {
		if ok {
			checkEngineSweep(t, p, e, all, plainEngineSweep(p, e, all))
		} else if got := impl.EngineSweep(p, e, all); engineText(got) != engineText(step) {
			t.Fatalf("%q: %s is swept to %s", impl.ProgText(p), engineText(e), engineText(got))
		}
	}
}

// TestEngineKnots lays states whose things name one another at random out on heaps of many sizes.
func TestEngineKnots(t *testing.T) {
	r := rand.New(rand.NewSource(10000))
	p := readProg(t, trimWorld)
	laid, lost := 0, 0
	for range 1600 {
		m := knot(r)
		e, ok := laidEngine(m, 1+r.Intn(40), r.Intn(41), r.Intn(len(m.Things)+1), r.Intn(301))
		if !ok {
			continue
		}
		if got := impl.EngineMean(p, e); !impl.MeanSame(got, m) {
			t.Fatalf("%s means %s, not %s", engineText(e), meanText(got), meanText(m))
		}
		checkEngineWords(t, p, somePlan(r), nil, e)
		laid++
		lost += len(m.Things) - len(impl.MeanReach(p, m))
	}
	if laid < 500 || lost < 500 {
		t.Error(laid, lost)
	}
}

// TestEngineTurnsNothing hands in what has room behind each list, and writes over all that is answered.
func TestEngineTurnsNothing(t *testing.T) {
	r := rand.New(rand.NewSource(100000))
	answers := 0
	for at := range 150 {
		plain := soundProg(r)
		if at%2 == 0 {
			plain = busyProg(t, r)
		}
		p, host, plan := copyProg(plain), withRoom(someHost(r), 66), somePlan(r)
		e := copyEngine(impl.EngineRun(p, plan, host, r.Intn(120)))
		if r.Intn(4) == 0 {
			e = copyEngine(marredEngine(r, e))
		}
		wholeProg, wholeHost, whole := spreadProg(p), slices.Clone(host[:cap(host)]), spreadEngine(e)
		ask := func() ([]impl.Engine, impl.Mean, []impl.Val) {
			impl.EngineOk(p, e)
			impl.EngineSame(e, e)
			return []impl.Engine{
				impl.EngineStart(p, plan), impl.EngineSweep(p, e, false), impl.EngineSweep(p, e, true), impl.EngineStep(p, plan, host, e), impl.EngineRun(p, plan, host, 60),
			}, impl.EngineMean(p, e), impl.EngineRoots(e)
		}
		text := fmt.Sprint(ask())
		engines, mean, roots := ask()
		for i, one := range engines {
			if answers += len(one.Heap.Words); scribbleEngine(one) {
				t.Fatalf("%d: two lists are one: %s", i, text)
			}
		}
		if scribble(mean) {
			t.Fatalf("two lists are one: %s", text)
		}
		scribbleVals(roots)
		if !reflect.DeepEqual(spreadEngine(e), whole) || !reflect.DeepEqual(spreadProg(p), wholeProg) || !slices.Equal(host[:cap(host)], wholeHost) {
			t.Fatalf("what was handed in is turned: %s", text)
		}
		if got := fmt.Sprint(ask()); got != text {
			t.Fatalf("%s, and then %s", text, got)
		}
	}
	if answers < 10000 {
		t.Error(answers)
	}
}
