package tests

import (
	"fmt"
	"math/rand"
	"slices"
	"strings"
	"testing"

	"loop.example/lairage/impl"
)

// engineWith is an engine of a heap, of a state without its things, and of how many steps were done, in their memory.
func engineWith(h impl.Heap, m impl.Mean, steps int) impl.Engine {
	return impl.Engine{Heap: h, Glob: m.Glob, Frames: m.Frames, Outs: m.Outs, Asked: m.Asked, Code: m.Code, Steps: steps}
}

// withoutHeap is an engine as a state, without things.
func withoutHeap(e impl.Engine) impl.Mean {
	return impl.Mean{Glob: e.Glob, Frames: e.Frames, Outs: e.Outs, Asked: e.Asked, Code: e.Code}
}

// engineOf is the engine of a text: that of its heap, that of a state without things, and how many steps were done, with
// strokes between.
func engineOf(t *testing.T, text string) impl.Engine {
	t.Helper()
	parts := strings.Split(text, "|")
	if len(parts) != 10 {
		t.Fatalf("no engine: %q", text)
	}
	return engineWith(heapOf(t, strings.Join(parts[:4], "|")), meanOf(t, "|"+strings.Join(parts[4:9], "|")), numberOf(t, parts[9]))
}

// engineText is an engine as a text; of two engines it is the same just if they are the same in all parts.
func engineText(e impl.Engine) string {
	return fmt.Sprint(e)
}

// copyEngine is an engine in memory of its own, with room behind each list, so that a write there shows.
func copyEngine(e impl.Engine) impl.Engine {
	return engineWith(copyHeap(e.Heap), copyMean(withoutHeap(e)), e.Steps)
}

// spreadEngine is an engine with the room behind each list as if it belonged to it.
func spreadEngine(e impl.Engine) impl.Engine {
	return engineWith(spreadHeap(e.Heap), spreadMean(withoutHeap(e)), e.Steps)
}

// turnedEngine is a copy of an engine with one part of it turned.
func turnedEngine(e impl.Engine, turn func(e *impl.Engine)) impl.Engine {
	own := copyEngine(e)
	turn(&own)
	return own
}

// scribbleEngine writes over each list of an engine, with the room behind it, one after the other, and says whether another
// one showed that.
func scribbleEngine(e impl.Engine) bool {
	outs := e.Outs[:cap(e.Outs)]
	if scribble(withoutHeap(e)) {
		return true
	}
	written := slices.Clone(outs)
	return scribbleHeap(e.Heap) || !slices.Equal(outs, written)
}

// laidEngine is an engine that means a state, on a heap of such sizes, with its first things old and all others young; and
// whether there is room for that.
func laidEngine(m impl.Mean, old int, others int, first int, steps int) (impl.Engine, bool) {
	h := impl.Heap{Words: make([]int, old+others), Old: old}
	places := append(placesOf(m.Things[:first], 0), placesOf(m.Things[first:], old)...)
	oldWords, youngWords := 0, 0
	for at, one := range m.Things {
		if at < first {
			oldWords += 1 + len(one.Vals)
		} else {
			youngWords += 1 + len(one.Vals)
		}
	}
	if oldWords > old || youngWords > others {
		return impl.Engine{}, false
	}
	own := renamed(m, func(number int) int { return places[number] })
	h.OldAt, h.YoungAt = lay(h.Words[:old], own.Things[:first]), lay(h.Words[old:], own.Things[first:])
	for at, one := range own.Things[:first] {
		for i, v := range one.Vals {
			if v.Kind == impl.ValThing && v.N >= old {
				h.Log = append(h.Log, places[at]+1+i)
			}
		}
	}
	own.Things = nil
	return engineWith(h, own, steps), true
}

// somePlan is a plan that is ok: with much room, with some, or with next to none, and with sweeps at all times, at times, or
// never.
func somePlan(r *rand.Rand) impl.Plan {
	plan := impl.Plan{Old: 1 + r.Intn([]int{8, 20, 40, impl.OldMost}[r.Intn(4)]), Young: r.Intn([]int{1, 6, 12, impl.YoungMost + 1}[r.Intn(4)])}
	for _, part := range []*int{&plan.Minor, &plan.Major} {
		*part = []int{0, 0, 1, 1 + r.Intn(4), 1 + r.Intn(20), impl.FuelMost}[r.Intn(6)]
	}
	return plan
}

// marredEngine is an engine with one part of it turned; whether it is ok is left open.
func marredEngine(r *rand.Rand, e impl.Engine) impl.Engine {
	switch r.Intn(5) {
	case 0, 1:
		return turnedEngine(e, func(e *impl.Engine) { e.Heap = marredHeap(r, e.Heap) })
	case 2, 3:
		return engineWith(copyHeap(e.Heap), marredMean(r, withoutHeap(e)), e.Steps)
	}
	return turnedEngine(e, func(e *impl.Engine) {
		if e.Steps = []int{-1, 0, 1, 299, 300, 301, r.Intn(300)}[r.Intn(7)]; r.Intn(3) == 0 {
			e.Code = impl.EndRoom
		}
	})
}

// engineTurns is an engine with each one of its parts turned alone, and each of its lists longer or shorter by one, or in
// another order.
func engineTurns(e impl.Engine) map[string]impl.Engine {
	all := map[string]impl.Engine{}
	turn := func(name string, turn func(e *impl.Engine)) { all[name] = turnedEngine(e, turn) }
	turn("steps more", func(e *impl.Engine) { e.Steps++ })
	turn("steps less", func(e *impl.Engine) { e.Steps-- })
	turn("old", func(e *impl.Engine) { e.Heap.Old++ })
	turn("old at", func(e *impl.Engine) { e.Heap.OldAt-- })
	turn("young at", func(e *impl.Engine) { e.Heap.YoungAt++ })
	turn("code and steps", func(e *impl.Engine) { e.Code, e.Steps = e.Code+1, e.Steps-1 })
	turn("asked and code", func(e *impl.Engine) { e.Asked, e.Code = e.Asked-1, e.Code+1 })
	numbers := func(name string, list func(e *impl.Engine) *[]int) {
		for at := range *list(&e) {
			turn(fmt.Sprint(name, " ", at), func(e *impl.Engine) { (*list(e))[at]++ })
		}
		turn(name+" is longer", func(e *impl.Engine) { *list(e) = append(*list(e), 0) })
		if many := len(*list(&e)); many > 0 {
			turn(name+" is shorter", func(e *impl.Engine) { *list(e) = (*list(e))[:many-1] })
		}
		turnOrder(e, name, list, all)
	}
	numbers("words", func(e *impl.Engine) *[]int { return &e.Heap.Words })
	numbers("log", func(e *impl.Engine) *[]int { return &e.Heap.Log })
	numbers("told", func(e *impl.Engine) *[]int { return &e.Outs })
	turnOrder(e, "shared", func(e *impl.Engine) *[]impl.Val { return &e.Glob }, all)
	for at := range e.Frames {
		turnOrder(e, fmt.Sprint("places of ", at), func(e *impl.Engine) *[]impl.Val { return &e.Frames[at].Locals }, all)
		turnOrder(e, fmt.Sprint("held by ", at), func(e *impl.Engine) *[]impl.Val { return &e.Frames[at].Stack }, all)
	}
	if many := len(e.Frames); many > 1 {
		turn("frames in another order", func(e *impl.Engine) { slices.Reverse(e.Frames) })
	}
	// Things are on the heap; one that is added or taken away is only of the state.
	state := withoutHeap(e)
	state.Things = []impl.Thing{{}}
	for name, m := range sameTurns(state) {
		if !strings.HasPrefix(name, "thing") {
			all[name] = engineWith(copyHeap(e.Heap), m, e.Steps)
		}
	}
	return all
}

// turnOrder adds an engine with one of its lists in another order, if there is one.
func turnOrder[T comparable](e impl.Engine, name string, list func(e *impl.Engine) *[]T, all map[string]impl.Engine) {
	for at, one := range *list(&e) {
		if first := (*list(&e))[0]; one != first {
			all[name+" in another order"] = turnedEngine(e, func(e *impl.Engine) { (*list(e))[0], (*list(e))[at] = one, first })
			return
		}
	}
}

// busyWorld has boxes that name boxes and anything, some of them under others, and rows of anything and of numbers.
const busyWorld = `group
box - r0! rany! n!
row - rany!
row - n!
box 0 r0! rany! n! n
glob r0 rany r1
`

// busyFun makes phrases of a function of busyWorld that makes, keeps and puts things, and never traps but for numbers that are
// told and for room: its places have a box, anything, and a row of three or more.
type busyFun struct {
	*rand.Rand
}

// one is one of some texts.
func (b busyFun) one(texts ...string) string {
	return texts[b.Intn(len(texts))]
}

func (b busyFun) number(below int) string {
	return fmt.Sprintf("num %d\n", b.Intn(below))
}

// box is instructions that give a box; madeBox is one that is new.
func (b busyFun) box(depth int) string {
	if depth > 0 && b.Intn(3) == 0 {
		return b.madeBox(depth - 1)
	}
	return b.one("get 0\n", "get 0\n", "take 0\n", "null 0\n", "get 0\nlook 0 0\n")
}

func (b busyFun) madeBox(depth int) string {
	inside := b.box(depth) + b.any(depth) + b.number(9)
	return b.one(inside+"new 0\n", inside+b.number(9)+"new 3\n")
}

// any is instructions that give anything.
func (b busyFun) any(depth int) string {
	if depth > 0 && b.Intn(4) == 0 {
		return b.number(7) + b.any(depth-1) + "row 1\n"
	}
	return b.one(b.box(depth), b.box(depth), "get 1\n", "get 2\n", "take 1\n", "take 2\n", "get 0\nlook 0 1\n", "get 2\n"+b.number(3)+"at 1\n", b.number(200)+"chip\n", b.number(7)+b.number(200)+"row 2\n")
}

// phrase is instructions ahead of which, and behind which, nothing is held.
func (b busyFun) phrase() string {
	switch b.Intn(16) {
	case 0, 1:
		return b.madeBox(1) + "set 0\n"
	case 2:
		return b.any(1) + "set 1\n"
	case 3:
		return fmt.Sprintf("num %d\n", 3+b.Intn(4)) + b.any(1) + "row 1\nset 2\n"
	case 4:
		return b.box(1) + "keep 0\n"
	case 5:
		return b.any(1) + "keep 1\n"
	case 6:
		return b.one("get 2\n", "null 1\n") + "keep 2\n"
	case 7:
		return "get 0\n" + b.box(1) + "put 0 0\n"
	case 8, 9:
		return "get 0\n" + b.any(1) + "put 0 1\n"
	case 10:
		return "get 0\n" + b.number(200) + "put 0 2\n"
	case 11, 12:
		return "get 2\n" + b.number(3) + b.any(1) + "lay 1\n"
	case 13:
		return b.one("sweep 0\n", "sweep 1\n")
	case 14:
		return b.one("get 0\nlook 0 2\nsay\n", b.any(1)+"get 0\nsame\nsay\n", b.any(1)+"test 3\nsay\n", b.any(1)+"show\n")
	}
	return b.madeBox(1) + "drop\n"
}

// phrases is as many of these as there is room for, up to most, in so many instructions.
func (b busyFun) phrases(most int, room int) string {
	text := ""
	for range most {
		more := b.phrase()
		if strings.Count(text+more, "\n") <= room {
			text += more
		}
	}
	return text
}

// busyProg is a program of busyWorld that goes on for ever, and whose functions call one another.
func busyProg(t *testing.T, r *rand.Rand) impl.Prog {
	t.Helper()
	b := busyFun{r}
	text := busyWorld + "fun n\nown r0 rany r1\nnull 0\nnull any\nnum 1\nnew 0\nset 0\nnum 3\nnull any\nrow 1\nset 2\n"
	calls := 1 + r.Intn(3)
	text += b.phrases(6, 12) + "get 0\nsure\nget 1\nget 2\nsure\ncall 1\nset 0\njump 9\n"
	for f := 1; f <= calls; f++ {
		text += "fun s0 s0 rany s1\n"
		body, ending := b.phrases(9, 22), b.one("get 0\nret\n", "get 0\nnull any\nnum 7\nnew 0\nret\n", fmt.Sprintf("get 0\nget 1\nget 2\npass %d\n", f+1))
		if f == calls {
			ending = "get 0\nret\n"
		} else if r.Intn(2) == 0 {
			body = fmt.Sprintf("get 0\nget 1\nget 2\ncall %d\nset 0\n", f+1) + b.phrases(9, 17)
		}
		text += body + ending
	}
	p := readProg(t, text)
	if fault := plainAll(p); fault != (impl.Fault{}) {
		t.Fatalf("%q: %v", text, fault)
	}
	return p
}
