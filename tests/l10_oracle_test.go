package tests

import (
	"slices"

	"loop.example/lairage/impl"
)

// What chapter 10 says, word by word, on engines as they are handed in: only for comparing.

func plainPlanOk(plan impl.Plan) bool {
	return 1 <= plan.Old && plan.Old <= 120 && 0 <= plan.Young && plan.Young <= 40 &&
		0 <= plan.Minor && plan.Minor <= 300 && 0 <= plan.Major && plan.Major <= 300
}

// plainEngineForm is what is answered where an engine can not be.
func plainEngineForm() impl.Engine {
	return impl.Engine{Code: 10}
}

func plainEngineStart(p impl.Prog, plan impl.Plan) impl.Engine {
	m := plainStart(p)
	if m.Code == 10 || !plainPlanOk(plan) {
		return plainEngineForm()
	}
	return engineWith(impl.Heap{Words: make([]int, plan.Old+plan.Young), Old: plan.Old}, m, 0)
}

// plainEngineMean is EngineMean of any engine: what a value names is looked for among all things.
func plainEngineMean(p impl.Prog, e impl.Engine) impl.Mean {
	if !plainHeapOk(p.Types, e.Heap) {
		return impl.Mean{Code: 10}
	}
	all, _ := plainHeapPlaced(p.Types, e.Heap)
	m := withoutHeap(e)
	for _, one := range all {
		m.Things = append(m.Things, one.thing)
	}
	lost := false
	m = renamed(m, func(at int) int {
		number := slices.IndexFunc(all, func(one placed) bool { return one.at == at })
		lost = lost || number < 0
		return number
	})
	if lost {
		return impl.Mean{Code: 10}
	}
	if m.Code == 9 {
		m.Code = 0
	}
	return m
}

func plainEngineOk(p impl.Prog, e impl.Engine) bool {
	return plainCanGo(p) && plainMeanOk(p, plainEngineMean(p, e)) && 0 <= e.Steps && e.Steps <= 300
}

func plainEngineRoots(e impl.Engine) []impl.Val {
	roots := slices.Clone(e.Glob)
	for _, f := range e.Frames {
		roots = append(append(roots, f.Locals...), f.Stack...)
	}
	return roots
}

// withRoots is an engine with other roots, of which there are as many.
func withRoots(e impl.Engine, roots []impl.Val) impl.Engine {
	own := copyEngine(e)
	roots = roots[copy(own.Glob, roots):]
	for _, f := range own.Frames {
		roots = roots[copy(f.Locals, roots):]
		roots = roots[copy(f.Stack, roots):]
	}
	return own
}

// plainEngineSweep is EngineSweep of an engine that is ok.
func plainEngineSweep(p impl.Prog, e impl.Engine, all bool) impl.Engine {
	sweep := plainMinor
	if all {
		sweep = plainMajor
	}
	heap, roots, ok := sweep(p.Types, e.Heap, plainEngineRoots(e))
	if !ok {
		return copyEngine(e)
	}
	own := withRoots(e, roots)
	own.Heap = heap
	return own
}

// plainEngineStep is EngineStep of an engine and a plan that are ok.
func plainEngineStep(p impl.Prog, plan impl.Plan, host []int, e impl.Engine) impl.Engine {
	own := copyEngine(e)
	if e.Code != 0 || e.Steps == 300 {
		return own
	}
	own.Steps++
	if plan.Minor > 0 && own.Steps%plan.Minor == 0 {
		own = plainEngineSweep(p, own, false)
	}
	if plan.Major > 0 && own.Steps%plan.Major == 0 {
		own = plainEngineSweep(p, own, true)
	}
	return plainEngineDo(p, host, own)
}

// plainEngineIns is the instruction that an engine does next.
func plainEngineIns(p impl.Prog, e impl.Engine) impl.Ins {
	f := e.Frames[len(e.Frames)-1]
	return p.Funs[f.Fun].Body[f.Pc]
}

// plainEngineDo does the instruction of the last frame; how it ends, and what it does but for things, is told by chapter 5.
func plainEngineDo(p impl.Prog, host []int, e impl.Engine) impl.Engine {
	to := plainStep(p, host, plainEngineMean(p, e))
	own := copyEngine(e)
	f := &own.Frames[len(own.Frames)-1]
	stack := f.Stack
	switch i := plainEngineIns(p, e); {
	case to.Code > 1:
		own.Code = to.Code
	case i.Op == 13 || i.Op == 16:
		own = plainEngineMake(p, e, i)
	case i.Op == 15:
		own.Heap, _ = plainPut(p.Types, e.Heap, stack[len(stack)-2].N, i.B, stack[len(stack)-1])
		f.Stack = stack[:len(stack)-2]
		f.Pc++
	case i.Op == 18:
		own.Heap, _ = plainPut(p.Types, e.Heap, stack[len(stack)-3].N, stack[len(stack)-2].N, stack[len(stack)-1])
		f.Stack = stack[:len(stack)-3]
		f.Pc++
	case i.Op == 33:
		own = plainEngineSweep(p, e, i.A == 1)
		own.Frames[len(own.Frames)-1].Pc++
	default:
		all, _ := plainHeapPlaced(p.Types, e.Heap)
		own = engineWith(own.Heap, renamed(to, func(number int) int { return all[number].at }), e.Steps)
	}
	return own
}

// plainEngineWords is how many words a thing has that an instruction makes.
func plainEngineWords(p impl.Prog, e impl.Engine, i impl.Ins) int {
	if i.Op == 13 {
		return 1 + len(typeAt(p.Types, i.A).Fields)
	}
	stack := e.Frames[len(e.Frames)-1].Stack
	return 1 + stack[len(stack)-2].N
}

// plainEngineMake does an instruction that makes a thing, where that is not too long.
func plainEngineMake(p impl.Prog, e impl.Engine, i impl.Ins) impl.Engine {
	heap, roots, room := plainWant(p.Types, e.Heap, plainEngineRoots(e), plainEngineWords(p, e, i))
	if room == 0 {
		own := copyEngine(e)
		own.Code = 9
		return own
	}
	own := withRoots(e, roots)
	f := &own.Frames[len(own.Frames)-1]
	takes := 2
	if i.Op == 13 {
		takes = len(typeAt(p.Types, i.A).Fields)
	}
	rest := len(f.Stack) - takes
	vals := slices.Clone(f.Stack[rest:])
	if i.Op == 16 {
		vals = many(vals[0].N, vals[1])
	}
	making := map[int]heapMaker{1: plainMake, 2: plainGrow}[room]
	at := 0
	own.Heap, at, _ = making(p.Types, heap, i.A, vals)
	f.Stack = append(f.Stack[:rest:rest], thing(at))
	f.Pc++
	return own
}
