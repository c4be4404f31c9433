package tests

import (
	"slices"
	"strings"

	"loop.example/lairage/impl"
)

// What chapter 5 says, word by word, on states as they are handed in: only for comparing.

// plainVal says whether something is as values are told to be.
func plainVal(v impl.Val, many int) bool {
	switch v.Kind {
	case 1, 3:
		return 0 <= v.N && v.N <= 9972
	case 2:
		return v.N == 0
	}
	return v.Kind == 4 && 0 <= v.N && v.N < many
}

func plainValFits(g [][]impl.Type, things []impl.Thing, v impl.Val, f impl.Field) bool {
	n := impl.KinCount(g)
	if !plainOk(g) || !plainFieldOk(f, n) || !plainVal(v, len(things)) {
		return false
	}
	switch v.Kind {
	case 1:
		return f.Kind == 1
	case 2:
		return f.Kind == 2
	case 3:
		return f.Kind != 1 && (f.Of == -1 || f.Of == -2)
	}
	of := things[v.N].Type
	return f.Kind != 1 && of >= 0 && of < n && plainUnder(g, of, f.Of)
}

func plainTell(g [][]impl.Type, things []impl.Thing, v impl.Val) int {
	if !plainOk(g) || !plainVal(v, len(things)) {
		return 0
	}
	switch v.Kind {
	case 1:
		return v.N
	case 2:
		return -1
	case 3:
		return -2 - v.N
	}
	of := things[v.N].Type
	if of < 0 || of >= impl.KinCount(g) {
		return 0
	}
	return 9973 + plainCanon(g, of)
}

func plainCanGo(p impl.Prog) bool {
	return plainAll(p) == impl.Fault{} && len(p.Funs[0].Takes) == 0
}

// plainFirst is what stands at first in places of these sorts.
func plainFirst(places []impl.Field) []impl.Val {
	var vals []impl.Val
	for _, f := range places {
		if f.Kind == 1 {
			vals = append(vals, number(0))
		} else {
			vals = append(vals, none())
		}
	}
	return vals
}

func plainStart(p impl.Prog) impl.Mean {
	if !plainCanGo(p) {
		return impl.Mean{Code: 10}
	}
	return impl.Mean{Glob: plainFirst(p.Glob), Frames: []impl.Frame{{Locals: plainFirst(plainSlots(p, 0))}}}
}

// plainAllFit says whether there are as many values as sorts, each of its sort.
func plainAllFit(p impl.Prog, m impl.Mean, vals []impl.Val, sorts []impl.Field) bool {
	if len(vals) != len(sorts) {
		return false
	}
	for at := range vals {
		if !plainValFits(p.Types, m.Things, vals[at], sorts[at]) {
			return false
		}
	}
	return true
}

func plainThingOk(p impl.Prog, m impl.Mean, one impl.Thing) bool {
	if one.Type < 0 || one.Type >= impl.KinCount(p.Types) {
		return false
	}
	typ := typeAt(p.Types, one.Type)
	if typ.Kind == 1 {
		return plainAllFit(p, m, one.Vals, typ.Fields)
	}
	return len(one.Vals) <= 6 && plainAllFit(p, m, one.Vals, many(len(one.Vals), typ.Fields[0]))
}

// plainFrameOk asks one frame for all that is told of it.
func plainFrameOk(p impl.Prog, m impl.Mean, at int) bool {
	f := m.Frames[at]
	if f.Fun < 0 || f.Fun >= len(p.Funs) || f.Pc < 0 || f.Pc >= len(p.Funs[f.Fun].Body) {
		return false
	}
	held := plainStacks(p, f.Fun)[f.Pc]
	if at+1 < len(m.Frames) {
		if f.Pc < 1 {
			return false
		}
		call, next := p.Funs[f.Fun].Body[f.Pc-1], m.Frames[at+1].Fun
		if call.Op != 27 || next < 0 || next >= len(p.Funs) || !plainFieldUnder(p.Types, p.Funs[next].Gives, p.Funs[call.A].Gives) {
			return false
		}
		held = held[:len(held)-1]
	}
	return plainAllFit(p, m, f.Locals, plainSlots(p, f.Fun)) && plainAllFit(p, m, f.Stack, held)
}

// plainMeanOk is MeanOk of a program that can go.
func plainMeanOk(p impl.Prog, m impl.Mean) bool {
	for _, one := range m.Things {
		if !plainThingOk(p, m, one) {
			return false
		}
	}
	if !plainAllFit(p, m, m.Glob, p.Glob) || len(m.Frames) > 5 || len(m.Frames) == 0 && m.Code != 1 || len(m.Frames) > 0 && m.Code == 1 {
		return false
	}
	for at := range m.Frames {
		if !plainFrameOk(p, m, at) {
			return false
		}
	}
	return len(m.Outs) <= 30 && m.Asked >= 0 && m.Asked <= len(m.Outs) && m.Code >= 0 && m.Code <= 8
}

// plainIs says whether something is not none, and of what is under that.
func plainIs(p impl.Prog, m impl.Mean, v impl.Val, of int) bool {
	return v.Kind != 2 && plainValFits(p.Types, m.Things, v, sure(of))
}

// plainStep is MeanStep of a program that can go, and that can be there.
func plainStep(p impl.Prog, host []int, m impl.Mean) impl.Mean {
	if m.Code != 0 {
		return m
	}
	own := copyMean(m)
	if code := plainDo(p, host, &own); code > 1 {
		own = copyMean(m)
		own.Code = code
	} else {
		own.Code = code
	}
	return own
}

// plainDo does the instruction of the last frame, and is the code with which it ends.
func plainDo(p impl.Prog, host []int, m *impl.Mean) int {
	f := &m.Frames[len(m.Frames)-1]
	i := p.Funs[f.Fun].Body[f.Pc]
	word, _, _ := strings.Cut(insNames()[i], " ")
	takes := len(plainNamed(p, f.Fun, plainStacks(p, f.Fun)[f.Pc], i, plainTable[word][0]))
	rest := len(f.Stack) - takes
	// One none more, so that the first one taken can be asked for where there is none.
	x := append(slices.Clone(f.Stack[rest:]), none())
	top := x[max(0, takes-1)]
	f.Stack = f.Stack[:rest]
	f.Pc++
	switch word {
	case "jump":
		f.Pc = i.A
	case "if":
		if top.N != 0 {
			f.Pc = i.A
		}
	case "call", "pass":
		if word == "pass" {
			m.Frames = m.Frames[:len(m.Frames)-1]
		} else if len(m.Frames) == 5 {
			return 6
		}
		m.Frames = append(m.Frames, impl.Frame{Fun: i.A, Locals: append(x[:takes:takes], plainFirst(p.Funs[i.A].Own)...)})
	case "ret":
		m.Frames = m.Frames[:len(m.Frames)-1]
		if len(m.Frames) == 0 {
			return 1
		}
		back := &m.Frames[len(m.Frames)-1]
		back.Stack = append(back.Stack, top)
	case "say", "show", "ask":
		if len(m.Outs) == 30 {
			return 7
		}
		if word == "ask" {
			if m.Asked >= len(host) || host[m.Asked] < 0 || host[m.Asked] > 9972 {
				return 8
			}
			f.Stack = append(f.Stack, number(host[m.Asked]))
			m.Asked++
		}
		m.Outs = append(m.Outs, plainTell(p.Types, m.Things, top))
	case "set":
		f.Locals[i.A] = top
	case "keep":
		m.Glob[i.A] = top
	case "drop", "sweep":
	case "put", "lay":
		at := i.B
		if word == "lay" {
			at = x[1].N
		}
		if x[0].Kind == 2 {
			return 2
		}
		if at >= len(m.Things[x[0].N].Vals) {
			return 4
		}
		m.Things[x[0].N].Vals[at] = top
	default:
		given, code := plainGiven(p, m, f, i, word, x, top)
		if code != 0 {
			return code
		}
		f.Stack = append(f.Stack, given)
	}
	return 0
}

// plainGiven is what an instruction gives that does little else, and the code with which it ends.
func plainGiven(p impl.Prog, m *impl.Mean, f *impl.Frame, i impl.Ins, word string, x []impl.Val, top impl.Val) (impl.Val, int) {
	yes := func(so bool) (impl.Val, int) {
		return number(map[bool]int{true: 1}[so]), 0
	}
	made := func(vals []impl.Val) (impl.Val, int) {
		m.Things = append(m.Things, impl.Thing{Type: i.A, Vals: vals})
		return thing(len(m.Things) - 1), 0
	}
	switch word {
	case "num":
		return number(i.A), 0
	case "get":
		return f.Locals[i.A], 0
	case "take":
		return m.Glob[i.A], 0
	case "null":
		return none(), 0
	case "add":
		return number((x[0].N + x[1].N) % 9973), 0
	case "mul":
		return number(x[0].N * x[1].N % 9973), 0
	case "less":
		return yes(x[0].N < x[1].N)
	case "chip":
		return chip(top.N), 0
	case "same":
		return yes(x[0].Kind == x[1].Kind && x[0].N == x[1].N)
	case "none":
		return yes(top.Kind == 2)
	case "test":
		return yes(plainIs(p, *m, top, i.A))
	case "cast":
		if !plainIs(p, *m, top, i.A) {
			return none(), 3
		}
		return top, 0
	case "new":
		return made(x[: len(x)-1 : len(x)-1])
	case "row":
		if x[0].N > 6 {
			return none(), 5
		}
		return made(many(x[0].N, top))
	}
	// All others look at what is behind a reference.
	if x[0].Kind == 2 {
		return none(), 2
	}
	switch word {
	case "back":
		return number(top.N), 0
	case "sure":
		return top, 0
	case "len":
		return number(len(m.Things[x[0].N].Vals)), 0
	}
	at := i.B
	if word == "at" {
		at = x[1].N
	}
	if at >= len(m.Things[x[0].N].Vals) {
		return none(), 4
	}
	return m.Things[x[0].N].Vals[at], 0
}
