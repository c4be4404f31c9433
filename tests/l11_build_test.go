package tests

import (
	"math/rand"
	"slices"
	"strings"
	"testing"

	"loop.example/lairage/impl"
)

// slimWorld has types under, above, the same as and apart from one another: 1 is under 0, 2 under 1, 4 and 5 are the same, and
// 6 is under both.
const slimWorld = `group
box - n
box 0 n
box 1 n n
row - n
group
box - n n n
group
box - n n n
group
box 5 n n n
glob n r0 rchip
`

// slimHead begins a function with a place of each sort: 0 and 1 are surely to 2 and to 0, 2 is a number, and those of its own
// are to anything, to 1 and to a chip.
const slimHead = "fun n s2 s0 n\nown rany r1 rchip\n"

// bodyText is the lines of instructions that are written with semicolons between.
func bodyText(body string) string {
	return strings.ReplaceAll(body, "; ", "\n") + "\n"
}

// insText is instructions as they are written with semicolons between.
func insText(body []impl.Ins) string {
	var texts []string
	for _, i := range body {
		texts = append(texts, insNames()[i])
	}
	return strings.Join(texts, "; ")
}

// slimProgOf is a program of slimWorld whose one function does this.
func slimProgOf(t *testing.T, body string) impl.Prog {
	t.Helper()
	return readProg(t, slimWorld+slimHead+bodyText(body))
}

// withBody is a copy of a program in which a function does something else.
func withBody(p impl.Prog, f int, body []impl.Ins) impl.Prog {
	return turned(p, func(p *impl.Prog) { p.Funs[f].Body = slices.Clone(body) })
}

// inserted is instructions with others between, at a place; what leads behind that place is moved with it, and what leads to it
// leads to the others, or is moved too.
func inserted(body []impl.Ins, at int, others []impl.Ins, past bool) []impl.Ins {
	own := slices.Clone(body)
	for pc, i := range own {
		if (i.Op == impl.InsJump || i.Op == impl.InsIf) && (i.A > at || i.A == at && past) {
			own[pc].A += len(others)
		}
	}
	return slices.Insert(own, at, others...)
}

// someGiver is an instruction that does nothing but give something.
func someGiver(r *rand.Rand, p impl.Prog, f int) impl.Ins {
	slots := len(plainSlots(p, f))
	switch kind := r.Intn(4); {
	case kind == 0 && slots > 0:
		return ins(impl.InsGet, r.Intn(slots))
	case kind == 1 && len(p.Glob) > 0:
		return ins(impl.InsTake, r.Intn(len(p.Glob)))
	case kind == 2:
		return ins(impl.InsNull, r.Intn(impl.KinCount(p.Types)+2)-2)
	}
	return ins(impl.InsNum, r.Intn(impl.NumMod))
}

// someWaste is instructions that need not be done, or nearly so; some of them fit only where something is held.
func someWaste(r *rand.Rand, p impl.Prog, f int) []impl.Ins {
	drop := ins(impl.InsDrop)
	someCast := func() impl.Ins { return ins(impl.InsCast, r.Intn(impl.KinCount(p.Types)+2)-2) }
	switch r.Intn(9) {
	case 0, 1:
		return []impl.Ins{someGiver(r, p, f), drop}
	case 2:
		return []impl.Ins{someGiver(r, p, f), someGiver(r, p, f), drop, drop}
	case 3:
		return []impl.Ins{someGiver(r, p, f), drop, someGiver(r, p, f), drop}
	case 4:
		return []impl.Ins{ins(impl.InsSure)}
	case 5:
		return []impl.Ins{someCast()}
	case 6:
		return []impl.Ins{someCast(), someCast()}
	case 7:
		return []impl.Ins{ins(impl.InsNum, r.Intn(impl.NumMod)), ins(impl.InsChip), ins(impl.InsSure), ins(impl.InsCast, impl.OfAny), drop}
	}
	return someTail(r, p, f)
}

// someTail is instructions that leave at the end, and hold nothing ahead of all; where they lead is left open.
func someTail(r *rand.Rand, p impl.Prog, f int) []impl.Ins {
	leave := ins(impl.InsJump, 0)
	switch r.Intn(5) {
	case 0:
		return []impl.Ins{someGiver(r, p, f), ins(impl.InsDrop), leave}
	case 1:
		return []impl.Ins{ins(impl.InsNum, 1), ins(impl.InsIf, 0), leave}
	case 2:
		return []impl.Ins{ins(impl.InsNum, 1), ins(impl.InsSay), leave}
	case 3:
		return append(giving(p.Funs[f].Gives), ins(impl.InsRet))
	}
	return []impl.Ins{leave}
}

// emptyPlaces is the instructions ahead of which nothing is held.
func emptyPlaces(p impl.Prog, f int) []int {
	var all []int
	for pc, held := range plainStacks(p, f) {
		if len(held) == 0 {
			all = append(all, pc)
		}
	}
	return all
}

// somePlace is an instruction, often one to which a jump leads, or the end.
func somePlace(r *rand.Rand, body []impl.Ins) int {
	var named []int
	for _, i := range body {
		if i.Op == impl.InsJump || i.Op == impl.InsIf {
			named = append(named, i.A)
		}
	}
	if len(named) > 0 && r.Intn(3) == 0 {
		return named[r.Intn(len(named))]
	}
	return r.Intn(len(body) + 1)
}

// wasteful is a program with which nothing is wrong, and in which more need not be done than in another one: as much as has room.
func wasteful(r *rand.Rand, p impl.Prog) impl.Prog {
	p = bare(p)
	for f := range p.Funs {
		for range 8 {
			body := p.Funs[f].Body
			waste := someWaste(r, p, f)
			at := somePlace(r, body)
			if len(body)+len(waste) > impl.BodyMost {
				continue
			}
			q := withBody(p, f, inserted(body, at, waste, r.Intn(2) == 0))
			for pc := at; pc < at+len(waste); pc++ {
				if i := &q.Funs[f].Body[pc]; i.Op == impl.InsJump || i.Op == impl.InsIf {
					empty := emptyPlaces(q, f)
					i.A = empty[r.Intn(len(empty))]
				}
			}
			if plainSlims(q, f) {
				p = q
			}
		}
	}
	return bare(p)
}

// someWasteful is a program that can go, most often one in which much need not be done.
func someWasteful(t *testing.T, r *rand.Rand) impl.Prog {
	t.Helper()
	p := soundProg(r)
	if r.Intn(4) == 0 {
		p = busyProg(t, r)
	}
	// What is too long to be added to is begun with less.
	for f := range p.Funs {
		if body := p.Funs[f].Body; len(body) > 20 && r.Intn(2) == 0 {
			p = withBody(p, f, aimed(r, p, f, shortened(p, f, 6+r.Intn(12))))
		}
	}
	return wasteful(r, p)
}

// shortened is what a function does at first, for so many instructions, with what is held then dropped, and a return.
func shortened(p impl.Prog, f int, many int) []impl.Ins {
	body := slices.Clone(p.Funs[f].Body[:many])
	for range plainStacks(p, f)[many] {
		body = append(body, ins(impl.InsDrop))
	}
	body = append(body, giving(p.Funs[f].Gives)...)
	return append(body, ins(impl.InsRet))
}

// scribbleProg writes over each list of a program, with the room behind it, and says whether another one showed that.
func scribbleProg(p impl.Prog) bool {
	var fields [][]impl.Field
	for _, list := range fieldLists(p) {
		fields = append(fields, *list)
	}
	var bodies [][]impl.Ins
	for _, f := range p.Funs {
		bodies = append(bodies, f.Body)
	}
	types, funs := p.Types[:cap(p.Types)], p.Funs[:cap(p.Funs)]
	shown := scribbleLists(fields, func(list int, at int) impl.Field { return impl.Field{Kind: 1000 + list, Of: at} }) ||
		scribbleLists(bodies, func(list int, at int) impl.Ins { return impl.Ins{Op: 1000 + list, A: at} })
	var kinds [][]int
	for i, list := range p.Types {
		var written []int
		for at := range list[:cap(list)] {
			list[:cap(list)][at] = impl.Type{Kind: 1000*i + at}
			written = append(written, 1000*i+at)
		}
		kinds = append(kinds, written)
	}
	for i, list := range p.Types {
		for at, one := range list[:cap(list)] {
			shown = shown || one.Kind != kinds[i][at]
		}
	}
	for at := range types {
		types[at] = []impl.Type{{Kind: 77}}
	}
	for at := range funs {
		funs[at] = fun(impl.Field{Kind: 88}, nil, nil)
	}
	return shown
}

// scribbleLists writes over lists, with the room behind them, all ahead of looking, and says whether one showed another.
func scribbleLists[T comparable](lists [][]T, mark func(list int, at int) T) bool {
	for i, list := range lists {
		for at := range list[:cap(list)] {
			list[:cap(list)][at] = mark(i, at)
		}
	}
	for i, list := range lists {
		for at, one := range list[:cap(list)] {
			if one != mark(i, at) {
				return true
			}
		}
	}
	return false
}
