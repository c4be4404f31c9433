package tests

import (
	"maps"
	"slices"
	"strings"

	"loop.example/lairage/impl"
)

// What chapter 11 says, word by word, only for comparing.

// plainSlims says whether there is that function, and CheckFun of it is CheckFine.
func plainSlims(p impl.Prog, f int) bool {
	if !plainProgOk(p) || f < 0 || f >= len(p.Funs) {
		return false
	}
	_, code := plainFun(p, f)
	return code == 0
}

// wordOf is the word of an instruction that is ok.
func wordOf(i impl.Ins) string {
	word, _, _ := strings.Cut(insNames()[i], " ")
	return word
}

// plainComeTo is SlimReach: each instruction is followed to those that are come to from it.
func plainComeTo(p impl.Prog, f int) []int {
	if !plainSlims(p, f) {
		return nil
	}
	body, come := p.Funs[f].Body, map[int]bool{}
	var follow func(pc int)
	follow = func(pc int) {
		if come[pc] {
			return
		}
		come[pc] = true
		word := wordOf(body[pc])
		if word != "jump" && word != "pass" && word != "ret" {
			follow(pc + 1)
		}
		if word == "jump" || word == "if" {
			follow(body[pc].A)
		}
	}
	follow(0)
	return slices.Sorted(maps.Keys(come))
}

// plainKept is SlimKeep: what need not be done is crossed out first, whether or not it is come to.
func plainKept(p impl.Prog, f int) []int {
	if !plainSlims(p, f) {
		return nil
	}
	body, stacks, crossed := p.Funs[f].Body, plainStacks(p, f), map[int]bool{}
	for pc, i := range body {
		top := append(sorts(impl.Field{}), stacks[pc]...)[len(stacks[pc])]
		switch wordOf(i) {
		case "sure":
			crossed[pc] = crossed[pc] || top.Kind == 3
		case "cast":
			crossed[pc] = crossed[pc] || top.Kind == 3 && plainUnder(p.Types, top.Of, i.A)
		case "num", "get", "take", "null":
			if wordOf(body[pc+1]) == "drop" {
				crossed[pc], crossed[pc+1] = true, true
			}
		}
	}
	return slices.DeleteFunc(plainComeTo(p, f), func(pc int) bool { return crossed[pc] })
}

// plainWhere is the place, among those that are kept, of the first that is kept of an instruction and those behind.
func plainWhere(kept []int, pc int) int {
	return slices.IndexFunc(kept, func(at int) bool { return at >= pc })
}

// plainSlimFun is SlimFun.
func plainSlimFun(p impl.Prog, f int) []impl.Ins {
	var body []impl.Ins
	kept := plainKept(p, f)
	for _, pc := range kept {
		i := p.Funs[f].Body[pc]
		if word := wordOf(i); word == "jump" || word == "if" {
			i.A = plainWhere(kept, i.A)
		}
		body = append(body, i)
	}
	return body
}

// plainSlimProg is SlimProg.
func plainSlimProg(p impl.Prog) impl.Prog {
	if plainAll(p) != (impl.Fault{}) {
		return impl.Prog{}
	}
	own := bare(p)
	for f := range own.Funs {
		own.Funs[f].Body = plainSlimFun(p, f)
	}
	return own
}

// plainSlimAll is SlimAll, and how many passes turn something.
func plainSlimAll(p impl.Prog) (impl.Prog, int) {
	for passes := 0; ; passes++ {
		next := plainSlimProg(p)
		if alike(p, next) {
			return next, passes
		}
		p = next
	}
}
