package tests

import (
	"slices"
	"strings"

	"loop.example/lairage/impl"
)

// What chapter 4 says, by its table as it is written there, only for comparing. Of the words in it: place is the sort
// of that place, glob that of one of Glob, any the sort that is there, fields those of T, A what A names, takes and
// gives those of function A, own the function's Gives, and held what the sort on top is to.
var plainTable = map[string][3]string{
	"num":   {"", "n", ""},
	"get":   {"", "place", "place"},
	"set":   {"place", "", "place"},
	"take":  {"", "glob", "glob"},
	"keep":  {"glob", "", "glob"},
	"drop":  {"any", "", ""},
	"add":   {"n n", "n", ""},
	"mul":   {"n n", "n", ""},
	"less":  {"n n", "n", ""},
	"chip":  {"n", "schip", ""},
	"back":  {"rchip", "n", ""},
	"null":  {"", "rA", "ref"},
	"new":   {"fields", "sA", "box"},
	"look":  {"rA", "e", "box field"},
	"put":   {"rA e", "", "box field mut"},
	"row":   {"n e", "sA", "row"},
	"at":    {"rA n", "e", "row"},
	"lay":   {"rA n e", "", "row mut"},
	"len":   {"rA", "n", "row"},
	"same":  {"rany rany", "n", ""},
	"none":  {"rany", "n", ""},
	"test":  {"rany", "n", "ref"},
	"cast":  {"rany", "sA", "ref"},
	"sure":  {"rany", "sheld", ""},
	"jump":  {"", "", "ins"},
	"if":    {"n", "", "ins"},
	"call":  {"takes", "gives", "fun"},
	"pass":  {"takes", "", "fun"},
	"ret":   {"own", "", ""},
	"say":   {"n", "", ""},
	"show":  {"rany", "", ""},
	"ask":   {"n", "n", ""},
	"sweep": {"", "", ""},
}

func plainInsOk(i impl.Ins) bool {
	return insNames()[i] != ""
}

func plainSlots(p impl.Prog, f int) []impl.Field {
	return append(slices.Clone(p.Funs[f].Takes), p.Funs[f].Own...)
}

// plainMust says whether what an instruction names is as it must be.
func plainMust(p impl.Prog, f int, i impl.Ins, must string) bool {
	n := impl.KinCount(p.Types)
	right := true
	var t impl.Type
	var field impl.Field
	for _, word := range strings.Fields(must) {
		if (word == "box" || word == "row") && i.A < n {
			t = typeAt(p.Types, i.A)
			field = append(slices.Clone(t.Fields), impl.Field{})[0]
		}
		switch word {
		case "place":
			right = right && i.A < len(plainSlots(p, f))
		case "glob":
			right = right && i.A < len(p.Glob)
		case "ref":
			right = right && i.A < n
		case "box":
			right = right && t.Kind == 1
		case "row":
			right = right && t.Kind == 2
		case "field":
			if right = right && i.B < len(t.Fields); right {
				field = t.Fields[i.B]
			}
		case "mut":
			right = right && field.Mut
		case "ins":
			right = right && i.A < len(p.Funs[f].Body)
		case "fun":
			right = right && i.A < len(p.Funs)
		}
	}
	return right
}

// plainNamed is the sorts that words of the table name.
func plainNamed(p impl.Prog, f int, stack []impl.Field, i impl.Ins, words string) []impl.Field {
	var all []impl.Field
	for _, word := range strings.Fields(words) {
		switch word {
		case "place":
			all = append(all, plainSlots(p, f)[i.A])
		case "glob":
			all = append(all, p.Glob[i.A])
		case "any":
			all = append(all, append(sorts(impl.Field{}), stack...)[len(stack)])
		case "fields":
			for _, e := range typeAt(p.Types, i.A).Fields {
				all = append(all, impl.Field{Kind: e.Kind, Of: e.Of})
			}
		case "e":
			e := typeAt(p.Types, i.A).Fields[i.B]
			all = append(all, impl.Field{Kind: e.Kind, Of: e.Of})
		case "rA":
			all = append(all, impl.Field{Kind: 2, Of: i.A})
		case "sA":
			all = append(all, impl.Field{Kind: 3, Of: i.A})
		case "sheld":
			all = append(all, impl.Field{Kind: 3, Of: stack[len(stack)-1].Of})
		case "takes":
			all = append(all, p.Funs[i.A].Takes...)
		case "gives":
			all = append(all, p.Funs[i.A].Gives)
		case "own":
			all = append(all, p.Funs[f].Gives)
		default:
			all = append(all, knownFieldTexts[word])
		}
	}
	return all
}

// plainBehind is CheckIns of a program, a function, a stack and an instruction that are ok.
func plainBehind(p impl.Prog, f int, stack []impl.Field, i impl.Ins) ([]impl.Field, int) {
	word, _, _ := strings.Cut(insNames()[i], " ")
	row := plainTable[word]
	if !plainMust(p, f, i, row[2]) {
		return nil, 1
	}
	takes := plainNamed(p, f, stack, i, row[0])
	if len(stack) < len(takes) {
		return nil, 2
	}
	beneath, above := stack[:len(stack)-len(takes)], stack[len(stack)-len(takes):]
	for at, taken := range takes {
		if !plainFieldUnder(p.Types, above[at], taken) {
			return nil, 3
		}
	}
	if word == "pass" && !plainFieldUnder(p.Types, p.Funs[i.A].Gives, p.Funs[f].Gives) {
		return nil, 3
	}
	if clearing(word) && len(beneath) != 0 {
		return nil, 4
	}
	behind := append(slices.Clone(beneath), plainNamed(p, f, stack, i, row[1])...)
	if len(behind) > 8 {
		return nil, 5
	}
	return behind, 0
}

// plainStacks is CheckStacks of a program that is ok and a function that there is.
func plainStacks(p impl.Prog, f int) [][]impl.Field {
	all := [][]impl.Field{nil}
	for _, i := range p.Funs[f].Body {
		behind, code := plainBehind(p, f, all[len(all)-1], i)
		if code != 0 {
			return all
		}
		all = append(all, behind)
	}
	return all[:len(all)-1]
}

// plainFun is CheckFun of a program that is ok and a function that there is.
func plainFun(p impl.Prog, f int) (int, int) {
	body := p.Funs[f].Body
	stacks := plainStacks(p, f)
	end := len(stacks) - 1
	if _, code := plainBehind(p, f, stacks[end], body[end]); code != 0 {
		return end, code
	}
	if op := body[end].Op; op != 25 && op != 28 && op != 29 {
		return end, 6
	}
	for pc, i := range body {
		if (i.Op == 25 || i.Op == 26) && len(stacks[i.A]) != 0 {
			return pc, 4
		}
	}
	return 0, 0
}

// plainAll is CheckAll.
func plainAll(p impl.Prog) impl.Fault {
	if !plainProgOk(p) {
		return impl.Fault{Code: 7}
	}
	for f := range p.Funs {
		if pc, code := plainFun(p, f); code != 0 {
			return impl.Fault{Fun: f, Pc: pc, Code: code}
		}
	}
	return impl.Fault{}
}
