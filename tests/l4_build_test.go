package tests

import (
	"math/rand"
	"slices"
	"strings"
	"testing"

	"loop.example/lairage/impl"
)

// checkWorld has all that an instruction may name, and no type 7 and no function 4; function 2 is the one most is asked of.
const checkWorld = `group
box - n
box 0 n rany!
box - s0! rchip n! r2
row - n
group
row - s1!
row - r3!
box -
glob n r0
fun n s1 rany n
own n r3 rchip
num 0
ret
fun s0
null 1
sure
ret
fun rany r0 n
own rany
sweep 0
sweep 1
null any
ret
fun schip
num 1
chip
ret
`

// checkRow is what an instruction takes and gives in function 2 of checkWorld.
type checkRow struct {
	ins   string
	takes string
	gives string
}

func checkRows() []checkRow {
	return []checkRow{
		{"num 0", "", "n"}, {"num 9972", "", "n"},
		{"get 0", "", "r0"}, {"get 1", "", "n"}, {"get 2", "", "rany"},
		{"set 0", "r0", ""}, {"set 1", "n", ""}, {"set 2", "rany", ""},
		{"take 0", "", "n"}, {"take 1", "", "r0"},
		{"keep 0", "n", ""}, {"keep 1", "r0", ""},
		{"add", "n n", "n"}, {"mul", "n n", "n"}, {"less", "n n", "n"},
		{"chip", "n", "schip"}, {"back", "rchip", "n"},
		{"null any", "", "rany"}, {"null chip", "", "rchip"}, {"null 0", "", "r0"}, {"null 3", "", "r3"}, {"null 6", "", "r6"},
		{"new 0", "n", "s0"}, {"new 1", "n rany", "s1"}, {"new 2", "s0 rchip n r2", "s2"}, {"new 6", "", "s6"},
		{"look 0 0", "r0", "n"}, {"look 1 0", "r1", "n"}, {"look 1 1", "r1", "rany"},
		{"look 2 0", "r2", "s0"}, {"look 2 1", "r2", "rchip"}, {"look 2 2", "r2", "n"}, {"look 2 3", "r2", "r2"},
		{"put 1 1", "r1 rany", ""}, {"put 2 0", "r2 s0", ""}, {"put 2 2", "r2 n", ""},
		{"row 3", "n n", "s3"}, {"row 4", "n s1", "s4"}, {"row 5", "n r3", "s5"},
		{"at 3", "r3 n", "n"}, {"at 4", "r4 n", "s1"}, {"at 5", "r5 n", "r3"},
		{"lay 4", "r4 n s1", ""}, {"lay 5", "r5 n r3", ""},
		{"len 3", "r3", "n"}, {"len 4", "r4", "n"}, {"len 5", "r5", "n"},
		{"same", "rany rany", "n"}, {"none", "rany", "n"},
		{"test any", "rany", "n"}, {"test chip", "rany", "n"}, {"test 0", "rany", "n"}, {"test 3", "rany", "n"}, {"test 6", "rany", "n"},
		{"cast any", "rany", "sany"}, {"cast chip", "rany", "schip"}, {"cast 0", "rany", "s0"}, {"cast 3", "rany", "s3"}, {"cast 6", "rany", "s6"},
		{"jump 0", "", ""}, {"jump 3", "", ""}, {"if 0", "n", ""}, {"if 3", "n", ""},
		{"call 0", "s1 rany n", "n"}, {"call 1", "", "s0"}, {"call 2", "r0 n", "rany"}, {"call 3", "", "schip"},
		{"pass 1", "", ""}, {"pass 2", "r0 n", ""}, {"pass 3", "", ""},
		{"ret", "rany", ""}, {"say", "n", ""}, {"show", "rany", ""}, {"ask", "n", "n"}, {"sweep 0", "", ""}, {"sweep 1", "", ""},
	}
}

// checkNameless is instructions that name what is not as it must be in function 2 of checkWorld.
func checkNameless() []string {
	return []string{
		"get 3", "get 5", "set 3", "set 5", "take 2", "keep 2", "null 7", "test 7", "cast 7",
		"new 7", "new 3", "new 4", "look 7 0", "look 3 0", "look 0 1", "look 1 2", "look 6 0", "look 0 3",
		"put 7 0", "put 5 0", "put 0 0", "put 1 0", "put 1 2", "put 2 1", "put 2 3", "put 6 0",
		"row 7", "row 0", "row 6", "at 7", "at 0", "at 2", "lay 7", "lay 3", "lay 0", "lay 1", "len 7", "len 0", "len 6",
		"jump 4", "jump 29", "if 4", "if 29", "call 4", "pass 4",
	}
}

// clearing says whether nothing may be held beneath what an instruction takes.
func clearing(text string) bool {
	word, _, _ := strings.Cut(text, " ")
	return word == "jump" || word == "if" || word == "pass" || word == "ret"
}

// readProg is the program of a text that is one.
func readProg(t *testing.T, text string) impl.Prog {
	t.Helper()
	p, ok := plainRead(text)
	if !ok {
		t.Fatalf("no program: %q", text)
	}
	return p
}

// insOf is the instruction of a text that is one.
func insOf(t *testing.T, text string) impl.Ins {
	t.Helper()
	i, ok := knownInsTexts[text]
	if !ok {
		t.Fatalf("no instruction: %q", text)
	}
	return i
}

// sortsOf is the sorts that a text names, with a space between them.
func sortsOf(t *testing.T, text string) []impl.Field {
	t.Helper()
	var all []impl.Field
	for _, word := range strings.Fields(text) {
		f, ok := knownFieldTexts[word]
		if !ok {
			t.Fatalf("no sort: %q", word)
		}
		all = append(all, f)
	}
	return all
}

// sortsText is the text of sorts.
func sortsText(all []impl.Field) string {
	var words []string
	for _, f := range all {
		words = append(words, plainFieldText(f))
	}
	return strings.Join(words, " ")
}

// stacksText is the texts of stacks, with a stroke between them.
func stacksText(all [][]impl.Field) string {
	var texts []string
	for _, stack := range all {
		texts = append(texts, sortsText(stack))
	}
	return strings.Join(texts, "|")
}

// allSorts is every sort among n types.
func allSorts(n int) []impl.Field {
	all := sorts(num())
	for of := -2; of < n; of++ {
		all = append(all, ref(of), sure(of))
	}
	return all
}

// someHeld is up to most sorts among n types, all of them right.
func someHeld(r *rand.Rand, most int, n int) []impl.Field {
	all := allSorts(n)
	var held []impl.Field
	for range r.Intn(most + 1) {
		held = append(held, all[r.Intn(len(all))])
	}
	return held
}

// someTypes is groups that are ok.
func someTypes(r *rand.Rand) [][]impl.Type {
	for {
		if g := someGroups(r); plainOk(g) {
			return g
		}
	}
}

// someFitting is an instruction that may stand there, or any, if none is found soon.
func someFitting(r *rand.Rand, p impl.Prog, f int, stack []impl.Field) impl.Ins {
	for range 200 {
		i := someIns(r)
		// Where nothing is held is known only behind, so a jump leads to the first instruction till then.
		if i.Op == impl.InsJump || i.Op == impl.InsIf {
			i.A = 0
		}
		if _, code := plainBehind(p, f, stack, i); plainInsOk(i) && code == 0 {
			return i
		}
	}
	return ins(impl.InsNum, 5)
}

// giving is instructions by which what is of a sort comes on top.
func giving(f impl.Field) []impl.Ins {
	switch {
	case f.Kind == impl.FieldNum:
		return []impl.Ins{ins(impl.InsNum, 1)}
	case f.Kind == impl.FieldRef:
		return []impl.Ins{ins(impl.InsNull, f.Of)}
	case f.Of < 0:
		return []impl.Ins{ins(impl.InsNum, 2), ins(impl.InsChip)}
	}
	return []impl.Ins{ins(impl.InsNull, f.Of), ins(impl.InsSure)}
}

// someBody is instructions of a function, nearly all of which fit, and which end with a return.
func someBody(r *rand.Rand, p impl.Prog, f int) []impl.Ins {
	var body []impl.Ins
	var held []impl.Field
	empty := []int{}
	add := func(i impl.Ins) {
		if len(held) == 0 {
			empty = append(empty, len(body))
		}
		body = append(body, i)
		held, _ = plainBehind(p, f, held, i)
	}
	for range r.Intn(18) {
		add(someFitting(r, p, f, held))
	}
	for len(held) > 0 {
		add(ins(impl.InsDrop))
	}
	for _, i := range giving(p.Funs[f].Gives) {
		add(i)
	}
	add(ins(impl.InsRet))
	for pc := range body {
		if body[pc].Op == impl.InsJump || body[pc].Op == impl.InsIf {
			body[pc].A = empty[r.Intn(len(empty))]
		}
	}
	return body
}

// someGoing is a program, most often one with which nothing is wrong.
func someGoing(r *rand.Rand) impl.Prog {
	p := impl.Prog{Types: someTypes(r)}
	n := impl.KinCount(p.Types)
	places := func(most int) []impl.Field {
		all := someHeld(r, most, n)
		for i := range all {
			if all[i].Kind == impl.FieldSure {
				all[i].Kind = impl.FieldRef
			}
		}
		return all
	}
	p.Glob = places(3)
	every := allSorts(n)
	for range 1 + r.Intn(5) {
		p.Funs = append(p.Funs, fun(every[r.Intn(len(every))], someHeld(r, 3, n), places(3), ins(impl.InsRet)))
	}
	for f := range p.Funs {
		p.Funs[f].Body = someBody(r, p, f)
	}
	return p
}

// marred is a program with one part of one of its functions turned.
func marred(r *rand.Rand, p impl.Prog) impl.Prog {
	p = copyProg(p)
	f := &p.Funs[r.Intn(len(p.Funs))]
	at := r.Intn(len(f.Body))
	switch r.Intn(8) {
	case 0:
		f.Body[at] = someIns(r)
	case 1:
		f.Body = slices.Delete(f.Body, at, at+1)
	case 2:
		f.Body = slices.Insert(f.Body, at, someIns(r))
	case 3:
		f.Gives = allSorts(impl.KinCount(p.Types))[r.Intn(5)]
	case 4:
		f.Takes = someHeld(r, 3, impl.KinCount(p.Types))
	case 5:
		other := r.Intn(len(f.Body))
		f.Body[at], f.Body[other] = f.Body[other], f.Body[at]
	case 6:
		f.Body[at].A += 1 - 2*r.Intn(2)
	case 7:
		f.Body = slices.Insert(f.Body, at, many(max(0, min(9, impl.BodyMost-len(f.Body))), ins(impl.InsNum, 3))...)
	}
	return p
}
