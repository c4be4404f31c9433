package tests

import (
	"math/rand"
	"slices"

	"loop.example/lairage/impl"
)

func ins(op int, numbers ...int) impl.Ins {
	i := impl.Ins{Op: op}
	for at, n := range numbers {
		*insNumber(&i, at) = n
	}
	return i
}

func sorts(all ...impl.Field) []impl.Field {
	return all
}

func fun(gives impl.Field, takes []impl.Field, own []impl.Field, body ...impl.Ins) impl.Fun {
	return impl.Fun{Takes: takes, Gives: gives, Own: own, Body: body}
}

// many is n of one thing.
func many[T any](n int, one T) []T {
	all := make([]T, 0, n)
	for range n {
		all = append(all, one)
	}
	return all
}

// smallProg is the least program: no types, no places, one function of one instruction.
func smallProg() impl.Prog {
	return impl.Prog{Funs: []impl.Fun{fun(num(), nil, nil, ins(impl.InsRet))}}
}

// fullProg has every part: groups, boxes and rows, Up, Last, all bounds of places, and each kind of instruction.
func fullProg() impl.Prog {
	return impl.Prog{
		Types: family(),
		Glob:  sorts(num(), ref(impl.OfChip), ref(6)),
		Funs: []impl.Fun{
			fun(ref(2), sorts(num(), sure(0), ref(impl.OfAny)), sorts(num(), ref(6), ref(impl.OfAny)),
				ins(1, 9972), ins(1, 0), ins(2, 5), ins(3, 0), ins(4, 2), ins(5, 0), ins(6), ins(7), ins(8), ins(9), ins(10), ins(11),
				ins(12, 7), ins(12, impl.OfAny), ins(12, impl.OfChip), ins(13, 7), ins(14, 7, 3), ins(15, 0, 0), ins(16, 1), ins(17, 2)),
			fun(num(), nil, nil, ins(18, 3), ins(19, 4), ins(20), ins(21), ins(22, impl.OfChip), ins(23, impl.OfAny), ins(24), ins(25, 29), ins(26, 0), ins(27, 4), ins(28, 0), ins(29)),
			fun(sure(impl.OfChip), nil, sorts(ref(0)), ins(30), ins(31), ins(32), ins(33, 0), ins(33, 1)),
			fun(sure(impl.OfAny), sorts(sure(5)), nil, ins(29)),
		},
	}
}

// fullText is the text of fullProg.
const fullText = `group
box - rany n!
group
box 0 s2 n! last
row - r1
group
box 0 s4 n! last
row - r3
group
row 4 s1
box 0 rchip n! r5!
glob n rchip r6
fun r2 n s0 rany
own n r6 rany
num 9972
num 0
get 5
set 0
take 2
keep 0
drop
add
mul
less
chip
back
null 7
null any
null chip
new 7
look 7 3
put 0 0
row 1
at 2
fun n
lay 3
len 4
same
none
test chip
cast any
sure
jump 29
if 0
call 4
pass 0
ret
fun schip
own r0
say
show
ask
sweep 0
sweep 1
fun sany s5
ret
`

// turned is a copy of a program with one part of it turned.
func turned(p impl.Prog, turn func(p *impl.Prog)) impl.Prog {
	own := copyProg(p)
	turn(&own)
	return own
}

// boundProgs is programs that are ok, each of which meets a bound exactly.
func boundProgs() map[string]impl.Prog {
	small := smallProg()
	most := impl.Prog{Types: groups(many(2, box(-1)), many(2, box(-1)), many(2, box(-1)), many(2, box(-1, many(4, num())...))), Glob: many(3, num())}
	most.Funs = many(5, fun(num(), many(3, num()), many(3, num()), many(30, ins(impl.InsRet))...))
	return map[string]impl.Prog{
		"the least":      small,
		"the greatest":   most,
		"full":           fullProg(),
		"three shared":   turned(small, func(p *impl.Prog) { p.Glob = many(3, ref(impl.OfAny)) }),
		"five functions": turned(small, func(p *impl.Prog) { p.Funs = many(5, p.Funs[0]) }),
		"takes three":    turned(small, func(p *impl.Prog) { p.Funs[0].Takes = many(3, sure(impl.OfChip)) }),
		"three own":      turned(small, func(p *impl.Prog) { p.Funs[0].Own = many(3, ref(impl.OfChip)) }),
		"thirty do":      turned(small, func(p *impl.Prog) { p.Funs[0].Body = many(30, ins(impl.InsNum, 9972)) }),
		"four groups":    turned(small, func(p *impl.Prog) { p.Types = many(4, group(box(-1))) }),
		"eight types":    turned(small, func(p *impl.Prog) { p.Types = groups(many(8, row(-1, ref(7)))) }),
		"four fields":    turned(small, func(p *impl.Prog) { p.Types = groups(group(box(-1, many(4, mut(sure(0)))...))) }),
		"no fields":      turned(small, func(p *impl.Prog) { p.Types = groups(group(box(-1), last(box(0)))) }),
		"the last type": turned(small, func(p *impl.Prog) {
			p.Types = groups(group(box(-1)))
			p.Glob = sorts(ref(0))
			p.Funs[0] = fun(sure(0), sorts(sure(0)), sorts(ref(0)), ins(impl.InsNull, 7))
		}),
	}
}

// badProgs is programs that are not ok, each for one reason alone.
func badProgs() map[string]impl.Prog {
	small := smallProg()
	fullOne := turned(small, func(p *impl.Prog) { p.Types = groups(group(box(-1, num()))) })
	all := map[string]impl.Prog{
		"nothing":            {},
		"no function":        turned(small, func(p *impl.Prog) { p.Funs = p.Funs[:0] }),
		"six functions":      turned(small, func(p *impl.Prog) { p.Funs = many(6, p.Funs[0]) }),
		"four shared":        turned(small, func(p *impl.Prog) { p.Glob = many(4, num()) }),
		"takes four":         turned(small, func(p *impl.Prog) { p.Funs[0].Takes = many(4, num()) }),
		"four own":           turned(small, func(p *impl.Prog) { p.Funs[0].Own = many(4, num()) }),
		"does nothing":       turned(small, func(p *impl.Prog) { p.Funs[0].Body = nil }),
		"second has no body": turned(small, func(p *impl.Prog) { p.Funs = append(p.Funs, fun(num(), nil, nil)) }),
		"thirty-one do":      turned(small, func(p *impl.Prog) { p.Funs[0].Body = many(31, ins(impl.InsRet)) }),
		"no kind of ins":     turned(small, func(p *impl.Prog) { p.Funs[0].Body[0].Op = 0 }),
		"kind 34 of ins":     turned(small, func(p *impl.Prog) { p.Funs[0].Body[0].Op = 34 }),
		"ins with more":      turned(small, func(p *impl.Prog) { p.Funs[0].Body[0].A = 1 }),
		"last ins is wrong":  turned(small, func(p *impl.Prog) { p.Funs[0].Body = append(p.Funs[0].Body, ins(impl.InsNum, 9973)) }),
	}
	for name, g := range badFamilies() {
		all["types: "+name] = turned(small, func(p *impl.Prog) { p.Types = g })
	}
	wrongs := map[string]impl.Field{"no kind": {}, "kind 4": {Kind: 4}, "kind -1": {Kind: -1}, "number of 1": {Kind: 1, Of: 1}, "type 1": ref(1), "sure of 1": sure(1), "of -3": ref(-3), "mut": mut(num()), "mut ref": mut(ref(0))}
	for name, f := range wrongs {
		all["gives "+name] = turned(fullOne, func(p *impl.Prog) { p.Funs[0].Gives = f })
		all["takes "+name] = turned(fullOne, func(p *impl.Prog) { p.Funs[0].Takes = sorts(num(), f) })
		all["owns "+name] = turned(fullOne, func(p *impl.Prog) { p.Funs[0].Own = sorts(num(), f) })
		all["shares "+name] = turned(fullOne, func(p *impl.Prog) { p.Glob = sorts(num(), f) })
	}
	for _, f := range sorts(sure(0), sure(impl.OfAny), sure(impl.OfChip)) {
		all["owns sure "+plainNumber(f.Of)] = turned(fullOne, func(p *impl.Prog) { p.Funs[0].Own = sorts(num(), f) })
		all["shares sure "+plainNumber(f.Of)] = turned(fullOne, func(p *impl.Prog) { p.Glob = sorts(f, num()) })
	}
	return all
}

// withRoom is a list in memory of its own, with room behind it that is filled.
func withRoom[T any](list []T, fill T) []T {
	own := append(make([]T, 0, len(list)+2), list...)
	room := own[len(own):cap(own)]
	for i := range room {
		room[i] = fill
	}
	return own
}

// copyProg is a program in memory of its own, with room behind each list that is not nothing, so that a write there shows.
func copyProg(p impl.Prog) impl.Prog {
	junk := impl.Field{Kind: 66, Of: 66}
	own := impl.Prog{Types: copyGroups(p.Types), Glob: withRoom(p.Glob, junk)}
	for _, f := range p.Funs {
		own.Funs = append(own.Funs, fun(f.Gives, withRoom(f.Takes, junk), withRoom(f.Own, junk), withRoom(f.Body, ins(99, 99))...))
	}
	own.Funs = withRoom(own.Funs, fun(junk, nil, nil))
	return own
}

// spreadProg is a program with the room behind each list as if it belonged to it.
func spreadProg(p impl.Prog) impl.Prog {
	all := impl.Prog{Types: spread(p.Types), Glob: slices.Clone(p.Glob[:cap(p.Glob)])}
	for _, f := range p.Funs[:cap(p.Funs)] {
		all.Funs = append(all.Funs, fun(f.Gives, slices.Clone(f.Takes[:cap(f.Takes)]), slices.Clone(f.Own[:cap(f.Own)]), slices.Clone(f.Body[:cap(f.Body)])...))
	}
	return all
}

// someSorts is up to most sorts among n types, sometimes a wrong one.
func someSorts(r *rand.Rand, most int, n int, places bool) []impl.Field {
	var all []impl.Field
	for range r.Intn(most + 1) {
		f := someField(r, n)
		if f.Mut = r.Intn(200) == 0; places && f.Kind == impl.FieldSure && r.Intn(100) > 0 {
			f.Kind = impl.FieldRef
		}
		all = append(all, f)
	}
	return all
}

// someIns is an instruction, of which nearly all are ok.
func someIns(r *rand.Rand) impl.Ins {
	table := insTable()
	kind := table[r.Intn(len(table))]
	i := impl.Ins{Op: kind.op}
	for at, span := range kind.numbers {
		*insNumber(&i, at) = span[0] + r.Intn(span[1]-span[0]+1)
	}
	if r.Intn(2000) == 0 {
		i.B++
	}
	return i
}

// someProg is a program, many of them ok.
func someProg(r *rand.Rand) impl.Prog {
	var p impl.Prog
	if r.Intn(8) > 0 {
		p.Types = someGroups(r)
		for tries := 0; tries < 20 && !plainOk(p.Types); tries++ {
			p.Types = someGroups(r)
		}
	}
	n := impl.KinCount(p.Types)
	p.Glob = someSorts(r, 3, n, true)
	for range 1 + r.Intn(5) {
		f := fun(ref(impl.OfAny), someSorts(r, 3, n, false), someSorts(r, 3, n, true))
		if one := someSorts(r, 1, n, false); len(one) > 0 {
			f.Gives = one[0]
		}
		for range 1 + r.Intn(12) {
			f.Body = append(f.Body, someIns(r))
		}
		p.Funs = append(p.Funs, f)
	}
	return p
}
