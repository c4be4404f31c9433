package tests

import (
	"math"
	"math/rand"
	"slices"
	"strconv"
	"strings"
	"testing"

	"loop.example/lairage/impl"
)

// meanWorld has types under, the same as, above and apart from one another, and functions that take and give all sorts.
const meanWorld = `group
box - n! r0!
box 0 n! r0! rany
row - n!
row - r0!
group
box - s0! rchip
group
box - s0! rchip
group
box 5 s0! rchip n
row 3 r0! last
glob n r0 rany
`

// meanOthers is the functions 1 to 4 of programs that are made around an instruction.
const meanOthers = `fun n n r0
own rany n
num 5
ret
fun s1
null 1
sure
ret
fun rany s4
own rchip
get 0
ret
fun n
num 5
ret
`

// meanHost is what host has, where a case says nothing of it.
func meanHost() []int {
	return []int{8, 0, impl.NumMod - 1, impl.NumMod, -1}
}

// Values, as they are written in texts of states too: 5, -, c5 and @5.

func number(n int) impl.Val {
	return impl.Val{Kind: impl.ValNum, N: n}
}

func none() impl.Val {
	return impl.Val{Kind: impl.ValNone}
}

func chip(n int) impl.Val {
	return impl.Val{Kind: impl.ValChip, N: n}
}

func thing(at int) impl.Val {
	return impl.Val{Kind: impl.ValThing, N: at}
}

func values(all ...impl.Val) []impl.Val {
	return all
}

func valText(v impl.Val) string {
	n := strconv.Itoa(v.N)
	switch v.Kind {
	case impl.ValNum:
		return n
	case impl.ValChip:
		return "c" + n
	case impl.ValThing:
		return "@" + n
	case impl.ValNone:
		if v.N == 0 {
			return "-"
		}
	}
	return "?" + strconv.Itoa(v.Kind) + "." + n
}

func valOf(t *testing.T, text string) impl.Val {
	t.Helper()
	if text == "-" {
		return none()
	}
	kind := impl.ValNum
	switch text[0] {
	case 'c':
		kind = impl.ValChip
	case '@':
		kind = impl.ValThing
	}
	n, err := strconv.Atoi(strings.TrimLeft(text, "c@"))
	if err != nil {
		t.Fatalf("no value: %q", text)
	}
	return impl.Val{Kind: kind, N: n}
}

func valsText(vals []impl.Val) string {
	var words []string
	for _, v := range vals {
		words = append(words, valText(v))
	}
	return "(" + strings.Join(words, " ") + ")"
}

func valsOf(t *testing.T, text string) []impl.Val {
	t.Helper()
	var vals []impl.Val
	for _, word := range strings.Fields(text) {
		vals = append(vals, valOf(t, word))
	}
	return vals
}

// thingsOf is the things of a text: of each its type, and what is in it.
func thingsOf(t *testing.T, text string) []impl.Thing {
	t.Helper()
	var things []impl.Thing
	for _, one := range strings.SplitAfter(strings.TrimSpace(text), ")") {
		if typ, vals, ok := strings.Cut(one, "("); ok {
			things = append(things, impl.Thing{Type: numberOf(t, typ), Vals: valsOf(t, strings.Trim(vals, "()"))})
		}
	}
	return things
}

func numberOf(t *testing.T, text string) int {
	t.Helper()
	n, err := strconv.Atoi(strings.TrimSpace(text))
	if err != nil {
		t.Fatalf("no number: %q", text)
	}
	return n
}

// numbersOf is the numbers of a text, with spaces between.
func numbersOf(t *testing.T, text string) []int {
	t.Helper()
	var all []int
	for _, word := range strings.Fields(text) {
		all = append(all, numberOf(t, word))
	}
	return all
}

// meanText is a state as a text: things (its type and what is in it), what all share, frames (function, instruction,
// places, what is held), what was told, how much was asked, and the code, with strokes between.
func meanText(m impl.Mean) string {
	var things, frames, outs []string
	for _, one := range m.Things {
		things = append(things, strconv.Itoa(one.Type)+valsText(one.Vals))
	}
	for _, f := range m.Frames {
		frames = append(frames, strconv.Itoa(f.Fun)+":"+strconv.Itoa(f.Pc)+valsText(f.Locals)+valsText(f.Stack))
	}
	for _, n := range m.Outs {
		outs = append(outs, strconv.Itoa(n))
	}
	parts := []string{strings.Join(things, " "), valsText(m.Glob), strings.Join(frames, " "), strings.Join(outs, " "), strconv.Itoa(m.Asked), strconv.Itoa(m.Code)}
	return strings.Join(parts, "|")
}

// meanOf is the state of a text.
func meanOf(t *testing.T, text string) impl.Mean {
	t.Helper()
	parts := strings.Split(text, "|")
	if len(parts) != 6 {
		t.Fatalf("no state: %q", text)
	}
	number := func(text string) int { return numberOf(t, text) }
	m := impl.Mean{Things: thingsOf(t, parts[0])}
	m.Glob = valsOf(t, strings.Trim(parts[1], " ()"))
	frames := strings.SplitAfter(strings.TrimSpace(parts[2]), ")")
	for at := 0; at+1 < len(frames); at += 2 {
		where, locals, _ := strings.Cut(frames[at], "(")
		f, pc, _ := strings.Cut(where, ":")
		m.Frames = append(m.Frames, impl.Frame{Fun: number(f), Pc: number(pc), Locals: valsOf(t, strings.Trim(locals, "()")), Stack: valsOf(t, strings.Trim(frames[at+1], " ()"))})
	}
	m.Outs = numbersOf(t, parts[3])
	m.Asked, m.Code = number(parts[4]), number(parts[5])
	return m
}

// aroundIns is a program whose first function holds such sorts ahead of an instruction, and the place of that; the
// function has a number, a reference to type 0, and one to any, as its own.
func aroundIns(t *testing.T, held string, text string, gives string) (impl.Prog, int) {
	t.Helper()
	p := readProg(t, meanWorld+"fun "+gives+"\nown n r0 rany\nret\n"+meanOthers)
	var body []impl.Ins
	for _, f := range sortsOf(t, held) {
		body = append(body, giving(f)...)
	}
	at := len(body)
	// So that each jump that a case has leads to an instruction ahead of which nothing is held.
	i := insOf(t, text)
	body = append(body, i)
	behind, code := plainBehind(p, 0, sortsOf(t, held), i)
	if i.Op == impl.InsJump || i.Op == impl.InsIf {
		behind, code = nil, 0
	}
	if code != 0 {
		t.Fatalf("%q on %q: %d", text, held, code)
	}
	body = append(body, many(len(behind), ins(impl.InsDrop))...)
	body = append(body, giving(p.Funs[0].Gives)...)
	p.Funs[0].Body = append(body, ins(impl.InsRet))
	if fault := plainAll(p); fault != (impl.Fault{}) {
		t.Fatalf("%q on %q: %v", text, held, fault)
	}
	return p, at
}

// copyMean is a state in memory of its own, with room behind each list that is not nothing, so that a write there shows.
func copyMean(m impl.Mean) impl.Mean {
	junk := impl.Val{Kind: 66, N: 66}
	own := impl.Mean{Glob: withRoom(m.Glob, junk), Outs: withRoom(m.Outs, 66), Asked: m.Asked, Code: m.Code}
	for _, one := range m.Things {
		own.Things = append(own.Things, impl.Thing{Type: one.Type, Vals: withRoom(one.Vals, junk)})
	}
	for _, f := range m.Frames {
		own.Frames = append(own.Frames, impl.Frame{Fun: f.Fun, Pc: f.Pc, Locals: withRoom(f.Locals, junk), Stack: withRoom(f.Stack, junk)})
	}
	own.Things = withRoom(own.Things, impl.Thing{Type: 66})
	own.Frames = withRoom(own.Frames, impl.Frame{Fun: 66})
	return own
}

// spreadMean is a state with the room behind each list as if it belonged to it.
func spreadMean(m impl.Mean) impl.Mean {
	all := impl.Mean{Glob: slices.Clone(m.Glob[:cap(m.Glob)]), Outs: slices.Clone(m.Outs[:cap(m.Outs)]), Asked: m.Asked, Code: m.Code}
	for _, one := range m.Things[:cap(m.Things)] {
		all.Things = append(all.Things, impl.Thing{Type: one.Type, Vals: slices.Clone(one.Vals[:cap(one.Vals)])})
	}
	for _, f := range m.Frames[:cap(m.Frames)] {
		all.Frames = append(all.Frames, impl.Frame{Fun: f.Fun, Pc: f.Pc, Locals: slices.Clone(f.Locals[:cap(f.Locals)]), Stack: slices.Clone(f.Stack[:cap(f.Stack)])})
	}
	return all
}

// turnedMean is a copy of a state with one part of it turned.
func turnedMean(m impl.Mean, turn func(m *impl.Mean)) impl.Mean {
	own := copyMean(m)
	turn(&own)
	return own
}

// scribble writes over each list of a state, with the room behind it, one after the other, and says whether another one
// showed that.
func scribble(m impl.Mean) bool {
	var vals [][]impl.Val
	vals = append(vals, m.Glob)
	for _, one := range m.Things {
		vals = append(vals, one.Vals)
	}
	for _, f := range m.Frames {
		vals = append(vals, f.Locals, f.Stack)
	}
	for i, list := range vals {
		list = list[:cap(list)]
		for at := range list {
			list[at] = impl.Val{Kind: 1000 + i, N: at}
		}
	}
	outs := m.Outs[:cap(m.Outs)]
	for at := range outs {
		outs[at] = 5000 + at
	}
	for i, list := range vals {
		for at, v := range list[:cap(list)] {
			if v != (impl.Val{Kind: 1000 + i, N: at}) {
				return true
			}
		}
	}
	things := m.Things[:cap(m.Things)]
	for at := range things {
		things[at] = impl.Thing{Type: 7000 + at}
	}
	frames := m.Frames[:cap(m.Frames)]
	for at := range frames {
		frames[at] = impl.Frame{Fun: 8000 + at}
	}
	return false
}

// soundPart is an instruction that fits, of any word.
func soundPart(r *rand.Rand, p impl.Prog, f int, held []impl.Field) impl.Ins {
	for range 60 {
		i := someIns(r)
		if i.Op == impl.InsJump || i.Op == impl.InsIf {
			i.A = 0
		}
		if _, code := plainBehind(p, f, held, i); plainInsOk(i) && code == 0 {
			return i
		}
	}
	return ins(impl.InsSweep, 0)
}

// making is instructions by which what is of a sort comes on top, and is most often not none.
func making(r *rand.Rand, g [][]impl.Type, f impl.Field, depth int) []impl.Ins {
	if f.Kind == impl.FieldNum {
		return []impl.Ins{ins(impl.InsNum, r.Intn(7))}
	}
	of := f.Of
	if n := impl.KinCount(g); of == impl.OfAny && n > 0 && r.Intn(3) > 0 {
		of = r.Intn(n)
	}
	if of < 0 {
		return []impl.Ins{ins(impl.InsNum, r.Intn(impl.NumMod)), ins(impl.InsChip)}
	}
	if depth == 0 || f.Kind == impl.FieldRef && r.Intn(8) == 0 {
		return giving(impl.Field{Kind: f.Kind, Of: of})
	}
	var all []impl.Ins
	typ := typeAt(g, of)
	if typ.Kind == impl.TypeRow {
		all = append(all, ins(impl.InsNum, 1+r.Intn(6)+r.Intn(9)/8))
		all = append(all, making(r, g, typ.Fields[0], depth-1)...)
		return append(all, ins(impl.InsRow, of))
	}
	for _, field := range typ.Fields {
		all = append(all, making(r, g, field, depth-1)...)
	}
	return append(all, ins(impl.InsNew, of))
}

// maker makes phrases of a function: instructions that hang together.
type maker struct {
	r *rand.Rand
	p impl.Prog
	f int
}

// way is one way to make a phrase.
type way func() []impl.Ins

func (m maker) of(op int, a int, b int, parts ...way) way {
	return func() []impl.Ins {
		var all []impl.Ins
		for _, part := range parts {
			all = append(all, part()...)
		}
		return append(all, impl.Ins{Op: op, A: a, B: b})
	}
}

// pick goes one of several ways.
func (m maker) pick(ways []way) []impl.Ins {
	return ways[m.r.Intn(len(ways))]()
}

// get is a way by which what is of a sort comes on top.
func (m maker) get(f impl.Field, depth int) way {
	return func() []impl.Ins { return m.getting(f, depth) }
}

func (m maker) gets(all []impl.Field, depth int) []way {
	var parts []way
	for _, f := range all {
		parts = append(parts, m.get(f, depth))
	}
	return parts
}

// getting is instructions by which what is of a sort comes on top: made, or got from where it may stand.
func (m maker) getting(f impl.Field, depth int) []impl.Ins {
	ways := []way{func() []impl.Ins { return making(m.r, m.p.Types, f, 1) }}
	fits := func(g impl.Field) bool { return plainFieldUnder(m.p.Types, g, f) }
	for at, place := range plainSlots(m.p, m.f) {
		if fits(place) {
			ways = append(ways, m.of(impl.InsGet, at, 0), m.of(impl.InsGet, at, 0))
		}
	}
	for at, place := range m.p.Glob {
		if fits(place) {
			ways = append(ways, m.of(impl.InsTake, at, 0), m.of(impl.InsTake, at, 0))
		}
	}
	if depth == 0 {
		return m.pick(ways)
	}
	less := depth - 1
	for a := range impl.KinCount(m.p.Types) {
		typ := typeAt(m.p.Types, a)
		for b, field := range typ.Fields {
			if field.Mut = false; fits(field) && typ.Kind == impl.TypeBox {
				ways = append(ways, m.of(impl.InsLook, a, b, m.get(ref(a), less)))
			} else if fits(field) {
				ways = append(ways, m.of(impl.InsAt, a, 0, m.get(ref(a), less), m.get(num(), less)))
			}
		}
		if typ.Kind == impl.TypeRow && f.Kind == impl.FieldNum {
			ways = append(ways, m.of(impl.InsLen, a, 0, m.get(ref(a), less)))
		}
	}
	if m.r.Intn(3) == 0 {
		for a, called := range m.p.Funs {
			if fits(called.Gives) {
				ways = append(ways, m.of(impl.InsCall, a, 0, m.gets(called.Takes, less)...))
			}
		}
	}
	if f.Kind != impl.FieldNum {
		loose := m.get(ref(f.Of), less)
		return m.pick(append(ways, m.of(impl.InsSure, 0, 0, loose), m.of(impl.InsCast, f.Of, 0, loose)))
	}
	any, one := m.get(ref(impl.OfAny), less), m.get(num(), less)
	return m.pick(append(ways, m.of(impl.InsAdd, 0, 0, one, one), m.of(impl.InsMul, 0, 0, one, one), m.of(impl.InsLess, 0, 0, one, one), m.of(impl.InsBack, 0, 0, m.get(ref(impl.OfChip), less)),
		m.of(impl.InsSame, 0, 0, any, any), m.of(impl.InsNone, 0, 0, any), m.of(impl.InsTest, m.r.Intn(impl.KinCount(m.p.Types)+2)-2, 0, any), m.of(impl.InsAsk, 0, 0, one)))
}

// phrase is instructions ahead of which, and behind which, nothing is held.
func (m maker) phrase() []impl.Ins {
	ways := []way{
		m.of(impl.InsSay, 0, 0, m.get(num(), 2)),
		m.of(impl.InsShow, 0, 0, m.get(ref(impl.OfAny), 2)),
		m.of(impl.InsIf, 0, 0, m.get(num(), 2)),
		m.of(impl.InsSweep, m.r.Intn(2), 0),
		m.of(impl.InsDrop, 0, 0, m.get(ref(impl.OfAny), 2)),
	}
	for at, place := range plainSlots(m.p, m.f) {
		ways = append(ways, m.of(impl.InsSet, at, 0, m.get(place, 2)))
	}
	for at, place := range m.p.Glob {
		ways = append(ways, m.of(impl.InsKeep, at, 0, m.get(place, 2)))
	}
	for a := range impl.KinCount(m.p.Types) {
		typ := typeAt(m.p.Types, a)
		for b, field := range typ.Fields {
			if !field.Mut {
				continue
			}
			if field.Mut = false; typ.Kind == impl.TypeBox {
				ways = append(ways, m.of(impl.InsPut, a, b, m.get(ref(a), 1), m.get(field, 1)))
			} else {
				lay := m.of(impl.InsLay, a, 0, m.get(ref(a), 1), m.get(num(), 0), m.get(field, 1))
				ways = append(ways, lay, lay, lay)
			}
		}
	}
	switch m.r.Intn(25) {
	case 0:
		ways = []way{m.of(impl.InsRet, 0, 0, m.get(m.p.Funs[m.f].Gives, 1))}
	case 1:
		ways = []way{m.of(impl.InsJump, 0, 0)}
	case 2, 3:
		a := m.r.Intn(len(m.p.Funs))
		ways = []way{m.of(impl.InsPass, a, 0, m.gets(m.p.Funs[a].Takes, 1)...)}
	}
	return m.pick(ways)
}

// soundBody is the body of a function with which nothing is wrong, as its parts are all tried ahead.
func soundBody(r *rand.Rand, p impl.Prog, f int) []impl.Ins {
	m := maker{r, p, f}
	var body []impl.Ins
	var held []impl.Field
	add := func(phrase []impl.Ins) {
		tried, behind := body, held
		for _, i := range phrase {
			next, code := plainBehind(p, f, behind, i)
			if code != 0 {
				return
			}
			tried, behind = append(tried[:len(tried):len(tried)], i), next
		}
		if ending := making(r, p.Types, p.Funs[f].Gives, 1); len(tried)+len(behind)+len(ending) < impl.BodyMost {
			body, held = tried, behind
		}
	}
	for at, place := range p.Funs[f].Own {
		add(append(making(r, p.Types, place, 1), ins(impl.InsSet, len(p.Funs[f].Takes)+at)))
	}
	for range 3 + r.Intn(12) {
		if r.Intn(6) == 0 {
			add([]impl.Ins{soundPart(r, p, f, held)})
		} else {
			add(m.phrase())
		}
	}
	body = append(body, many(len(held), ins(impl.InsDrop))...)
	body = append(body, making(r, p.Types, p.Funs[f].Gives, 1)...)
	return aimed(r, p, f, append(body, ins(impl.InsRet)))
}

// aimed is a body whose jumps lead where nothing is held, most often forward.
func aimed(r *rand.Rand, p impl.Prog, f int, body []impl.Ins) []impl.Ins {
	var held []impl.Field
	var empty []int
	for pc, i := range body {
		if len(held) == 0 {
			empty = append(empty, pc)
		}
		held, _ = plainBehind(p, f, held, i)
	}
	for pc := range body {
		if op := body[pc].Op; op == impl.InsJump || op == impl.InsIf {
			body[pc].A = empty[r.Intn(len(empty))]
			if r.Intn(4) > 0 {
				body[pc].A = max(body[pc].A, empty[r.Intn(len(empty))])
			}
		}
	}
	return body
}

// soundProg is a program that can go.
func soundProg(r *rand.Rand) impl.Prog {
	for {
		p := impl.Prog{Types: someTypes(r)}
		n := impl.KinCount(p.Types)
		every := allSorts(n)
		places := func(most int) []impl.Field {
			all := someHeld(r, most, n)
			for i := range all {
				all[i].Kind = min(all[i].Kind, impl.FieldRef)
			}
			return all
		}
		p.Glob = places(3)
		for f := range 1 + r.Intn(4) {
			takes := someHeld(r, 2, n)
			if f == 0 {
				takes = nil
			}
			p.Funs = append(p.Funs, fun(every[r.Intn(len(every))], takes, places(3), ins(impl.InsRet)))
		}
		for f := range p.Funs {
			p.Funs[f].Body = soundBody(r, p, f)
		}
		if plainAll(p) == (impl.Fault{}) {
			return p
		}
	}
}

// someHost is what host has: some of it may be no number.
func someHost(r *rand.Rand) []int {
	var host []int
	for range r.Intn(12) {
		n := r.Intn(impl.NumMod)
		switch r.Intn(12) {
		case 0:
			n = []int{-1, impl.NumMod, math.MinInt, math.MaxInt}[r.Intn(4)]
		case 1, 2, 3, 4:
			n = r.Intn(3)
		}
		host = append(host, n)
	}
	return host
}

// marVal is a value with one part turned.
func marVal(r *rand.Rand, v impl.Val) impl.Val {
	switch r.Intn(3) {
	case 0:
		v.Kind += 1 - 2*r.Intn(2)
	case 1:
		v.N += 1 - 2*r.Intn(2)
	default:
		v = []impl.Val{number(impl.NumMod), number(r.Intn(9)), chip(r.Intn(9)), chip(impl.NumMod), none(), thing(r.Intn(4)), thing(-1), {Kind: 2, N: 1}, {Kind: 5}, {}}[r.Intn(10)]
	}
	return v
}

// marVals is values with one of them turned, one more, or one less.
func marVals(r *rand.Rand, vals []impl.Val) []impl.Val {
	own := slices.Clone(vals)
	switch {
	case r.Intn(8) == 0:
		return append(own, marVal(r, number(0)))
	case len(own) > 0 && r.Intn(8) == 0:
		return own[:len(own)-1]
	case len(own) > 0:
		at := r.Intn(len(own))
		own[at] = marVal(r, own[at])
	}
	return own
}

// marNumber is a number that is near, or at an edge.
func marNumber(r *rand.Rand, n int) int {
	return []int{n - 1, n + 1, 0, 1, r.Intn(12), -1, 30, math.MaxInt, math.MinInt}[r.Intn(9)]
}

// marredMean is a state with one part of it turned; whether it can be is left open.
func marredMean(r *rand.Rand, m impl.Mean) impl.Mean {
	return turnedMean(m, func(m *impl.Mean) {
		switch r.Intn(9) {
		case 0, 1:
			if len(m.Things) > 0 {
				one := &m.Things[r.Intn(len(m.Things))]
				one.Vals = marVals(r, one.Vals)
			}
		case 2:
			if len(m.Things) > 0 {
				one := &m.Things[r.Intn(len(m.Things))]
				one.Type = marNumber(r, one.Type)
			} else {
				m.Things = append(m.Things, impl.Thing{Type: r.Intn(3)})
			}
		case 3:
			m.Glob = marVals(r, m.Glob)
		case 4, 5:
			if len(m.Frames) > 0 {
				f := &m.Frames[r.Intn(len(m.Frames))]
				part := []*[]impl.Val{&f.Locals, &f.Stack}[r.Intn(2)]
				*part = marVals(r, *part)
			}
		case 6:
			if len(m.Frames) > 0 {
				f := &m.Frames[r.Intn(len(m.Frames))]
				part := []*int{&f.Fun, &f.Pc}[r.Intn(2)]
				*part = marNumber(r, *part)
			}
		case 7:
			if at := len(m.Frames); at > 0 && r.Intn(2) == 0 {
				m.Frames = m.Frames[:at-1]
			} else if at > 0 {
				m.Frames = append(m.Frames, m.Frames[r.Intn(at)])
			}
		case 8:
			switch r.Intn(4) {
			case 0:
				m.Asked = marNumber(r, m.Asked)
			case 1:
				m.Code = r.Intn(13) - 1
			case 2:
				m.Outs = append(m.Outs, many(r.Intn(32), 5)...)
			case 3:
				m.Outs = m.Outs[:len(m.Outs)/2]
			}
		}
	})
}
