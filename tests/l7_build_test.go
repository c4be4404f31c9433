package tests

import (
	"fmt"
	"math"
	"math/rand"
	"slices"
	"strings"
	"testing"

	"loop.example/lairage/impl"
)

// heapWorld has types under, the same as, above and apart from one another, and fields of every kind: 1 is under 0, 4 and
// 5 are the same, and 6 is under them.
const heapWorld = `group
box - n! r0!
box 0 n! r0! rany schip!
row - n!
row - r0!
group
box - s0! rchip
group
box - s0! rchip
group
box 5 s0! rchip sany
row - r4!
`

// typesOf is the types of a text.
func typesOf(t *testing.T, text string) [][]impl.Type {
	t.Helper()
	return readProg(t, text+"fun n\nret\n").Types
}

// heapOf is the heap of a text: how many words there are for old things and how many others, the old things, the young
// ones, and the log, with strokes between.
func heapOf(t *testing.T, text string) impl.Heap {
	t.Helper()
	parts := strings.Split(text, "|")
	if len(parts) != 4 {
		t.Fatalf("no heap: %q", text)
	}
	old, others, _ := strings.Cut(parts[0], "+")
	h := impl.Heap{Old: numberOf(t, old), Log: numbersOf(t, parts[3])}
	h.Words = make([]int, h.Old+numberOf(t, others))
	h.OldAt = lay(h.Words[:h.Old], thingsOf(t, parts[1]))
	h.YoungAt = lay(h.Words[h.Old:], thingsOf(t, parts[2]))
	return h
}

// lay puts things into words, from their beginning on, and is how many words these are.
func lay(words []int, things []impl.Thing) int {
	at := 0
	for _, one := range things {
		words[at] = 16*one.Type + len(one.Vals)
		for i, v := range one.Vals {
			words[at+1+i] = plainWord(v)
		}
		at += 1 + len(one.Vals)
	}
	return at
}

// heapText is a heap as a text; of two heaps it is the same just if they are the same in all parts.
func heapText(h impl.Heap) string {
	return fmt.Sprint(h)
}

// copyHeap is a heap in memory of its own, with room behind each list, so that a write there shows.
func copyHeap(h impl.Heap) impl.Heap {
	h.Words, h.Log = withRoom(h.Words, 66), withRoom(h.Log, 66)
	return h
}

// spreadHeap is a heap with the room behind each list as if it belonged to it.
func spreadHeap(h impl.Heap) impl.Heap {
	h.Words, h.Log = slices.Clone(h.Words[:cap(h.Words)]), slices.Clone(h.Log[:cap(h.Log)])
	return h
}

// turnedHeap is a copy of a heap with one part of it turned.
func turnedHeap(h impl.Heap, turn func(h *impl.Heap)) impl.Heap {
	own := copyHeap(h)
	turn(&own)
	return own
}

// someChip is the number of a chip, at times one whose word is near that of a thing.
func someChip(r *rand.Rand) int {
	return []int{0, 1, r.Intn(160), 159, 160, r.Intn(9973), 9972}[r.Intn(7)]
}

// someFit is a value that fits, if one is found soon, and most often a thing, if it may be one.
func someFit(r *rand.Rand, g [][]impl.Type, all []placed, f impl.Field) impl.Val {
	for range 12 {
		v := none()
		switch kind := r.Intn(8); {
		case f.Kind == impl.FieldNum:
			v = number([]int{0, 1, r.Intn(9973), 9972}[r.Intn(4)])
		case kind < 2 || len(all) == 0:
			v = chip(someChip(r))
		case kind < 7:
			v = thing(all[r.Intn(len(all))].at)
		}
		if plainPlacedFits(g, all, v, f) {
			return v
		}
	}
	return none()
}

// someVal is a value, most often one that fits.
func someVal(r *rand.Rand, g [][]impl.Type, all []placed, f impl.Field) impl.Val {
	v := someFit(r, g, all, f)
	switch r.Intn(30) {
	case 0:
		return marVal(r, v)
	case 1:
		return thing(r.Intn(164) - 2)
	}
	return v
}

// someMaking is a type and values, most often such that a thing can be made of them.
func someMaking(r *rand.Rand, g [][]impl.Type, h impl.Heap) (int, []impl.Val) {
	all, _ := plainHeapPlaced(g, h)
	a := r.Intn(impl.KinCount(g))
	typ := typeAt(g, a)
	fields := typ.Fields
	if typ.Kind == impl.TypeRow {
		fields = many(r.Intn(7), fields[0])
	}
	var vals []impl.Val
	for _, f := range fields {
		vals = append(vals, someVal(r, g, all, f))
	}
	switch r.Intn(40) {
	case 0:
		vals = append(vals, none())
	case 1:
		a = marNumber(r, a)
	case 2:
		vals = vals[:len(vals)/2]
	}
	return a, vals
}

// somePutting is a thing of a heap, a place in it and a value, most often such that it can be put there.
func somePutting(r *rand.Rand, g [][]impl.Type, h impl.Heap) (int, int, impl.Val) {
	all, _ := plainHeapPlaced(g, h)
	if len(all) == 0 || r.Intn(40) == 0 {
		return r.Intn(len(h.Words)+4) - 2, r.Intn(5), none()
	}
	one := all[r.Intn(len(all))]
	if len(one.fields) == 0 || r.Intn(40) == 0 {
		return one.at, []int{-1, len(one.fields), math.MinInt, math.MaxInt}[r.Intn(4)], number(0)
	}
	i := r.Intn(len(one.fields))
	return one.at, i, someVal(r, g, all, one.fields[i])
}

// aged is a heap whose young things are old, if there is room for them; some words of old things are known then.
func aged(r *rand.Rand, g [][]impl.Type, h impl.Heap) impl.Heap {
	all, _ := plainHeapPlaced(g, h)
	if h.OldAt+h.YoungAt > h.Old {
		return h
	}
	own := impl.Heap{Words: make([]int, len(h.Words)), Old: h.Old}
	var things []impl.Thing
	for _, one := range all {
		vals := slices.Clone(one.thing.Vals)
		for i, v := range vals {
			if v.Kind == impl.ValThing && v.N >= h.Old {
				vals[i].N += h.OldAt - h.Old
			}
		}
		things = append(things, impl.Thing{Type: one.thing.Type, Vals: vals})
	}
	own.OldAt = lay(own.Words, things)
	own.Log = someLog(r, g, own)
	return own
}

// someLog is places of words of old things that may name something, in any order.
func someLog(r *rand.Rand, g [][]impl.Type, h impl.Heap) []int {
	all, _ := plainHeapPlaced(g, h)
	var log []int
	for _, one := range all {
		for i, f := range one.fields {
			if f.Kind != impl.FieldNum && r.Intn(6) == 0 {
				log = append(log, one.at+1+i)
			}
		}
	}
	r.Shuffle(len(log), func(i, j int) { log[i], log[j] = log[j], log[i] })
	return log
}

// someHeapTypes is types of which something can be made.
func someHeapTypes(t *testing.T, r *rand.Rand) [][]impl.Type {
	if r.Intn(2) == 0 {
		return typesOf(t, heapWorld)
	}
	return someTypes(r)
}

// someHeap is a heap that is ok, with things of both ages, made up by the document's words.
func someHeap(r *rand.Rand, g [][]impl.Type) impl.Heap {
	h := impl.Heap{Old: 1 + r.Intn(impl.OldMost)}
	h.Words = make([]int, h.Old+r.Intn(impl.YoungMost+1))
	for range 5 + r.Intn(40) {
		switch r.Intn(8) {
		case 0:
			h = aged(r, g, h)
		case 1, 2, 3:
			a, vals := someMaking(r, g, h)
			if made, _, ok := plainMake(g, h, a, vals); ok {
				h = made
			}
		default:
			a, i, v := somePutting(r, g, h)
			if put, ok := plainPut(g, h, a, i, v); ok {
				h = put
			}
		}
	}
	return h
}

// marredHeap is a heap with one part of it turned; whether it is ok is left open.
func marredHeap(r *rand.Rand, h impl.Heap) impl.Heap {
	return turnedHeap(h, func(h *impl.Heap) {
		switch r.Intn(12) {
		case 0:
			h.Old = marNumber(r, h.Old)
		case 1:
			h.OldAt = marNumber(r, h.OldAt)
		case 2:
			h.YoungAt = marNumber(r, h.YoungAt)
		case 3:
			h.Words = append(h.Words, 0)
		case 4:
			h.Words = h.Words[:len(h.Words)-1]
		case 5:
			h.Log = append(h.Log, r.Intn(len(h.Words)+2)-1)
		case 6:
			if many := len(h.Log); many > 0 {
				h.Log = slices.Delete(h.Log, r.Intn(many), many)
			}
		case 7:
			if many := len(h.Log); many > 0 {
				h.Log[r.Intn(many)] = marNumber(r, h.Log[r.Intn(many)])
			}
		default:
			// Most often a word of a thing, as nearly any other is wrong once it is turned.
			last := len(h.Words) - 1
			at := r.Intn(len(h.Words))
			if r.Intn(6) > 0 {
				young := min(max(h.Old, 0), last)
				at = min([]int{0, young}[r.Intn(2)]+r.Intn(20), last)
			}
			h.Words[at] = []int{h.Words[at] + 1, h.Words[at] - 1, h.Words[at] + 2, h.Words[at] - 2, 2*r.Intn(162) + 2, 2*someChip(r) + 1, 0, 19946, 19947, 9973, -1, 16 * r.Intn(9), math.MaxInt, math.MinInt}[r.Intn(14)]
		}
	})
}
