package tests

import (
	"math/rand"
	"slices"
	"testing"

	"loop.example/lairage/impl"
)

// makingOf is a type and values of which a thing of so many words can be made, and whether there is such.
func makingOf(g [][]impl.Type, h impl.Heap, words int) (int, []impl.Val, bool) {
	all, _ := plainHeapPlaced(g, h)
	choice := values(number(9), none(), chip(9))
	for _, one := range all {
		choice = append(choice, thing(one.at))
	}
	for a := range impl.KinCount(g) {
		_, fields, ok := plainHead(g, 16*a+words-1)
		var vals []impl.Val
		for _, f := range fields {
			at := slices.IndexFunc(choice, func(v impl.Val) bool { return plainPlacedFits(g, all, v, f) })
			if at < 0 {
				break
			}
			vals = append(vals, choice[at])
		}
		if ok && len(vals) == words-1 {
			return a, vals, true
		}
	}
	return 0, nil, false
}

// forgotten is roots without some of them.
func forgotten(r *rand.Rand, roots []impl.Val) []impl.Val {
	if len(roots) == 0 {
		return roots
	}
	return slices.Delete(slices.Clone(roots), 0, 1+r.Intn(len(roots)))
}

// madeByWant is a heap and roots with one more thing, which a root names, for which room is asked first; as they are, if
// there is none.
func madeByWant(t *testing.T, r *rand.Rand, g [][]impl.Type, h impl.Heap, roots []impl.Val) (impl.Heap, []impl.Val) {
	t.Helper()
	a, vals := someMaking(r, g, h)
	// What stands in it must be there behind a sweep too.
	kept := append(slices.Clone(roots), vals...)
	if !plainRootsOk(g, h, kept) {
		return h, roots
	}
	swept, moved, room := impl.HeapWant(g, h, kept, 1+len(vals))
	if room == impl.RoomNone {
		return h, roots
	}
	making := map[int]heapMaker{impl.RoomYoung: impl.HeapMake, impl.RoomOld: impl.HeapGrow}[room]
	made, at, ok := making(g, swept, a, moved[len(roots):])
	if ok {
		return made, append(slices.Clone(moved[:len(roots)]), thing(at))
	}
	if _, _, fits := plainMake(g, turnedHeap(h, func(h *impl.Heap) { h.Words = append(h.Words, make([]int, 7)...) }), a, vals); fits {
		t.Fatalf("%v, %s: there was room, and %d of %s was not made", g, heapText(swept), a, valsText(vals))
	}
	return swept, slices.Clone(moved[:len(roots)])
}

// majorStep is one step of a program that makes, puts, sweeps, and forgets, at random.
func majorStep(t *testing.T, r *rand.Rand, g [][]impl.Type, h impl.Heap, roots []impl.Val) (impl.Heap, []impl.Val) {
	t.Helper()
	swept, moved, ok := impl.Heap{}, []impl.Val(nil), false
	switch r.Intn(16) {
	case 0:
		swept, moved, ok = impl.HeapMajor(g, h, roots)
	case 1:
		swept, moved, ok = impl.HeapMinor(g, h, roots)
	case 2:
		all, _ := plainHeapPlaced(g, h)
		return h, append(slices.Clone(roots), someRoot(r, all))
	case 3:
		return h, forgotten(r, roots)
	case 4, 5, 6, 7, 8, 9:
		return madeByWant(t, r, g, h, roots)
	default:
		a, i, v := somePutting(r, g, h)
		swept, ok = impl.HeapPut(g, h, a, i, v)
		moved = roots
	}
	if !ok {
		return h, roots
	}
	return swept, moved
}
