package tests

import (
	"slices"

	"loop.example/lairage/impl"
)

// What chapter 9 says, on heaps as they are handed in, without marks and without sums: only for comparing.

// plainReached is HeapReach of a heap and roots that are ok: what is named is added till nothing comes by that.
func plainReached(all []placed, roots []impl.Val) []int {
	list := plainSet(plainNames(roots))
	for {
		more := slices.Clone(list)
		for _, at := range list {
			more = append(more, plainNames(plainAt(all, at).Vals)...)
		}
		if more = plainSet(more); len(more) == len(list) {
			return list
		}
		list = more
	}
}

// plainSet is each number of a list once, ascending.
func plainSet(list []int) []int {
	slices.Sort(list)
	return slices.Compact(list)
}

// plainReachedThings is the things of HeapReach, and where they begin; none, if the roots are not ok.
func plainReachedThings(g [][]impl.Type, h impl.Heap, roots []impl.Val) ([]impl.Thing, []int) {
	if !plainRootsOk(g, h, roots) {
		return nil, nil
	}
	all, _ := plainHeapPlaced(g, h)
	var things []impl.Thing
	reached := plainReached(all, roots)
	for _, at := range reached {
		things = append(things, plainAt(all, at))
	}
	return things, reached
}

// plainLive is HeapLive of any heap and roots.
func plainLive(g [][]impl.Type, h impl.Heap, roots []impl.Val) int {
	things, _ := plainReachedThings(g, h, roots)
	live := len(things)
	for _, one := range things {
		live += len(one.Vals)
	}
	return live
}

// plainMajor is HeapMajor of any heap and roots.
func plainMajor(g [][]impl.Type, h impl.Heap, roots []impl.Val) (impl.Heap, []impl.Val, bool) {
	if !plainRootsOk(g, h, roots) || plainLive(g, h, roots) > h.Old {
		return impl.Heap{}, nil, false
	}
	things, was := plainReachedThings(g, h, roots)
	now := placesOf(things, 0)
	moved := func(vals []impl.Val) []impl.Val {
		own := slices.Clone(vals)
		for i, v := range own {
			if v.Kind == 4 {
				own[i].N = now[slices.Index(was, v.N)]
			}
		}
		return own
	}
	for i, one := range things {
		things[i].Vals = moved(one.Vals)
	}
	own := impl.Heap{Words: make([]int, len(h.Words)), Old: h.Old}
	own.OldAt = lay(own.Words, things)
	return own, moved(roots), true
}

// plainWant is HeapWant of any heap, roots and number.
func plainWant(g [][]impl.Type, h impl.Heap, roots []impl.Val, n int) (impl.Heap, []impl.Val, int) {
	if !plainRootsOk(g, h, roots) || !slices.Contains([]int{1, 2, 3, 4, 5, 6, 7}, n) {
		return impl.Heap{}, nil, 0
	}
	others := len(h.Words) - h.Old
	if h.YoungAt+n <= others {
		return h, roots, 1
	}
	own, moved, ok := impl.Heap{}, []impl.Val(nil), false
	if h.OldAt+h.YoungAt <= h.Old {
		own, moved, ok = plainMinor(g, h, roots)
	} else {
		own, moved, ok = plainMajor(g, h, roots)
	}
	switch {
	case !ok:
		return h, roots, 0
	case n <= others:
		return own, moved, 1
	case own.OldAt+n <= h.Old:
		return own, moved, 2
	}
	own, moved, _ = plainMajor(g, own, moved)
	if own.OldAt+n <= h.Old {
		return own, moved, 2
	}
	return h, roots, 0
}

// plainGrow is HeapGrow of any heap, told by HeapMake: the thing is made in a heap with as many words for young things as
// it has, and put behind the old ones then.
func plainGrow(g [][]impl.Type, h impl.Heap, a int, vals []impl.Val) (impl.Heap, int, bool) {
	if !plainHeapOk(g, h) || h.YoungAt > 0 || h.OldAt+1+len(vals) > h.Old {
		return impl.Heap{}, 0, false
	}
	roomy := turnedHeap(h, func(h *impl.Heap) { h.Words = append(h.Words[:h.Old:h.Old], make([]int, 1+len(vals))...) })
	made, at, ok := plainMake(g, roomy, a, vals)
	if !ok {
		return impl.Heap{}, 0, false
	}
	own := copyHeap(h)
	own.OldAt += copy(own.Words[h.OldAt:], made.Words[at:])
	return own, h.OldAt, true
}
