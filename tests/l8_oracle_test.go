package tests

import (
	"slices"

	"loop.example/lairage/impl"
)

// What chapter 8 says, on heaps as they are handed in, without a queue and without a map: only for comparing.

func plainRootsOk(g [][]impl.Type, h impl.Heap, roots []impl.Val) bool {
	if !plainHeapOk(g, h) {
		return false
	}
	all, _ := plainHeapPlaced(g, h)
	for _, v := range roots {
		if !plainPlacedFits(g, all, v, num()) && !plainPlacedFits(g, all, v, ref(impl.OfAny)) {
			return false
		}
	}
	return true
}

// plainYoung is where the young things begin that values name, in order, as often as they do.
func plainYoung(h impl.Heap, vals []impl.Val) []int {
	return slices.DeleteFunc(plainNames(vals), func(at int) bool { return at < h.Old })
}

// plainKnown is what the words of a log are, in its order.
func plainKnown(all []placed, log []int) []impl.Val {
	var vals []impl.Val
	for _, place := range log {
		for _, one := range all {
			if place > one.at && place <= one.at+len(one.fields) {
				vals = append(vals, one.thing.Vals[place-one.at-1])
			}
		}
	}
	return vals
}

// plainAt is the thing of these that begins there.
func plainAt(all []placed, at int) impl.Thing {
	return all[slices.IndexFunc(all, func(one placed) bool { return one.at == at })].thing
}

// plainMet is where the young things begin that are met, in order: a list that says of itself what the document says of it.
func plainMet(all []placed, h impl.Heap, roots []impl.Val) []int {
	first := append(plainYoung(h, roots), plainYoung(h, plainKnown(all, h.Log))...)
	list := plainFirsts(first)
	for {
		more := slices.Clone(first)
		for _, at := range list {
			more = append(more, plainYoung(h, plainAt(all, at).Vals)...)
		}
		next := plainFirsts(more)
		if slices.Equal(next, list) {
			return list
		}
		list = next
	}
}

// plainMinor is HeapMinor of any heap and roots.
func plainMinor(g [][]impl.Type, h impl.Heap, roots []impl.Val) (impl.Heap, []impl.Val, bool) {
	if !plainRootsOk(g, h, roots) || h.OldAt+h.YoungAt > h.Old {
		return impl.Heap{}, nil, false
	}
	all, _ := plainHeapPlaced(g, h)
	met := plainMet(all, h, roots)
	var things []impl.Thing
	for _, one := range all {
		if one.at < h.Old {
			things = append(things, one.thing)
		}
	}
	var now []int
	behind := h.OldAt
	for _, at := range met {
		now = append(now, behind)
		things = append(things, plainAt(all, at))
		behind += 1 + len(plainAt(all, at).Vals)
	}
	moved := func(vals []impl.Val) []impl.Val {
		own := slices.Clone(vals)
		for i, v := range own {
			if v.Kind == 4 && v.N >= h.Old {
				own[i].N = now[slices.Index(met, v.N)]
			}
		}
		return own
	}
	for i, one := range things {
		things[i].Vals = moved(one.Vals)
	}
	own := impl.Heap{Words: make([]int, len(h.Words)), Old: h.Old}
	own.OldAt = lay(own.Words, things)
	return own, moved(roots), true
}
