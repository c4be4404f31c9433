package tests

import (
	"math/rand"
	"slices"

	"loop.example/lairage/impl"
)

// minorWorld has things with two references and a number, things with one, rows of both, and things whose reference is sure.
const minorWorld = `group
box - rany! rany! n!
box - rany!
row - rany!
row - n!
box - sany! n rchip
`

// someRoots is roots of a heap: mostly things, each kind of value at times, and nothing at all at times.
func someRoots(r *rand.Rand, g [][]impl.Type, h impl.Heap) []impl.Val {
	all, _ := plainHeapPlaced(g, h)
	var roots []impl.Val
	for range r.Intn(6) {
		roots = append(roots, someRoot(r, all))
	}
	return roots
}

// someRoot is a value that may be a root, most often one that names one of these things. A number or a chip is at times
// such that it would name one too, if it were not what it is.
func someRoot(r *rand.Rand, all []placed) impl.Val {
	near := r.Intn(9973)
	if len(all) > 0 && r.Intn(2) == 0 {
		near = all[r.Intn(len(all))].at
	}
	switch kind := r.Intn(10); {
	case kind == 0:
		return number(near)
	case kind == 1:
		return number(2*near%9973 + 2)
	case kind == 2:
		return chip(near)
	case kind == 3 || len(all) == 0:
		return none()
	}
	return thing(all[r.Intn(len(all))].at)
}

// marredRoots is roots with one of them turned, one more, or one less; whether they are ok is left open.
func marredRoots(r *rand.Rand, h impl.Heap, roots []impl.Val) []impl.Val {
	if r.Intn(3) == 0 {
		return append(marVals(r, roots), thing(r.Intn(len(h.Words)+4)-2))
	}
	return marVals(r, roots)
}

// someShape is things of minorWorld with nothing in them yet, as many as there is room for or less.
func someShape(r *rand.Rand, room int) []impl.Thing {
	var things []impl.Thing
	for used := 0; r.Intn(14) > 0; {
		one := impl.Thing{Type: r.Intn(5)}
		many := []int{3, 1, r.Intn(7), r.Intn(7), 3}[one.Type]
		if used += 1 + many; used > room {
			return things
		}
		one.Vals = make([]impl.Val, many)
		things = append(things, one)
	}
	return things
}

// fillShape puts values into a thing of minorWorld, of those that its fields may have, mostly such that name one of these
// places.
func fillShape(r *rand.Rand, one impl.Thing, places []int) {
	for i := range one.Vals {
		named := thing(places[r.Intn(len(places))])
		switch {
		case one.Type == 3, one.Type == 0 && i == 2, one.Type == 4 && i == 1:
			// A number whose word is also that of a thing, or near it.
			one.Vals[i] = number(2*named.N + 1 + r.Intn(2))
		case one.Type == 4 && i == 2:
			one.Vals[i] = []impl.Val{none(), chip(named.N)}[r.Intn(2)]
		case r.Intn(6) == 0:
			one.Vals[i] = chip(named.N)
		case r.Intn(6) == 0 && one.Type != 4:
			one.Vals[i] = none()
		default:
			one.Vals[i] = named
		}
	}
}

// placesOf is where things begin that stand one behind the other.
func placesOf(things []impl.Thing, from int) []int {
	var all []int
	for _, one := range things {
		all = append(all, from)
		from += 1 + len(one.Vals)
	}
	return all
}

// knottedHeap is a heap of minorWorld that is ok, whose things of both ages name one another at random; its log is in any
// order, and has words that name nothing young too.
func knottedHeap(r *rand.Rand, g [][]impl.Type) impl.Heap {
	h := impl.Heap{Old: 1 + r.Intn(impl.OldMost)}
	h.Words = make([]int, h.Old+r.Intn(impl.YoungMost+1))
	old, young := someShape(r, h.Old), someShape(r, len(h.Words)-h.Old)
	places := append(placesOf(old, 0), placesOf(young, h.Old)...)
	for _, one := range append(old, young...) {
		fillShape(r, one, places)
	}
	h.OldAt, h.YoungAt = lay(h.Words[:h.Old], old), lay(h.Words[h.Old:], young)
	all, _ := plainHeapPlaced(g, h)
	for _, one := range all {
		for i, f := range one.fields {
			v := one.thing.Vals[i]
			if one.at < h.Old && f.Kind != impl.FieldNum && (r.Intn(8) == 0 || v.Kind == impl.ValThing && v.N >= h.Old) {
				h.Log = append(h.Log, one.at+1+i)
			}
		}
	}
	r.Shuffle(len(h.Log), func(i, j int) { h.Log[i], h.Log[j] = h.Log[j], h.Log[i] })
	return h
}

// twins is two heaps that are gone through at once: the things of both by where they begin, and which of one was met as
// which of the other, both ways.
type twins struct {
	one, two map[int]impl.Thing
	now, was map[int]int
}

func twinsOf(g [][]impl.Type, one impl.Heap, two impl.Heap) twins {
	byPlace := func(h impl.Heap) map[int]impl.Thing {
		all, _ := plainHeapPlaced(g, h)
		there := map[int]impl.Thing{}
		for _, one := range all {
			there[one.at] = one.thing
		}
		return there
	}
	return twins{one: byPlace(one), two: byPlace(two), now: map[int]int{}, was: map[int]int{}}
}

// same says whether values of both heaps are the same, and all that is reached from there is, thing by thing.
func (w twins) same(one []impl.Val, two []impl.Val) bool {
	return slices.EqualFunc(one, two, func(v impl.Val, to impl.Val) bool {
		if v.Kind != to.Kind || v.Kind != impl.ValThing {
			return v == to
		}
		at, met := w.now[v.N]
		from, used := w.was[to.N]
		if met || used {
			return met && used && at == to.N && from == v.N
		}
		w.now[v.N], w.was[to.N] = to.N, v.N
		a, there := w.one[v.N]
		b, also := w.two[to.N]
		return there && also && a.Type == b.Type && w.same(a.Vals, b.Vals)
	})
}
