package tests

import (
	"slices"

	"loop.example/lairage/impl"
)

// What chapter 6 says, on states that can be, without a queue and without a map: only for comparing.

// plainNames is the places of things that values name, in order, as often as they do.
func plainNames(lists ...[]impl.Val) []int {
	var all []int
	for _, vals := range lists {
		for _, v := range vals {
			if v.Kind == 4 {
				all = append(all, v.N)
			}
		}
	}
	return all
}

// plainFirsts is each number of a list once, where it stands first.
func plainFirsts(all []int) []int {
	var once []int
	for at, n := range all {
		if slices.Index(all, n) == at {
			once = append(once, n)
		}
	}
	return once
}

// plainReach is MeanReach of a state that can be: a list that says of itself what the document says of it.
func plainReach(m impl.Mean) []int {
	roots := plainNames(m.Glob)
	for _, f := range m.Frames {
		roots = append(roots, plainNames(f.Locals, f.Stack)...)
	}
	list := plainFirsts(roots)
	for {
		all := slices.Clone(roots)
		for _, at := range list {
			all = append(all, plainNames(m.Things[at].Vals)...)
		}
		next := plainFirsts(all)
		if slices.Equal(next, list) {
			return list
		}
		list = next
	}
}

// renamed is a state whose values name things by new places; Things are left to the caller.
func renamed(m impl.Mean, to func(at int) int) impl.Mean {
	own := copyMean(m)
	turn := func(vals []impl.Val) {
		for i, v := range vals {
			if v.Kind == 4 {
				vals[i].N = to(v.N)
			}
		}
	}
	turn(own.Glob)
	for _, f := range own.Frames {
		turn(f.Locals)
		turn(f.Stack)
	}
	for _, one := range own.Things {
		turn(one.Vals)
	}
	return own
}

// plainTrim is MeanTrim of a state that can be.
func plainTrim(m impl.Mean) impl.Mean {
	list := plainReach(m)
	own := renamed(m, func(at int) int { return slices.Index(list, at) })
	var things []impl.Thing
	for _, at := range list {
		things = append(things, own.Things[at])
	}
	own.Things = things
	return own
}

// plainWords is MeanWords of a state that can be.
func plainWords(m impl.Mean) int {
	words := 0
	for _, one := range plainTrim(m).Things {
		words += 1 + len(one.Vals)
	}
	return words
}

// mixed is a state whose things were made in another order: the one at i of it is that at order[i].
func mixed(m impl.Mean, order []int) impl.Mean {
	own := renamed(m, func(at int) int { return slices.Index(order, at) })
	things := slices.Clone(own.Things)
	for i, at := range order {
		things[i] = own.Things[at]
	}
	own.Things = things
	return own
}
