package tests

import (
	"math/rand"

	"loop.example/lairage/impl"
)

// What chapter 1 says, word by word and without tables: slow, and only for comparing.

// whereIs is the group of a type and its place there; -1, if there is none.
func whereIs(g [][]impl.Type, a int) (int, int) {
	if a < 0 {
		return -1, -1
	}
	for i, types := range g {
		if a < len(types) {
			return i, a
		}
		a -= len(types)
	}
	return -1, -1
}

func typeAt(g [][]impl.Type, a int) impl.Type {
	i, place := whereIs(g, a)
	return g[i][place]
}

func plainMatches(g [][]impl.Type, i int, a int, j int, b int) bool {
	if a < 0 || b < 0 {
		return a == b
	}
	aGroup, aPlace := whereIs(g, a)
	bGroup, bPlace := whereIs(g, b)
	if aGroup == i && bGroup == j && aPlace == bPlace {
		return true
	}
	return aGroup < i && bGroup < j && plainSame(g, a, b)
}

func plainAlike(g [][]impl.Type, i int, j int) bool {
	if len(g[i]) != len(g[j]) {
		return false
	}
	for k := range g[i] {
		s, t := g[i][k], g[j][k]
		if s.Kind != t.Kind || s.Last != t.Last || len(s.Fields) != len(t.Fields) || !plainMatches(g, i, s.Up, j, t.Up) {
			return false
		}
		for n := range s.Fields {
			e, f := s.Fields[n], t.Fields[n]
			if e.Kind != f.Kind || e.Mut != f.Mut || e.Kind != impl.FieldNum && !plainMatches(g, i, e.Of, j, f.Of) {
				return false
			}
		}
	}
	return true
}

// plainSame is KinSame of two types, whether or not the groups are ok.
func plainSame(g [][]impl.Type, a int, b int) bool {
	if a == b {
		return true
	}
	i, aPlace := whereIs(g, a)
	j, bPlace := whereIs(g, b)
	return i != j && aPlace == bPlace && plainAlike(g, i, j)
}

// plainUnder is KinUnder of what references are to, whether or not the groups are ok.
func plainUnder(g [][]impl.Type, a int, b int) bool {
	if a == b || b == impl.OfAny {
		return true
	}
	if a < 0 || b < 0 {
		return false
	}
	for ; a >= 0; a = typeAt(g, a).Up {
		if plainSame(g, a, b) {
			return true
		}
	}
	return false
}

func plainFieldOk(f impl.Field, n int) bool {
	if f.Kind == 1 {
		return f.Of == 0
	}
	return (f.Kind == 2 || f.Kind == 3) && f.Of >= -2 && (f.Of < 0 || f.Of < n)
}

func plainFieldUnder(g [][]impl.Type, a impl.Field, b impl.Field) bool {
	n := impl.KinCount(g)
	if !plainFieldOk(a, n) || !plainFieldOk(b, n) {
		return false
	}
	if a.Kind == 1 && b.Kind == 1 {
		return true
	}
	return a.Kind != 1 && b.Kind != 1 && plainUnder(g, a.Of, b.Of) && (a.Kind == 3 || b.Kind == 2)
}

// plainFormOk is what KinOk asks but for that fields fit.
func plainFormOk(g [][]impl.Type) bool {
	if len(g) > 4 || impl.KinCount(g) > 8 {
		return false
	}
	own, end := 0, 0
	for _, types := range g {
		end += len(types)
		if len(types) == 0 {
			return false
		}
		for _, t := range types {
			if !(t.Kind == 1 && len(t.Fields) <= 4) && !(t.Kind == 2 && len(t.Fields) == 1) {
				return false
			}
			for _, f := range t.Fields {
				if !plainFieldOk(f, end) {
					return false
				}
			}
			if t.Up != -1 && (t.Up < 0 || t.Up >= own) {
				return false
			}
			own++
		}
	}
	return true
}

func plainOk(g [][]impl.Type) bool {
	if !plainFormOk(g) {
		return false
	}
	for a := range impl.KinCount(g) {
		low := typeAt(g, a)
		if low.Up == -1 {
			continue
		}
		up := typeAt(g, low.Up)
		if up.Kind != low.Kind || up.Last || len(up.Fields) > len(low.Fields) {
			return false
		}
		for i, f := range up.Fields {
			e := low.Fields[i]
			if e.Mut != f.Mut || !plainFieldUnder(g, e, f) || e.Mut && !plainFieldUnder(g, f, e) {
				return false
			}
		}
	}
	return true
}

func plainCanon(g [][]impl.Type, a int) int {
	for b := range impl.KinCount(g) {
		if plainSame(g, a, b) {
			return b
		}
	}
	return -1
}

func plainLine(g [][]impl.Type, a int) []int {
	var line []int
	for ; a >= 0; a = typeAt(g, a).Up {
		line = append([]int{plainCanon(g, a)}, line...)
	}
	return line
}

// someField is a field among n types, sometimes a wrong one.
func someField(r *rand.Rand, n int) impl.Field {
	f := impl.Field{Kind: 1 + r.Intn(3), Mut: r.Intn(4) == 0}
	if f.Kind != impl.FieldNum {
		f.Of = r.Intn(n+2) - 2
	}
	if r.Intn(150) == 0 {
		f.Of = n
	}
	return f
}

// someType is a type of that number in a group up to n, most often one that fits the one above it.
func someType(r *rand.Rand, g [][]impl.Type, own int, n int) impl.Type {
	t := impl.Type{Kind: impl.TypeBox, Up: -1, Last: r.Intn(6) == 0}
	many := r.Intn(3)
	if r.Intn(3) == 0 {
		t.Kind, many = impl.TypeRow, 1
	}
	known := impl.KinCount(g)
	if known > 0 && r.Intn(2) == 0 {
		t.Up = r.Intn(known)
		upper := typeAt(g, t.Up)
		t.Kind = upper.Kind
		t.Fields = append(t.Fields, upper.Fields...)
		if t.Kind == impl.TypeRow {
			many = 1
		}
		if i := len(t.Fields); i > 0 && r.Intn(2) == 0 {
			t.Fields[r.Intn(i)] = someField(r, n)
		}
	}
	for len(t.Fields) < many {
		t.Fields = append(t.Fields, someField(r, n))
	}
	if r.Intn(100) == 0 {
		t.Up = own
	}
	return t
}

// again is a group that begins at a number, written again from there to the end.
func again(types []impl.Type, begin int, now int) []impl.Type {
	move := func(of int) int {
		if of >= begin {
			return of - begin + now
		}
		return of
	}
	var out []impl.Type
	for _, t := range types {
		t.Up = move(t.Up)
		var fields []impl.Field
		for _, f := range t.Fields {
			if f.Kind != impl.FieldNum {
				f.Of = move(f.Of)
			}
			fields = append(fields, f)
		}
		t.Fields = fields
		out = append(out, t)
	}
	return out
}

// someGroups is groups, many of them ok, and many with a group that is written twice, or nearly so.
func someGroups(r *rand.Rand) [][]impl.Type {
	var g [][]impl.Type
	for i := 1 + r.Intn(4); i > 0; i-- {
		now := impl.KinCount(g)
		if len(g) > 0 && r.Intn(2) == 0 {
			j := r.Intn(len(g))
			types := again(g[j], impl.KinCount(g[:j]), now)
			if r.Intn(3) == 0 {
				turn(r, types, now)
			}
			g = append(g, types)
			continue
		}
		many := 1 + r.Intn(3)
		g = append(g, nil)
		for k := range many {
			g[len(g)-1] = append(g[len(g)-1], someType(r, g, now+k, now+many))
		}
	}
	return g
}

// turn turns one part of a group that begins at a number.
func turn(r *rand.Rand, types []impl.Type, now int) {
	t := &types[r.Intn(len(types))]
	switch r.Intn(4) {
	case 0:
		t.Last = !t.Last
	case 1:
		t.Up = r.Intn(now+1) - 1
	case 2:
		if len(t.Fields) > 0 {
			t.Fields[0] = someField(r, now+len(types))
		}
	case 3:
		if len(t.Fields) > 0 && t.Fields[0].Kind != impl.FieldNum {
			t.Fields[0].Of = r.Intn(now+len(types)+2) - 2
		}
	}
}
