package tests

import "loop.example/lairage/impl"

// Short makers of fields, types and groups, so that a case fits on a line.

func num() impl.Field {
	return impl.Field{Kind: impl.FieldNum}
}

func ref(of int) impl.Field {
	return impl.Field{Kind: impl.FieldRef, Of: of}
}

func sure(of int) impl.Field {
	return impl.Field{Kind: impl.FieldSure, Of: of}
}

func mut(f impl.Field) impl.Field {
	f.Mut = true
	return f
}

func box(up int, fields ...impl.Field) impl.Type {
	return impl.Type{Kind: impl.TypeBox, Up: up, Fields: fields}
}

func row(up int, field impl.Field) impl.Type {
	return impl.Type{Kind: impl.TypeRow, Up: up, Fields: []impl.Field{field}}
}

func last(t impl.Type) impl.Type {
	t.Last = true
	return t
}

func group(types ...impl.Type) []impl.Type {
	return types
}

func groups(all ...[]impl.Type) [][]impl.Type {
	return all
}

// family is ok groups with all sorts of kin in them: 0; 1 and 2; these written again as 3 and 4; 5 under 4, and 6 under 0.
func family() [][]impl.Type {
	return groups(
		group(box(-1, ref(impl.OfAny), mut(num()))),
		group(last(box(0, sure(2), mut(num()))), row(-1, ref(1))),
		group(last(box(0, sure(4), mut(num()))), row(-1, ref(3))),
		group(row(4, sure(1)), box(0, ref(impl.OfChip), mut(num()), mut(ref(5)))),
	)
}

// badFamilies is groups that are not ok, each for another reason, all with a type 0.
func badFamilies() map[string][][]impl.Type {
	return map[string][][]impl.Type{
		"five groups":      groups(group(box(-1)), group(box(-1)), group(box(-1)), group(box(-1)), group(box(-1))),
		"an empty group":   groups(group(box(-1)), group(), group(box(-1))),
		"nine types":       groups(group(box(-1), box(-1), box(-1), box(-1), box(-1)), group(box(-1), box(-1), box(-1), box(-1))),
		"no kind":          groups(group(impl.Type{Kind: 0, Up: -1})),
		"kind 3":           groups(group(impl.Type{Kind: 3, Up: -1, Fields: []impl.Field{num()}})),
		"five fields":      groups(group(box(-1, num(), num(), num(), num(), num()))),
		"row of nothing":   groups(group(impl.Type{Kind: impl.TypeRow, Up: -1})),
		"row of two":       groups(group(impl.Type{Kind: impl.TypeRow, Up: -1, Fields: []impl.Field{num(), num()}})),
		"field of no kind": groups(group(box(-1, impl.Field{}))),
		"names behind":     groups(group(box(-1, ref(1))), group(box(-1))),
		"up is itself":     groups(group(box(0))),
		"up is behind":     groups(group(box(1), box(-1))),
		"up is -2":         groups(group(box(-2))),
		"up of other kind": groups(group(box(-1, num()), row(0, num()))),
		"up is last":       groups(group(last(box(-1)), box(0))),
		"up has more":      groups(group(box(-1, num()), box(0))),
		"does not fit":     groups(group(box(-1, num()), box(0, ref(0)))),
		"mut is lost":      groups(group(box(-1, mut(num())), box(0, num()))),
		"mut is narrowed":  groups(group(box(-1, mut(ref(impl.OfAny))), box(0, mut(ref(0))))),
	}
}

// copyGroups is groups in memory of their own, with room behind each list that is not nothing, so that a write there shows.
func copyGroups(g [][]impl.Type) [][]impl.Type {
	all := make([][]impl.Type, 0, len(g)+2)
	for _, types := range g {
		own := make([]impl.Type, 0, len(types)+2)
		for _, t := range types {
			fields := make([]impl.Field, 0, len(t.Fields)+2)
			fields = append(fields, t.Fields...)
			fillFields(fields)
			t.Fields = fields
			own = append(own, t)
		}
		room := own[len(own):cap(own)]
		for i := range room {
			room[i] = impl.Type{Kind: 77, Up: 77}
		}
		all = append(all, own)
	}
	room := all[len(all):cap(all)]
	for i := range room {
		room[i] = []impl.Type{{Kind: 88, Up: 88}}
	}
	return all
}

// fillFields writes into the room behind fields.
func fillFields(fields []impl.Field) {
	room := fields[len(fields):cap(fields)]
	for i := range room {
		room[i] = impl.Field{Kind: 66, Of: 66}
	}
}

// spread is groups with the room behind each list as if it belonged to it.
func spread(g [][]impl.Type) [][]impl.Type {
	var all [][]impl.Type
	for _, types := range g[:cap(g)] {
		var own []impl.Type
		for _, t := range types[:cap(types)] {
			t.Fields = append([]impl.Field(nil), t.Fields[:cap(t.Fields)]...)
			own = append(own, t)
		}
		all = append(all, own)
	}
	return all
}
