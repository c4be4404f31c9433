package tests

import (
	"slices"

	"loop.example/lairage/impl"
)

// What chapter 7 says, word by word, on heaps as they are handed in: only for comparing.

// plainWord is the word of a value that is as the document tells.
func plainWord(v impl.Val) int {
	return map[int]int{1: v.N, 3: v.N + v.N + 1, 4: v.N + v.N + 2}[v.Kind]
}

// plainWordVals is each value that is as the document tells, of those that may stand in a field of that kind, by its word.
func plainWordVals(kind int) map[int]impl.Val {
	all := map[int]impl.Val{}
	add := func(v impl.Val) { all[plainWord(v)] = v }
	for n := 0; n <= 9972 && kind == 1; n++ {
		add(number(n))
	}
	if kind == 2 {
		add(none())
	}
	for n := 0; n <= 9972 && kind != 1; n++ {
		add(chip(n))
	}
	for n := 0; n <= 159 && kind != 1; n++ {
		add(thing(n))
	}
	return all
}

var knownWords = map[int]map[int]impl.Val{1: plainWordVals(1), 2: plainWordVals(2), 3: plainWordVals(3)}

// placed is a thing and where it begins; where a word is that of no value, nothing stands in it.
type placed struct {
	at     int
	thing  impl.Thing
	fields []impl.Field
}

// plainHead is the fields of a thing with that head: of all heads that there may be one is it.
func plainHead(g [][]impl.Type, head int) (int, []impl.Field, bool) {
	for a := range impl.KinCount(g) {
		typ := typeAt(g, a)
		if typ.Kind == 1 && head == 16*a+len(typ.Fields) {
			return a, typ.Fields, true
		}
		for n := 0; n <= 6 && typ.Kind == 2; n++ {
			if head == 16*a+n {
				return a, many(n, typ.Fields[0]), true
			}
		}
	}
	return 0, nil, false
}

// plainPlaced is the things that stand in a stretch of words, and whether just whole things do.
func plainPlaced(g [][]impl.Type, words []int, from int, to int) ([]placed, bool) {
	var all []placed
	for at := from; at < to; {
		a, fields, ok := plainHead(g, words[at])
		if !ok || at+1+len(fields) > to {
			return nil, false
		}
		one := placed{at: at, thing: impl.Thing{Type: a}, fields: fields}
		for i, f := range fields {
			one.thing.Vals = append(one.thing.Vals, knownWords[f.Kind][words[at+1+i]])
		}
		all = append(all, one)
		at += 1 + len(fields)
	}
	return all, true
}

// plainHeapPlaced is all things of a heap of such sizes as there may be.
func plainHeapPlaced(g [][]impl.Type, h impl.Heap) ([]placed, bool) {
	old, fine := plainPlaced(g, h.Words, 0, h.OldAt)
	young, ok := plainPlaced(g, h.Words, h.Old, h.Old+h.YoungAt)
	return append(old, young...), fine && ok
}

// plainPlacedFits is whether a value is of a sort, as ValFits has it, but that a thing is one that begins there.
func plainPlacedFits(g [][]impl.Type, all []placed, v impl.Val, f impl.Field) bool {
	if v.Kind != 4 {
		return plainValFits(g, nil, v, f)
	}
	for _, one := range all {
		if one.at == v.N {
			return plainValFits(g, []impl.Thing{one.thing}, thing(0), f)
		}
	}
	return false
}

func plainSizesOk(h impl.Heap) bool {
	others := len(h.Words) - h.Old
	return h.Old >= 1 && h.Old <= 120 && others >= 0 && others <= 40 &&
		0 <= h.OldAt && h.OldAt <= h.Old && 0 <= h.YoungAt && h.YoungAt <= others
}

func plainHeapOk(g [][]impl.Type, h impl.Heap) bool {
	if !plainOk(g) || !plainSizesOk(h) {
		return false
	}
	for at, w := range h.Words {
		if w != 0 && (at >= h.OldAt && at < h.Old || at >= h.Old+h.YoungAt) {
			return false
		}
	}
	all, ok := plainHeapPlaced(g, h)
	for _, one := range all {
		for i, f := range one.fields {
			ok = ok && plainPlacedFits(g, all, one.thing.Vals[i], f)
		}
	}
	return ok && plainLogOk(all, h)
}

// plainLogOk says whether a log is right, of a heap that is so but for it.
func plainLogOk(all []placed, h impl.Heap) bool {
	may, must := map[int]bool{}, map[int]bool{}
	for _, one := range all {
		for i, v := range one.thing.Vals {
			if one.at < h.Old && one.fields[i].Kind != 1 {
				may[one.at+1+i] = true
				must[one.at+1+i] = v.Kind == 4 && v.N >= h.Old
			}
		}
	}
	for place, asked := range must {
		if asked && !slices.Contains(h.Log, place) {
			return false
		}
	}
	for at, place := range h.Log {
		if !may[place] || slices.Contains(h.Log[:at], place) {
			return false
		}
	}
	return true
}

// plainHeapFits is HeapFits of a heap that is ok.
func plainHeapFits(g [][]impl.Type, h impl.Heap, v impl.Val, f impl.Field) bool {
	all, _ := plainHeapPlaced(g, h)
	return plainPlacedFits(g, all, v, f)
}

// plainMake is HeapMake of a heap that is ok.
func plainMake(g [][]impl.Type, h impl.Heap, a int, vals []impl.Val) (impl.Heap, int, bool) {
	if a < 0 || a >= impl.KinCount(g) {
		return impl.Heap{}, 0, false
	}
	_, fields, ok := plainHead(g, 16*a+len(vals))
	if !ok || len(fields) != len(vals) || h.YoungAt+1+len(vals) > len(h.Words)-h.Old {
		return impl.Heap{}, 0, false
	}
	own, at := copyHeap(h), h.Old+h.YoungAt
	own.Words[at] = 16*a + len(vals)
	for i, v := range vals {
		if !plainHeapFits(g, h, v, fields[i]) {
			return impl.Heap{}, 0, false
		}
		own.Words[at+1+i] = plainWord(v)
	}
	own.YoungAt += 1 + len(vals)
	return own, at, true
}

// plainPut is HeapPut of a heap that is ok.
func plainPut(g [][]impl.Type, h impl.Heap, a int, i int, v impl.Val) (impl.Heap, bool) {
	all, _ := plainHeapPlaced(g, h)
	for _, one := range all {
		if one.at != a || i < 0 || i >= len(one.fields) || !plainPlacedFits(g, all, v, one.fields[i]) {
			continue
		}
		own := copyHeap(h)
		own.Words[a+1+i] = plainWord(v)
		if a < h.Old && one.fields[i].Kind != 1 && !slices.Contains(h.Log, a+1+i) {
			own.Log = append(own.Log, a+1+i)
		}
		return own, true
	}
	return impl.Heap{}, false
}
