package tests

import (
	"slices"
	"strings"

	"loop.example/lairage/impl"
)

// What chapter 12 says, in its own order: numbers with a name each, and a list of what is still to come. Slow, and only for comparing.

// binPart is a number of a program, and what it tells.
type binPart struct {
	name string
	n    int
}

// binMosts is the most of each number that says how many there are.
var binMosts = map[string]int{"groups": 4, "types": 8, "fields": 4, "glob": 3, "takes": 3, "own": 3, "funs": 5, "body": 30}

// binKinds is what each other number can be that is of some kinds alone.
var binKinds = map[string][]int{
	"field": {1, 2, 3, 5, 6, 7},
	"type":  {1, 2, 5, 6},
	"op":    {1, 2, 3, 4, 5, 6, 7, 8, 9, 10, 11, 12, 13, 14, 15, 16, 17, 18, 19, 20, 21, 22, 23, 24, 25, 26, 27, 28, 29, 30, 31, 32, 33},
}

// binCan says whether something can have this number.
func binCan(part binPart) bool {
	if most, bound := binMosts[part.name]; bound {
		return part.n <= most
	}
	if kinds, bound := binKinds[part.name]; bound {
		return slices.Contains(kinds, part.n)
	}
	return true
}

// plainNumTexts is the bytes of each number from 0 to BinMost, by the number: all bytes below 128, and then each of these as the
// second one, but for 0.
var plainNumTexts = func() []string {
	var all []string
	for first := range 128 {
		all = append(all, string([]byte{byte(first)}))
	}
	for second := 1; second < 128; second++ {
		for first := 128; first < 256; first++ {
			all = append(all, string([]byte{byte(first), byte(second)}))
		}
	}
	return all
}()

// plainNumbers is the numbers of plainNumTexts by their bytes.
var plainNumbers = func() map[string]int {
	all := map[string]int{}
	for n, text := range plainNumTexts {
		all[text] = n
	}
	return all
}()

// plainNumAt is the number at that place, the place behind it, and a code.
func plainNumAt(s string, at int) (int, int, int) {
	if at < 0 || at > len(s) {
		return 0, 0, 2
	}
	rest := s[at:]
	for _, size := range []int{1, 2} {
		if len(rest) < size {
			return 0, 0, 2
		}
		if n, ok := plainNumbers[rest[:size]]; ok {
			return n, at + size, 0
		}
	}
	return 0, 0, 3
}

// plainParts is the numbers of any program, with how the document calls them.
func plainParts(p impl.Prog) []binPart {
	var all []binPart
	say := func(name string, n int) { all = append(all, binPart{name, n}) }
	flag := map[bool]int{true: 4}
	field := func(f impl.Field) {
		if say("field", f.Kind+flag[f.Mut]); f.Kind != 1 {
			say("of", f.Of+2)
		}
	}
	list := func(name string, fields []impl.Field) {
		say(name, len(fields))
		for _, f := range fields {
			field(f)
		}
	}
	say("groups", len(p.Types))
	for _, types := range p.Types {
		say("types", len(types))
		for _, t := range types {
			say("type", t.Kind+flag[t.Last])
			say("up", t.Up+1)
			list("fields", t.Fields)
		}
	}
	list("glob", p.Glob)
	say("funs", len(p.Funs))
	for _, f := range p.Funs {
		field(f.Gives)
		list("takes", f.Takes)
		list("own", f.Own)
		say("body", len(f.Body))
		for _, i := range f.Body {
			say("op", i.Op)
			switch i.Op {
			case 12, 22, 23:
				say("a", i.A+2)
			case 14, 15:
				say("a", i.A)
				say("b", i.B)
			case 1, 2, 3, 4, 5, 13, 16, 17, 18, 19, 25, 26, 27, 28, 33:
				say("a", i.A)
			}
		}
	}
	return all
}

// partsText is the bytes of a program with these numbers, and whether all of them can be told by bytes.
func partsText(parts []binPart) (string, bool) {
	text := "lair"
	for _, part := range parts {
		if part.n < 0 || part.n >= len(plainNumTexts) {
			return "", false
		}
		text += plainNumTexts[part.n]
	}
	return text, true
}

// plainBin is the bytes of a program that is ok.
func plainBin(p impl.Prog) string {
	text, _ := partsText(plainParts(p))
	return text
}

// plainSink is a program that is read number by number, and the fields that are read now.
type plainSink struct {
	prog   impl.Prog
	fields *[]impl.Field
}

// take takes a number, and tells what must come right behind it, ahead of all else.
func (s *plainSink) take(part binPart) []string {
	p, n := &s.prog, part.n
	var group *[]impl.Type
	if len(p.Types) > 0 {
		group = &p.Types[len(p.Types)-1]
	}
	var fun *impl.Fun
	if len(p.Funs) > 0 {
		fun = &p.Funs[len(p.Funs)-1]
	}
	switch part.name {
	case "groups":
		return many(n, "types")
	case "types":
		p.Types = append(p.Types, nil)
		return many(n, "type")
	case "type":
		*group = append(*group, impl.Type{Kind: n & 3, Last: n > 4})
		return []string{"up", "fields"}
	case "up":
		(*group)[len(*group)-1].Up = n - 1
	case "fields":
		s.fields = &(*group)[len(*group)-1].Fields
		return many(n, "field")
	case "glob":
		s.fields = &p.Glob
		return many(n, "field")
	case "funs":
		return many(n, "fun")
	case "takes":
		// The one that is read already is what the function gives.
		fun.Gives = fun.Own[0]
		s.fields = &fun.Takes
		return many(n, "field")
	case "own":
		fun.Own = nil
		s.fields = &fun.Own
		return many(n, "field")
	case "field":
		*s.fields = append(*s.fields, impl.Field{Kind: n & 3, Mut: n > 4})
		if n&3 != 1 {
			return []string{"of"}
		}
	case "of":
		(*s.fields)[len(*s.fields)-1].Of = n - 2
	case "body":
		return many(n, "op")
	case "op":
		fun.Body = append(fun.Body, impl.Ins{Op: n})
		switch n {
		case 12, 22, 23:
			return []string{"a of"}
		case 14, 15:
			return []string{"a", "b"}
		case 1, 2, 3, 4, 5, 13, 16, 17, 18, 19, 25, 26, 27, 28, 33:
			return []string{"a"}
		}
	case "a":
		fun.Body[len(fun.Body)-1].A = n
	case "a of":
		fun.Body[len(fun.Body)-1].A = n - 2
	case "b":
		fun.Body[len(fun.Body)-1].B = n
	}
	return nil
}

// plainBinRead is the program that is ok of which these are the bytes, or the first code that is come to.
func plainBinRead(s string) (impl.Prog, int) {
	for at := range 4 {
		if at == len(s) {
			return impl.Prog{}, 2
		}
		if !strings.HasPrefix(s[at:], "lair"[at:at+1]) {
			return impl.Prog{}, 1
		}
	}
	var sink plainSink
	at := 4
	todo := []string{"groups", "glob", "funs"}
	for len(todo) > 0 {
		name := todo[0]
		todo = todo[1:]
		if name == "fun" {
			// A function begins ahead of its first number; that is a field, which stands in Own till it is known where it belongs.
			sink.prog.Funs = append(sink.prog.Funs, impl.Fun{})
			sink.fields = &sink.prog.Funs[len(sink.prog.Funs)-1].Own
			todo = append([]string{"field", "takes", "own", "body"}, todo...)
			continue
		}
		n, next, code := plainNumAt(s, at)
		part := binPart{name, n}
		if code == 0 && !binCan(part) {
			code = 4
		}
		if code != 0 {
			return impl.Prog{}, code
		}
		at = next
		todo = append(slices.Clone(sink.take(part)), todo...)
	}
	if !plainProgOk(sink.prog) {
		return impl.Prog{}, 4
	}
	if at < len(s) {
		return impl.Prog{}, 5
	}
	return sink.prog, 0
}
