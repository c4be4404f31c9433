package tests

import (
	"maps"
	"math/rand"
	"slices"
	"strconv"
	"strings"
	"testing"

	"loop.example/lairage/impl"
)

// raw is a text of these bytes, which are written in decimals with spaces between.
func raw(t *testing.T, text string) string {
	t.Helper()
	var all []byte
	for _, word := range strings.Fields(text) {
		n, err := strconv.ParseUint(word, 10, 8)
		if err != nil {
			t.Fatalf("%q: %v", text, err)
		}
		all = append(all, byte(n))
	}
	return string(all)
}

// lair is what begins like a program, and goes on with these bytes.
func lair(t *testing.T, text string) string {
	t.Helper()
	return "lair" + raw(t, text)
}

// partsOf is the numbers of a program that is ok, held against what BinOf tells.
func partsOf(t *testing.T, p impl.Prog) []binPart {
	t.Helper()
	parts := plainParts(p)
	if text, ok := partsText(parts); !ok || text != impl.BinOf(p) {
		t.Fatalf("%v: %q, not %q", p, impl.BinOf(p), text)
	}
	return parts
}

// textAhead is the bytes ahead of a number of a program.
func textAhead(parts []binPart, at int) string {
	text, _ := partsText(parts[:at])
	return text
}

// textBehind is the bytes behind a number of a program.
func textBehind(parts []binPart, at int) string {
	text, _ := partsText(parts[at+1:])
	return strings.TrimPrefix(text, "lair")
}

// withPart is numbers with one of them turned.
func withPart(parts []binPart, at int, n int) []binPart {
	own := slices.Clone(parts)
	own[at].n = n
	return own
}

// impossible is numbers that nothing of that name can have.
func impossible(name string) []int {
	var all []int
	for _, n := range []int{0, 1, 2, 3, 4, 5, 6, 7, 8, 9, 10, 11, 12, 13, 29, 30, 31, 32, 33, 34, 35, 64, 127, 128, 129, 130, 133, 255, 256, 257, 300, 9972, 9973, 16256, 16382, 16383} {
		if !binCan(binPart{name, n}) {
			all = append(all, n)
		}
	}
	return all
}

// binProgs is programs that are ok: those at bounds, each kind of field, type and instruction, and made-up ones.
func binProgs(t *testing.T) []impl.Prog {
	t.Helper()
	var all []impl.Prog
	for _, c := range binCases() {
		all = append(all, readProg(t, c.text))
	}
	bound := boundProgs()
	for _, name := range slices.Sorted(maps.Keys(bound)) {
		all = append(all, bound[name])
	}
	r := rand.New(rand.NewSource(12))
	for len(all) < 200 {
		if p := someProg(r); plainProgOk(p) {
			all = append(all, p)
		}
		all = append(all, soundProg(r))
	}
	return all
}

// binCase is the text of a program, and its bytes behind `lair`.
type binCase struct {
	text  string
	bytes string
}

// binCases is programs with their bytes by hand.
func binCases() []binCase {
	return []binCase{
		{"fun n\nret\n", "0 0 1 1 0 0 1 29"},
		// No groups; places that all share, and functions with and without Takes and Own.
		{"glob n\nfun n\nret\n", "0 1 1 1 1 0 0 1 29"},
		{"glob rany rchip n\nfun n\nret\n", "0 3 2 1 2 0 1 1 1 0 0 1 29"},
		{"fun rany\nret\n", "0 0 1 2 1 0 0 1 29"},
		{"fun schip\nret\n", "0 0 1 3 0 0 0 1 29"},
		{"fun n n\nret\n", "0 0 1 1 1 1 0 1 29"},
		{"fun n\nown n\nret\n", "0 0 1 1 0 1 1 1 29"},
		{"fun sany rchip n sany\nown rany n rchip\nret\nret\n", "0 0 1 3 1 3 2 0 1 3 1 3 2 1 1 2 0 2 29 29"},
		{"fun n\nret\nfun rany\nown n\nsay\n", "0 0 2 1 0 0 1 29 2 1 0 1 1 1 30"},
		{"fun n\nret\nfun n\nret\nfun n\nret\nfun n\nret\nfun n\nret\n", "0 0 5 1 0 0 1 29 1 0 0 1 29 1 0 0 1 29 1 0 0 1 29 1 0 0 1 29"},
		// Boxes and rows, Last or not, with Up -1 and others.
		{"group\nbox -\nfun n\nret\n", "1 1 1 0 0 0 1 1 0 0 1 29"},
		{"group\nbox - last\nfun n\nret\n", "1 1 5 0 0 0 1 1 0 0 1 29"},
		{"group\nrow - n\nfun n\nret\n", "1 1 2 0 1 1 0 1 1 0 0 1 29"},
		{"group\nrow - n! last\nfun n\nret\n", "1 1 6 0 1 5 0 1 1 0 0 1 29"},
		{"group\nbox -\nbox 0\nbox 1 last\nfun n\nret\n", "1 3 1 0 0 1 1 0 5 2 0 0 1 1 0 0 1 29"},
		{"group\nrow - n\ngroup\nrow 0 n\nrow 1 n last\nfun n\nret\n", "2 1 2 0 1 1 2 2 1 1 1 6 2 1 1 0 1 1 0 0 1 29"},
		{"group\nbox -\ngroup\nbox -\ngroup\nbox -\ngroup\nbox - last\nfun n\nret\n", "4 1 1 0 0 1 1 0 0 1 1 0 0 1 5 0 0 0 1 1 0 0 1 29"},
		{"group\nbox -\nbox 0\nbox 1\nbox 2\nbox 3\nbox 4\nbox 5\nbox 6\nfun r7\nret\n", "1 8 1 0 0 1 1 0 1 2 0 1 3 0 1 4 0 1 5 0 1 6 0 1 7 0 0 1 2 9 0 0 1 29"},
		// Each kind of field, with and without Mut, to anything, to a chip, and to a type.
		{"group\nbox - n n!\nfun n\nret\n", "1 1 1 0 2 1 5 0 1 1 0 0 1 29"},
		{"group\nbox - rany rchip r0 r1\nbox - rany! rchip! r0! r1!\nfun n\nret\n", "1 2 1 0 4 2 1 2 0 2 2 2 3 1 0 4 6 1 6 0 6 2 6 3 0 1 1 0 0 1 29"},
		{"group\nbox - sany schip s0 s1\nbox - sany! schip! s0! s1!\nfun n\nret\n", "1 2 1 0 4 3 1 3 0 3 2 3 3 1 0 4 7 1 7 0 7 2 7 3 0 1 1 0 0 1 29"},
		{"group\nbox -\nglob r0\nfun s0 r0 s0\nown r0\nret\n", "1 1 1 0 0 1 2 2 1 3 2 2 2 2 3 2 1 2 2 1 29"},
		// Each kind of instruction, with its numbers at their least and at their most.
		{"fun n\nnum 0\nnum 127\nnum 128\nnum 255\nnum 256\nnum 300\nnum 9972\n", "0 0 1 1 0 0 7 1 0 1 127 1 128 1 1 255 1 1 128 2 1 172 2 1 244 77"},
		{"fun n\nget 0\nget 5\nset 0\nset 5\ntake 0\ntake 2\nkeep 0\nkeep 2\n", "0 0 1 1 0 0 8 2 0 2 5 3 0 3 5 4 0 4 2 5 0 5 2"},
		{"fun n\ndrop\nadd\nmul\nless\nchip\nback\n", "0 0 1 1 0 0 6 6 7 8 9 10 11"},
		{"fun n\nnull chip\nnull any\nnull 0\nnull 7\n", "0 0 1 1 0 0 4 12 0 12 1 12 2 12 9"},
		{"fun n\nnew 0\nnew 7\nlook 0 0\nlook 7 3\nput 0 0\nput 7 3\n", "0 0 1 1 0 0 6 13 0 13 7 14 0 0 14 7 3 15 0 0 15 7 3"},
		{"fun n\nrow 0\nrow 7\nat 0\nat 7\nlay 0\nlay 7\nlen 0\nlen 7\n", "0 0 1 1 0 0 8 16 0 16 7 17 0 17 7 18 0 18 7 19 0 19 7"},
		{"fun n\nsame\nnone\nsure\n", "0 0 1 1 0 0 3 20 21 24"},
		{"fun n\ntest chip\ntest any\ntest 0\ntest 7\ncast chip\ncast any\ncast 0\ncast 7\n", "0 0 1 1 0 0 8 22 0 22 1 22 2 22 9 23 0 23 1 23 2 23 9"},
		{"fun n\njump 0\njump 29\nif 0\nif 29\ncall 0\ncall 4\npass 0\npass 4\n", "0 0 1 1 0 0 8 25 0 25 29 26 0 26 29 27 0 27 4 28 0 28 4"},
		{"fun n\nret\nsay\nshow\nask\nsweep 0\nsweep 1\n", "0 0 1 1 0 0 6 29 30 31 32 33 0 33 1"},
	}
}

// notOkCase is why a program that can be read whole is not ok, and its bytes behind `lair`.
type notOkCase struct {
	why   string
	bytes string
}

// notOkCases is bytes in which each number can be, and that are those of no program.
func notOkCases() []notOkCase {
	return []notOkCase{
		{"no functions", "0 0 0"},
		{"no functions, but all else", "1 1 1 0 0 1 1 0"},
		{"no instructions", "0 0 1 1 0 0 0"},
		{"no instructions in the second", "0 0 2 1 0 0 1 29 1 0 0 0"},
		{"a group without types", "1 0 0 1 1 0 0 1 29"},
		{"the second group has no types", "2 1 1 0 0 0 0 1 1 0 0 1 29"},
		{"four groups without types", "4 0 0 0 0 0 1 1 0 0 1 29"},
		{"nine types in two groups", "2 5 1 0 0 1 0 0 1 0 0 1 0 0 1 0 0 4 1 0 0 1 0 0 1 0 0 1 0 0 0 1 1 0 0 1 29"},
		{"an Up that is itself", "1 1 1 1 0 0 1 1 0 0 1 29"},
		{"an Up that is behind", "1 2 1 2 0 1 0 0 0 1 1 0 0 1 29"},
		{"an Up that is none", "1 1 1 127 0 0 1 1 0 0 1 29"},
		{"an Up that is far from all", "1 1 1 255 127 0 0 1 1 0 0 1 29"},
		{"an Up that is Last", "1 2 5 0 0 1 1 0 0 1 1 0 0 1 29"},
		{"an Up of another kind", "1 2 1 0 1 1 2 1 1 1 0 1 1 0 0 1 29"},
		{"an Up that has more", "1 2 1 0 1 1 1 1 0 0 1 1 0 0 1 29"},
		{"an Up that does not fit", "1 2 1 0 1 1 1 1 1 2 1 0 1 1 0 0 1 29"},
		{"a row of nothing", "1 1 2 0 0 0 1 1 0 0 1 29"},
		{"a row of two", "1 1 2 0 2 1 1 0 1 1 0 0 1 29"},
		{"a row of four", "1 1 6 0 4 1 1 1 1 0 1 1 0 0 1 29"},
		{"an Of behind its group", "2 1 1 0 1 2 3 1 1 0 0 0 1 1 0 0 1 29"},
		{"an Of of a field that is no type", "1 1 1 0 1 2 3 0 1 1 0 0 1 29"},
		{"an Of of a field that is far from all", "1 1 1 0 1 7 255 127 0 1 1 0 0 1 29"},
		{"an Of of a Glob that is no type", "0 1 2 2 1 1 0 0 1 29"},
		{"an Of of a Glob that is far from all", "0 1 2 255 127 1 1 0 0 1 29"},
		{"an Of of a Gives that is no type", "0 0 1 2 2 0 0 1 29"},
		{"an Of of a Takes that is no type", "0 0 1 1 1 3 2 0 1 29"},
		{"an Of of an Own that is no type", "0 0 1 1 0 1 2 2 1 29"},
		{"a Glob that is sure", "0 1 3 1 1 1 0 0 1 29"},
		{"an Own that is sure", "0 0 1 1 0 1 3 0 1 29"},
		{"a Glob that is Mut", "0 1 5 1 1 0 0 1 29"},
		{"a Gives that is Mut", "0 0 1 5 0 0 1 29"},
		{"a Takes that is Mut", "0 0 1 1 1 6 1 0 1 29"},
		{"an Own that is Mut", "0 0 1 1 0 1 6 1 1 29"},
		{"a number that is too great", "0 0 1 1 0 0 1 1 245 77"},
		{"a number that is far too great", "0 0 1 1 0 0 1 1 255 127"},
		{"get 6", "0 0 1 1 0 0 1 2 6"},
		{"set 6", "0 0 1 1 0 0 1 3 6"},
		{"take 3", "0 0 1 1 0 0 1 4 3"},
		{"keep 3", "0 0 1 1 0 0 1 5 3"},
		{"null 8", "0 0 1 1 0 0 1 12 10"},
		{"null 16381", "0 0 1 1 0 0 1 12 255 127"},
		{"new 8", "0 0 1 1 0 0 1 13 8"},
		{"look 8 0", "0 0 1 1 0 0 1 14 8 0"},
		{"look 0 4", "0 0 1 1 0 0 1 14 0 4"},
		{"put 8 0", "0 0 1 1 0 0 1 15 8 0"},
		{"put 7 16383", "0 0 1 1 0 0 1 15 7 255 127"},
		{"row 8", "0 0 1 1 0 0 1 16 8"},
		{"at 8", "0 0 1 1 0 0 1 17 8"},
		{"lay 8", "0 0 1 1 0 0 1 18 8"},
		{"len 8", "0 0 1 1 0 0 1 19 8"},
		{"test 8", "0 0 1 1 0 0 1 22 10"},
		{"cast 8", "0 0 1 1 0 0 1 23 10"},
		{"jump 30", "0 0 1 1 0 0 1 25 30"},
		{"if 30", "0 0 1 1 0 0 1 26 30"},
		{"call 5", "0 0 1 1 0 0 1 27 5"},
		{"pass 5", "0 0 1 1 0 0 1 28 5"},
		{"sweep 2", "0 0 1 1 0 0 1 33 2"},
		{"sweep 128", "0 0 1 1 0 0 1 33 128 1"},
	}
}
