package tests

import (
	"math"
	"math/rand"
	"reflect"
	"slices"
	"strings"
	"testing"

	"loop.example/lairage/impl"
)

// alike says whether two programs are the same in all parts, told by other means than ProgSame.
func alike(a impl.Prog, b impl.Prog) bool {
	return reflect.DeepEqual(bare(a), bare(b))
}

// bare is a program with nil for each list that is empty.
func bare(p impl.Prog) impl.Prog {
	var q impl.Prog
	for _, types := range p.Types {
		var own []impl.Type
		for _, t := range types {
			t.Fields = append([]impl.Field(nil), t.Fields...)
			own = append(own, t)
		}
		q.Types = append(q.Types, own)
	}
	q.Glob = append(q.Glob, p.Glob...)
	for _, f := range p.Funs {
		q.Funs = append(q.Funs, impl.Fun{Gives: f.Gives, Takes: append([]impl.Field(nil), f.Takes...), Own: append([]impl.Field(nil), f.Own...), Body: append([]impl.Ins(nil), f.Body...)})
	}
	return q
}

// isNothing says whether a program has no part at all.
func isNothing(p impl.Prog) bool {
	return len(p.Types) == 0 && len(p.Glob) == 0 && len(p.Funs) == 0
}

// checkProgRead holds ProgRead against the pattern of texts, and says whether the text is that of a program.
func checkProgRead(t *testing.T, text string) bool {
	t.Helper()
	got, ok := impl.ProgRead(text)
	want, right := plainRead(text)
	if ok != right || !alike(got, want) {
		t.Errorf("%q is read as %v, %v, not %v, %v", text, got, ok, want, right)
	}
	if ok && impl.ProgText(got) != text {
		t.Errorf("%q is read, but written as %q", text, impl.ProgText(got))
	}
	return ok
}

func TestProgConstants(t *testing.T) {
	if impl.TakeMost != 3 || impl.OwnMost != 3 {
		t.Error("a bound is off")
	}
}

func TestSortOk(t *testing.T) {
	for kind := -2; kind <= 6; kind++ {
		for _, of := range edgeNumbers() {
			for _, n := range []int{math.MinInt, -1, 0, 1, 2, 7, 8, 9, 100, math.MaxInt} {
				f := impl.Field{Kind: kind, Of: of}
				if got, want := impl.SortOk(f, n), plainFieldOk(f, n); got != want {
					t.Errorf("%v among %d: %v", f, n, got)
				}
				if impl.SortOk(mut(f), n) {
					t.Errorf("%v among %d is a sort", mut(f), n)
				}
			}
		}
	}
}

func TestFieldTexts(t *testing.T) {
	texts := fieldTexts()
	if len(texts) != 42 {
		t.Fatal(len(texts))
	}
	for text, f := range texts {
		if got := impl.FieldText(f); got != text {
			t.Errorf("%v: %q, not %q", f, got, text)
		}
		if got, ok := impl.FieldRead(text); !ok || got != f {
			t.Errorf("%q is read as %v, %v", text, got, ok)
		}
	}
	for kind := -2; kind <= 6; kind++ {
		for _, of := range edgeNumbers() {
			for _, f := range sorts(impl.Field{Kind: kind, Of: of}, impl.Field{Kind: kind, Of: of, Mut: true}) {
				if got := impl.FieldText(f); got != plainFieldText(f) {
					t.Errorf("%v: %q, not %q", f, got, plainFieldText(f))
				}
			}
		}
	}
	for _, f := range sorts(impl.Field{Kind: math.MinInt}, impl.Field{Kind: math.MaxInt, Mut: true}, impl.Field{}, impl.Field{Mut: true}) {
		if got := impl.FieldText(f); got != "" {
			t.Errorf("%v: %q", f, got)
		}
	}
}

func TestFieldTextsThatAreNone(t *testing.T) {
	long := strings.Repeat("7", 400)
	for _, text := range []string{
		"", "!", "!!", "!n", "n!!", "r", "s", "r!", "s!", "rs", "nn", "n0", "n0!", "nany", "N", "R0", "Sany",
		"r8", "s8", "r9", "r10", "r8!", "s80", "r-1", "r-2", "r-0", "s-1!", "r+1", "r+0", "r00", "r07", "s01!", "r0 ", " r0", "r 0", "r0 !", "r0\n", "n\n", "n ", " n", "n\x00",
		"rAny", "ranyy", "ran", "any", "chip", "rchips", "rchi", "rany chip", "ranychip", "r!any", "rany!!", "r0!0", "x0", "0", "7", "-", "last", "r1.0", "r0x1", "r1_0", "r1e0",
		"r2147483648", "r4294967296", "r4294967303", "r9223372036854775807", "r9223372036854775808", "s18446744073709551616", "s18446744073709551623", "r" + long, "r" + long + "!", "r" + strings.Repeat("0", 400), "r" + strings.Repeat("0", 400) + "1",
		"r\u0661", "r\uff11", "\xff", "n\xff", "r\x80", "\xed\xa0\x80", "\u00f1", "\ufeffn", strings.Repeat("n", 100000), strings.Repeat("!", 100000),
	} {
		if got, ok := impl.FieldRead(text); ok || got != (impl.Field{}) {
			t.Errorf("%q is read as %v, %v", text, got, ok)
		}
	}
}

// TestFieldTextsNearby turns each text of a field at each place: just those that are again one are read.
func TestFieldTextsNearby(t *testing.T) {
	texts := fieldTexts()
	check := func(text string) {
		want, right := texts[text]
		if got, ok := impl.FieldRead(text); ok != right || got != want {
			t.Errorf("%q is read as %v, %v, not %v, %v", text, got, ok, want, right)
		}
	}
	for text := range texts {
		for at := 0; at <= len(text); at++ {
			check(text[:at])
			check(text[at:])
			for c := range 256 {
				put := string([]byte{byte(c)})
				check(text[:at] + put + text[at:])
				if at < len(text) {
					check(text[:at] + put + text[at+1:])
				}
			}
			if at < len(text) {
				check(text[:at] + text[at+1:])
			}
		}
		for other := range texts {
			check(text + other)
		}
	}
}

func TestProgOkAtBounds(t *testing.T) {
	for name, p := range boundProgs() {
		if !impl.ProgOk(p) {
			t.Errorf("%s is not ok", name)
			continue
		}
		text := impl.ProgText(p)
		if text != plainText(p) {
			t.Errorf("%s: %q, not %q", name, text, plainText(p))
		}
		if got, ok := impl.ProgRead(text); !ok || !alike(got, p) || !impl.ProgSame(got, p) {
			t.Errorf("%s is read as %v, %v", name, got, ok)
		}
	}
}

func TestProgsThatAreNotOk(t *testing.T) {
	for name, p := range badProgs() {
		if impl.ProgOk(p) {
			t.Errorf("%s is ok", name)
		}
		if text := impl.ProgText(p); text != "" {
			t.Errorf("%s: %q", name, text)
		}
		// What it would be written as must not be read either, where it can be written at all.
		checkProgRead(t, plainText(p))
		if got, ok := impl.ProgRead(plainText(p)); ok || !isNothing(got) {
			t.Errorf("%s is read as %v, %v from %q", name, got, ok, plainText(p))
		}
		if !impl.ProgSame(p, copyProg(p)) || impl.ProgSame(p, fullProg()) {
			t.Errorf("%s is not the same as itself, or the same as another", name)
		}
	}
}

func TestFullProg(t *testing.T) {
	p := fullProg()
	if got := impl.ProgText(p); got != fullText {
		t.Errorf("%q", got)
	}
	if got, ok := impl.ProgRead(fullText); !ok || !alike(got, p) {
		t.Errorf("%v, %v", got, ok)
	}
	has := map[int]bool{}
	for _, f := range p.Funs {
		for _, i := range f.Body {
			has[i.Op] = true
		}
	}
	if len(has) != 33 {
		t.Errorf("%d kinds of instructions", len(has))
	}
}

func TestTextsOfProgs(t *testing.T) {
	for _, text := range []string{
		"fun n\nret\n",
		"fun rany\nret\n",
		"fun n n n n\nown n n n\nret\n",
		"glob n\nfun n\nret\n",
		"glob n n n\nfun n\nret\n",
		"fun n\nown n\nret\nfun n\nown n\nret\n",
		"fun n\nrow 0\nrow 7\n",
		"group\nrow - n\nfun n\nrow 0\n",
		"group\nrow - n\nrow 0 n\nfun n\nrow 0\nfun n\nrow 1\n",
		"group\nbox -\nfun n\nret\n",
		"group\nbox - last\nfun n\nret\n",
		"group\nbox -\nbox 0\nbox 1\nbox 0 n\nfun n\nret\n",
		"group\nbox -\ngroup\nbox -\ngroup\nbox -\ngroup\nbox -\nfun r3\nret\n",
		"group\nbox - n r0! s0 n!\nglob r0\nfun s0 s0\nown r0\nret\n",
		"group\nrow - r0! last\nfun n\nret\n",
		"fun n\n" + strings.Repeat("ret\n", 30),
		strings.Repeat("fun n\nret\n", 5),
	} {
		if !checkProgRead(t, text) {
			t.Errorf("%q is not read", text)
		}
	}
}

func TestTextsOfNoProg(t *testing.T) {
	long := strings.Repeat("1", 400)
	for _, text := range []string{
		// Nothing, or a part alone.
		"", "\n", " ", "\n\n", "fun n", "fun n\n", "ret\n", "ret", "own n\n", "glob n\n", "group\n", "group\nbox -\n", "group\nbox -\nglob n\n", "fun\n", "fun\nret\n",
		// A newline more or less, an empty line, a space too many.
		"fun n\nret", "fun n\nret\n\n", "\nfun n\nret\n", "fun n\n\nret\n", "fun n\nret\n ", "fun n\nret\n \n", "fun n\nret \n", "fun n \nret\n", "fun n\n ret\n", " fun n\nret\n", "fun  n\nret\n", "fun n  n\nret\n", "fun n\nret\r\n", "fun n\r\nret\r\n", "fun\tn\nret\n", "fun n\nnum  1\n", "fun n\nret\x00\n", "fun n\nret\n\x00", "\ufefffun n\nret\n",
		// Places of its own: behind an instruction, twice, empty, ahead of all functions, sure, too many.
		"fun n\nret\nown n\n", "fun n\nret\nown n\nret\n", "fun n\nown n\nown n\nret\n", "fun n\nown\nret\n", "fun n\nown \nret\n", "own n\nfun n\nret\n", "fun n\nown n\n", "fun n\nown n\nfun n\nret\n", "fun n\nown sany\nret\n", "fun n\nown n!\nret\n", "fun n\nown n n n n\nret\n", "fun n\nown r0\nret\n", "fun n\nown x\nret\n", "fun n\nown n n\nown n\nret\n",
		// A group without types, a type without a group, groups behind what comes behind them.
		"group\nfun n\nret\n", "group\ngroup\nbox -\nfun n\nret\n", "group\nbox -\ngroup\nfun n\nret\n", "group\nglob n\nfun n\nret\n", "box -\nfun n\nret\n", "row - n\nfun n\nret\n", "glob n\ngroup\nbox -\nfun n\nret\n", "group\nglob n\nbox -\nfun n\nret\n", "group\nbox -\nglob n\nbox -\nfun n\nret\n", "fun n\nret\ngroup\nbox -\n", "fun n\nret\nbox -\n", "fun n\nrow - n\n", "fun n\nret\nglob n\n", "group n\nbox -\nfun n\nret\n", "group \nbox -\nfun n\nret\n", "groups\nbox -\nfun n\nret\n", "group\nbox -\ngroup\nbox -\ngroup\nbox -\ngroup\nbox -\ngroup\nbox -\nfun n\nret\n",
		"group\nbox - \nfun n\nret\n", "group\nbox\nfun n\nret\n", "group\nbox n\nfun n\nret\n", "group\nbox -1\nfun n\nret\n", "group\nbox any\nfun n\nret\n", "group\nbox chip\nfun n\nret\n", "group\nbox 0\nfun n\nret\n", "group\nbox -\nbox 00\nfun n\nret\n", "group\nbox -\nbox +0\nfun n\nret\n", "group\nbox -\nbox -0\nfun n\nret\n", "group\nbox -\nbox " + long + "\nfun n\nret\n", "group\nbox -\nbox 18446744073709551616\nfun n\nret\n", "group\nbox --\nfun n\nret\n",
		"group\nbox last -\nfun n\nret\n", "group\nbox - last n\nfun n\nret\n", "group\nbox - last last\nfun n\nret\n", "group\nbox last\nfun n\nret\n", "group\nbox - Last\nfun n\nret\n", "group\nrow -\nfun n\nret\n", "group\nrow - last\nfun n\nret\n", "group\nrow - n n\nfun n\nret\n", "group\nbox - n n n n n\nfun n\nret\n", "group\nbox - r1\nfun n\nret\n", "group\nbox - r8\nfun n\nret\n", "group\nbox - n !\nfun n\nret\n", "group\nbox - nn\nfun n\nret\n", "group\nrow 0\nfun n\nret\n", "group\nnew 0\nfun n\nret\n",
		"group\n" + strings.Repeat("box -\n", 9) + "fun n\nret\n", "group\nbox - last\nbox 0\nfun n\nret\n",
		// Places that all share: none, twice, sure, too many, of no type.
		"glob\nfun n\nret\n", "glob \nfun n\nret\n", "glob n\nglob n\nfun n\nret\n", "glob sany\nfun n\nret\n", "glob schip\nfun n\nret\n", "glob n n n n\nfun n\nret\n", "glob r0\nfun n\nret\n", "glob n!\nfun n\nret\n", "glob n x\nfun n\nret\n",
		// Functions.
		"fun n!\nret\n", "fun r0\nret\n", "fun n r0\nret\n", "fun n s8\nret\n", "fun n n!\nret\n", "fun n n n n n\nret\n", "fun x\nret\n", "Fun n\nret\n", "func n\nret\n", "fun\nn\nret\n", "fun n\nfun n\nret\n", "fun n\nret\nfun n\n", "fun n\nret\nfun\nret\n", "fun n\nret 0\n", "fun n\nnum\n", "fun n\nnum 9973\n", "fun n\nnum 01\n", "fun n\nnum " + long + "\n", "fun n\nnum -1\n", "fun n\nfly\n", "fun n\nret;\n", "fun n\nret ret\n",
		"fun n\n" + strings.Repeat("ret\n", 31), strings.Repeat("fun n\nret\n", 6),
		// No text at all, and long ones.
		"\xff", "fun n\xff\nret\n", "fun n\nret\xff\n", "fun n\nret\n\xc3\x28", "\xed\xa0\x80\n", "fun n\u00a0\nret\n", "fun n\u2028ret\n", "fun \u0433\nret\n",
		strings.Repeat("\n", 100000), strings.Repeat("group\n", 50000), "group\n" + strings.Repeat("box -\n", 50000), "fun n\n" + strings.Repeat("ret\n", 50000), strings.Repeat("fun n\nret\n", 50000), "fun" + strings.Repeat(" n", 100000) + "\nret\n", "glob" + strings.Repeat(" n", 100000) + "\nfun n\nret\n", "fun n\nown" + strings.Repeat(" n", 100000) + "\nret\n", strings.Repeat("a", 200000), strings.Repeat(" ", 200000),
	} {
		if got, ok := impl.ProgRead(text); ok || !isNothing(got) {
			t.Errorf("%.60q is read as %v, %v", text, got, ok)
		}
		if len(text) < 1000 && checkProgRead(t, text) {
			t.Errorf("%q is that of a program", text)
		}
	}
}

// nearTexts is texts of programs that are turned at each place below.
func nearTexts() []string {
	return []string{
		"fun n\nret\n",
		"glob n\nfun r3 s2\nown r1\nrow 7\nret\n",
		"group\nbox - n! last\nrow - r0\nfun n\nret\n",
		"group\nbox -\ngroup\nbox 0 s1\nrow - rany!\nglob rchip r2\nfun n s2\nown n\nnum 10\nlook 1 0\nfun sany\nnull any\nret\n",
		fullText,
	}
}

// TestTextsNearby turns texts at each byte: just what is again the text of a program is read.
func TestTextsNearby(t *testing.T) {
	puts := []byte("abcfghilmnoprstuwxy0123789 -!\n\r\t\x00\x80\xff;NR")
	read, not := 0, 0
	check := func(text string) {
		if checkProgRead(t, text) {
			read++
		} else {
			not++
		}
	}
	for _, text := range nearTexts() {
		if len(text) > 200 {
			puts = []byte("nr07 \n!\xff")
		}
		for at := 0; at <= len(text); at++ {
			check(text[:at])
			check(text[at:])
			for _, c := range puts {
				check(text[:at] + string([]byte{c}) + text[at:])
				if at < len(text) {
					check(text[:at] + string([]byte{c}) + text[at+1:])
				}
			}
			if at < len(text) {
				check(text[:at] + text[at+1:])
			}
		}
	}
	if read < 300 || not < 5000 {
		t.Errorf("%d are read, and %d are not", read, not)
	}
}

// TestTextsOfTurnedLines leaves out, doubles and moves lines and words, and puts other lines and words among them.
func TestTextsOfTurnedLines(t *testing.T) {
	read, not := 0, 0
	check := func(parts []string, by string) {
		if checkProgRead(t, strings.Join(parts, by)) {
			read++
		} else {
			not++
		}
	}
	for _, text := range nearTexts() {
		for by, puts := range map[string][]string{
			"\n": {"", "group", "box -", "row - n", "row 0", "glob", "glob n", "fun", "fun n", "own", "own n", "own sany", "ret", "num 3", "fly"},
			" ":  {"", "-", "0", "n", "n!", "r0", "s0", "r7", "rany", "last", "any", "group", "ret"},
		} {
			parts := strings.Split(text, by)
			for at := range parts {
				check(slices.Delete(slices.Clone(parts), at, at+1), by)
				for _, put := range puts {
					check(slices.Insert(slices.Clone(parts), at, put), by)
					own := slices.Clone(parts)
					own[at] = put
					check(own, by)
				}
				for to := range parts {
					own := slices.Clone(parts)
					own[at], own[to] = own[to], own[at]
					check(own, by)
					check(slices.Insert(slices.Delete(slices.Clone(parts), at, at+1), min(to, len(parts)-1), parts[at]), by)
				}
			}
		}
	}
	if read < 300 || not < 1000 {
		t.Errorf("%d are read, and %d are not", read, not)
	}
}

// TestProgIsReadAsItWas holds made-up programs against the words of the chapter.
func TestProgIsReadAsItWas(t *testing.T) {
	r := rand.New(rand.NewSource(3))
	right := 0
	for range 4000 {
		p := someProg(r)
		want := plainProgOk(p)
		if impl.ProgOk(p) != want {
			t.Fatalf("%v: ok is %v", p, !want)
		}
		text := impl.ProgText(p)
		if !want {
			if text != "" {
				t.Fatalf("%v: %q", p, text)
			}
			continue
		}
		right++
		if text != plainText(p) {
			t.Fatalf("%v: %q, not %q", p, text, plainText(p))
		}
		if got, ok := impl.ProgRead(text); !ok || !alike(got, p) || !impl.ProgSame(got, p) {
			t.Fatalf("%q is read as %v, %v", text, got, ok)
		}
		checkProgRead(t, text)
		at := r.Intn(len(text))
		checkProgRead(t, text[:at]+text[at+1:])
		checkProgRead(t, text[:at]+string(text[r.Intn(len(text))])+text[at+1:])
	}
	if right < 1500 || right > 3900 {
		t.Errorf("%d of 4000 are ok", right)
	}
}

// onePartTurns is turns of fullProg, each of one part of it alone.
func onePartTurns() map[string]func(p *impl.Prog) {
	return map[string]func(p *impl.Prog){
		"no types":        func(p *impl.Prog) { p.Types = nil },
		"a group less":    func(p *impl.Prog) { p.Types = p.Types[:3] },
		"a group more":    func(p *impl.Prog) { p.Types = append(p.Types, nil) },
		"a type less":     func(p *impl.Prog) { p.Types[1] = p.Types[1][:1] },
		"a type more":     func(p *impl.Prog) { p.Types[0] = append(p.Types[0], box(-1)) },
		"groups swapped":  func(p *impl.Prog) { p.Types[1], p.Types[2] = p.Types[2], p.Types[1] },
		"a type moved":    func(p *impl.Prog) { p.Types[0], p.Types[1] = append(p.Types[0], p.Types[1][0]), p.Types[1][1:] },
		"kind":            func(p *impl.Prog) { p.Types[1][1].Kind = 1 },
		"up":              func(p *impl.Prog) { p.Types[3][1].Up = -1 },
		"last":            func(p *impl.Prog) { p.Types[1][0].Last = false },
		"a field less":    func(p *impl.Prog) { p.Types[3][1].Fields = p.Types[3][1].Fields[:2] },
		"a field more":    func(p *impl.Prog) { p.Types[3][1].Fields = append(p.Types[3][1].Fields, num()) },
		"a field's kind":  func(p *impl.Prog) { p.Types[0][0].Fields[0].Kind = 3 },
		"a field's of":    func(p *impl.Prog) { p.Types[0][0].Fields[0].Of = -2 },
		"a number's of":   func(p *impl.Prog) { p.Types[0][0].Fields[1].Of = 1 },
		"a field's mut":   func(p *impl.Prog) { p.Types[3][1].Fields[2].Mut = false },
		"no shared":       func(p *impl.Prog) { p.Glob = nil },
		"one less shared": func(p *impl.Prog) { p.Glob = p.Glob[:2] },
		"one more shared": func(p *impl.Prog) { p.Glob = append(p.Glob, num()) },
		"shared swapped":  func(p *impl.Prog) { p.Glob[0], p.Glob[1] = p.Glob[1], p.Glob[0] },
		"shared is mut":   func(p *impl.Prog) { p.Glob[2].Mut = true },
		"no functions":    func(p *impl.Prog) { p.Funs = nil },
		"a function less": func(p *impl.Prog) { p.Funs = p.Funs[:3] },
		"a function more": func(p *impl.Prog) { p.Funs = append(p.Funs, p.Funs[3]) },
		"funs swapped":    func(p *impl.Prog) { p.Funs[0], p.Funs[1] = p.Funs[1], p.Funs[0] },
		"gives":           func(p *impl.Prog) { p.Funs[0].Gives.Of = 1 },
		"gives is mut":    func(p *impl.Prog) { p.Funs[1].Gives.Mut = true },
		"takes less":      func(p *impl.Prog) { p.Funs[3].Takes = nil },
		"takes more":      func(p *impl.Prog) { p.Funs[1].Takes = sorts(num()) },
		"takes another":   func(p *impl.Prog) { p.Funs[0].Takes[2].Of = 0 },
		"owns less":       func(p *impl.Prog) { p.Funs[0].Own = p.Funs[0].Own[:2] },
		"owns more":       func(p *impl.Prog) { p.Funs[1].Own = sorts(num()) },
		"owns another":    func(p *impl.Prog) { p.Funs[2].Own[0].Of = 1 },
		"takes its own":   func(p *impl.Prog) { p.Funs[2].Takes, p.Funs[2].Own = p.Funs[2].Own, nil },
		"does less":       func(p *impl.Prog) { p.Funs[0].Body = p.Funs[0].Body[:19] },
		"does more":       func(p *impl.Prog) { p.Funs[3].Body = append(p.Funs[3].Body, ins(29)) },
		"does another":    func(p *impl.Prog) { p.Funs[3].Body[0].Op = 30 },
		"a of an ins":     func(p *impl.Prog) { p.Funs[0].Body[0].A = 9971 },
		"b of an ins":     func(p *impl.Prog) { p.Funs[0].Body[16].B = 2 },
		"swapped ins":     func(p *impl.Prog) { p.Funs[0].Body[7], p.Funs[0].Body[8] = p.Funs[0].Body[8], p.Funs[0].Body[7] },
	}
}

func TestProgSameOfOnePartTurned(t *testing.T) {
	full := fullProg()
	if !impl.ProgSame(full, fullProg()) || !impl.ProgSame(impl.Prog{}, impl.Prog{}) || impl.ProgSame(full, impl.Prog{}) || impl.ProgSame(impl.Prog{}, full) {
		t.Error("full or nothing")
	}
	for name, turn := range onePartTurns() {
		p := turned(full, turn)
		if impl.ProgSame(p, full) || impl.ProgSame(full, p) {
			t.Errorf("%s: is the same", name)
		}
		if !impl.ProgSame(p, turned(full, turn)) {
			t.Errorf("%s: is not the same as itself", name)
		}
		if impl.ProgOk(p) && impl.ProgText(p) == fullText {
			t.Errorf("%s: has the same text", name)
		}
	}
}

func TestProgSameOfEmptyAndNoLists(t *testing.T) {
	none := impl.Prog{Types: [][]impl.Type{nil, {{}}}, Funs: []impl.Fun{{}}}
	empty := impl.Prog{
		Types: [][]impl.Type{{}, {{Fields: []impl.Field{}}}},
		Glob:  make([]impl.Field, 0, 4),
		Funs:  []impl.Fun{{Takes: []impl.Field{}, Own: []impl.Field{}, Body: []impl.Ins{}}},
	}
	if !impl.ProgSame(none, empty) || !impl.ProgSame(empty, none) {
		t.Error("lists within")
	}
	whole := impl.Prog{Types: [][]impl.Type{}, Glob: []impl.Field{}, Funs: []impl.Fun{}}
	if !impl.ProgSame(whole, impl.Prog{}) || !impl.ProgSame(impl.Prog{}, whole) {
		t.Error("whole lists")
	}
	if impl.ProgSame(whole, none) || impl.ProgSame(impl.Prog{Types: [][]impl.Type{{}}}, whole) || impl.ProgSame(impl.Prog{Funs: []impl.Fun{{}}}, whole) {
		t.Error("an empty group, or a function of nothing, is something")
	}
}

func TestProgSameOfMadeUp(t *testing.T) {
	r := rand.New(rand.NewSource(4))
	for range 1000 {
		p := someProg(r)
		q := copyProg(p)
		switch f := r.Intn(len(q.Funs)); r.Intn(4) {
		case 0:
			q.Funs[f].Gives = someField(r, 3)
		case 1:
			q.Funs[f].Body[r.Intn(len(q.Funs[f].Body))] = someIns(r)
		case 2:
			q.Glob = someSorts(r, 2, 3, true)
		case 3:
			if len(q.Types) > 0 {
				turn(r, q.Types[0], 0)
			}
		}
		if got := impl.ProgSame(p, q); got != alike(p, q) || got != impl.ProgSame(q, p) {
			t.Fatalf("%v and %v: %v", p, q, got)
		}
	}
}

func TestNoProgIsChanged(t *testing.T) {
	all := badProgs()
	for name, p := range boundProgs() {
		all[name] = p
	}
	for name, p := range all {
		own := copyProg(p)
		before := spreadProg(own)
		impl.ProgOk(own)
		impl.ProgText(own)
		impl.ProgSame(own, own)
		impl.ProgSame(own, fullProg())
		if !reflect.DeepEqual(before, spreadProg(own)) {
			t.Errorf("%s is changed", name)
		}
	}
}

// fieldLists is all lists of fields of a program.
func fieldLists(p impl.Prog) []*[]impl.Field {
	all := []*[]impl.Field{&p.Glob}
	for i := range p.Types {
		for k := range p.Types[i] {
			all = append(all, &p.Types[i][k].Fields)
		}
	}
	for i := range p.Funs {
		all = append(all, &p.Funs[i].Takes, &p.Funs[i].Own)
	}
	return all
}

// TestReadProgsShareNothing writes into each list of an answer, and behind it: no other list shows it.
func TestReadProgsShareNothing(t *testing.T) {
	other, _ := impl.ProgRead(fullText)
	for at := range fieldLists(other) {
		p, _ := impl.ProgRead(fullText)
		lists := fieldLists(p)
		list := (*lists[at])[:cap(*lists[at])]
		for i := range list {
			list[i] = impl.Field{Kind: 55, Of: 55}
		}
		*lists[at] = nil
		want := fullProg()
		wanted := fieldLists(want)
		*wanted[at] = nil
		for k := range lists {
			if !slices.Equal(*lists[k], *wanted[k]) {
				t.Errorf("list %d shows what is written into list %d", k, at)
			}
		}
	}
	for at := range other.Funs {
		p, _ := impl.ProgRead(fullText)
		body := p.Funs[at].Body[:cap(p.Funs[at].Body)]
		for i := range body {
			body[i] = ins(99)
		}
		p.Funs[at].Body = fullProg().Funs[at].Body
		if !alike(p, fullProg()) {
			t.Errorf("what function %d does is shared", at)
		}
	}
	for at := range other.Types {
		p, _ := impl.ProgRead(fullText)
		types := p.Types[at][:cap(p.Types[at])]
		for i := range types {
			types[i] = box(77)
		}
		p.Types[at] = fullProg().Types[at]
		if !alike(p, fullProg()) {
			t.Errorf("group %d is shared", at)
		}
	}
	if !alike(other, fullProg()) {
		t.Error("two answers share memory")
	}
}
