package tests

import (
	"math"
	"math/rand"
	"reflect"
	"slices"
	"strings"
	"testing"

	"loop.example/lairage/impl"
)

// checkBinRead holds BinRead against the document's words, and tells the code.
func checkBinRead(t *testing.T, s string) int {
	t.Helper()
	got, code := impl.BinRead(s)
	want, right := plainBinRead(s)
	if code != right || !alike(got, want) {
		t.Fatalf("%q is read as %v, %d, not %v, %d", s, got, code, want, right)
	}
	if code == impl.BinFine && impl.BinOf(got) != s {
		t.Fatalf("%q is read, but has the bytes %q", s, impl.BinOf(got))
	}
	if code != impl.BinFine && !isNothing(got) {
		t.Fatalf("%q is %d, with %v beside", s, code, got)
	}
	return code
}

// expectCode asks for a code, with nothing beside.
func expectCode(t *testing.T, why string, s string, want int) {
	t.Helper()
	if code := checkBinRead(t, s); code != want {
		t.Errorf("%s: %.200q is %d, not %d", why, s, code, want)
	}
}

func TestBinConstants(t *testing.T) {
	codes := []int{impl.BinFine, impl.BinMark, impl.BinShort, impl.BinNum, impl.BinForm, impl.BinLong, impl.BinMost}
	if !slices.Equal(codes, []int{0, 1, 2, 3, 4, 5, 16383}) {
		t.Error(codes)
	}
}

func TestBinOfNum(t *testing.T) {
	for n, want := range map[int]string{
		0: "\x00", 1: "\x01", 126: "\x7e", 127: "\x7f", 128: "\x80\x01", 129: "\x81\x01", 254: "\xfe\x01", 255: "\xff\x01", 256: "\x80\x02", 257: "\x81\x02",
		300: "\xac\x02", 9972: "\xf4\x4d", 16255: "\xff\x7e", 16256: "\x80\x7f", 16382: "\xfe\x7f", 16383: "\xff\x7f",
		// Any other number has none, also where it would be such a number in fewer bits.
		16384: "", 16385: "", 16511: "", 16512: "", 32767: "", 32768: "", 65535: "", 65536: "", 65537: "", 1 << 20: "", 1 << 31: "", 1 << 32: "", 1<<32 + 1: "", 1<<62 + 5: "", math.MaxInt - 1: "", math.MaxInt: "",
		-1: "", -2: "", -127: "", -128: "", -129: "", -255: "", -256: "", -16383: "", -16384: "", -65536: "", -1 << 32: "", -1<<32 + 1: "", math.MinInt + 1: "", math.MinInt: "",
	} {
		if got := impl.BinOfNum(n); got != want {
			t.Errorf("%d: %q, not %q", n, got, want)
		}
	}
	for n := -70000; n <= 70000; n++ {
		want := ""
		if n >= 0 && n < len(plainNumTexts) {
			want = plainNumTexts[n]
		}
		if got := impl.BinOfNum(n); got != want {
			t.Fatalf("%d: %q, not %q", n, got, want)
		}
	}
	if len(plainNumTexts) != impl.BinMost+1 || len(plainNumbers) != impl.BinMost+1 {
		t.Error("two numbers have the same bytes")
	}
}

// expectNumAt asks for a number, the place behind it, and a code.
func expectNumAt(t *testing.T, s string, at int, n int, next int, code int) {
	t.Helper()
	if gotN, gotNext, gotCode := impl.BinNumAt(s, at); gotN != n || gotNext != next || gotCode != code {
		t.Fatalf("%.60q at %d: %d, %d, %d, not %d, %d, %d", s, at, gotN, gotNext, gotCode, n, next, code)
	}
}

// TestBinNumAtReadsBack reads each number back: alone, behind other bytes, and ahead of others.
func TestBinNumAtReadsBack(t *testing.T) {
	for n := 0; n <= impl.BinMost; n++ {
		text := impl.BinOfNum(n)
		expectNumAt(t, text, 0, n, len(text), impl.BinFine)
		for _, ahead := range []string{"\x00", "\x7f", "\x80", "\xff", "a\xffb", "lair", strings.Repeat("\xff", 9)} {
			for _, behind := range []string{"", "\x00", "\x7f", "\x80", "\xff\xff"} {
				expectNumAt(t, ahead+text+behind, len(ahead), n, len(ahead)+len(text), impl.BinFine)
			}
		}
		if len(text) == 2 {
			// What is left of two bytes is no number, and the second one alone is one.
			expectNumAt(t, text[:1], 0, 0, 0, impl.BinShort)
			expectNumAt(t, text, 1, n/128, 2, impl.BinFine)
		}
	}
}

func TestBinNumAtPlaces(t *testing.T) {
	for _, s := range []string{"", "\x00", "\x05", "\x80", "\x80\x01", "\xff\xff", "lair", strings.Repeat("\x07", 300)} {
		for _, at := range []int{math.MinInt, math.MinInt + 1, -1 << 32, -300, -2, -1, len(s), len(s) + 1, len(s) + 2, 1 << 32, 1<<32 + 1, math.MaxInt - 1, math.MaxInt} {
			expectNumAt(t, s, at, 0, 0, impl.BinShort)
		}
	}
}

// TestBinNumAtSecondByte asks each first byte of 128 and more, with each byte behind it and with none.
func TestBinNumAtSecondByte(t *testing.T) {
	for first := 128; first < 256; first++ {
		one := string([]byte{byte(first)})
		expectNumAt(t, one, 0, 0, 0, impl.BinShort)
		expectNumAt(t, "\x80\x01"+one, 2, 0, 0, impl.BinShort)
		for second := range 256 {
			two := one + string([]byte{byte(second)})
			n, next, code := 0, 0, impl.BinNum
			if second >= 1 && second <= 127 {
				n, next, code = first-128+128*second, 2, impl.BinFine
			}
			expectNumAt(t, two, 0, n, next, code)
			expectNumAt(t, two+"\x00", 0, n, next, code)
			expectNumAt(t, two+"\x01\x01", 0, n, next, code)
			if code == impl.BinFine {
				next += 3
			}
			expectNumAt(t, "\x00\x80\xff"+two, 3, n, next, code)
		}
	}
}

// TestBinNumAtOfAll holds it against the document's words, at each place of each text of two bytes, and of made-up longer ones.
func TestBinNumAtOfAll(t *testing.T) {
	check := func(s string) {
		for at := -2; at <= len(s)+2; at++ {
			n, next, code := plainNumAt(s, at)
			expectNumAt(t, s, at, n, next, code)
			if code == impl.BinFine && impl.BinOfNum(n) != s[at:next] {
				t.Fatalf("%q at %d: %d has the bytes %q", s, at, n, impl.BinOfNum(n))
			}
		}
	}
	for first := range 256 {
		check(string([]byte{byte(first)}))
		for second := range 256 {
			check(string([]byte{byte(first), byte(second)}))
		}
	}
	r := rand.New(rand.NewSource(120))
	for range 2000 {
		some := make([]byte, r.Intn(12))
		for at := range some {
			some[at] = byte(r.Intn(256))
		}
		check(string(some))
	}
}

func TestBinByHand(t *testing.T) {
	for _, c := range binCases() {
		p := readProg(t, c.text)
		s := lair(t, c.bytes)
		if got := impl.BinOf(p); got != s {
			t.Errorf("%q: %v, not %v", c.text, []byte(got), []byte(s))
		}
		if got, code := impl.BinRead(s); code != impl.BinFine || !alike(got, p) || impl.ProgText(got) != c.text {
			t.Errorf("%q is read as %v, %d", c.text, got, code)
		}
		if plainBin(p) != s {
			t.Errorf("%q: %q by the document's words", c.text, plainBin(p))
		}
	}
}

// TestBinOfEachIns writes and reads each instruction that is ok.
func TestBinOfEachIns(t *testing.T) {
	kinds := map[int]bool{}
	for i, text := range insNames() {
		kinds[i.Op] = true
		p := smallProg()
		p.Funs[0].Body = []impl.Ins{i}
		want := "lair\x00\x00\x01\x01\x00\x00\x01" + string([]byte{byte(i.Op)})
		numbers := []int{i.A, i.B}[:len(strings.Fields(text))-1]
		for _, n := range numbers {
			if i.Op == impl.InsNull || i.Op == impl.InsTest || i.Op == impl.InsCast {
				n += 2
			}
			want += plainNumTexts[n]
		}
		if got := impl.BinOf(p); got != want {
			t.Fatalf("%s: %q, not %q", text, got, want)
		}
		if got, code := impl.BinRead(want); code != impl.BinFine || !alike(got, p) {
			t.Fatalf("%s is read as %v, %d", text, got, code)
		}
	}
	if len(kinds) != 33 {
		t.Error(len(kinds))
	}
}

// TestBinOfEachField writes and reads each field that is ok, at each place where one can stand.
func TestBinOfEachField(t *testing.T) {
	for text, f := range fieldTexts() {
		want := string([]byte{byte(f.Kind + 4*strings.Count(text, "!"))})
		if f.Kind != impl.FieldNum {
			want += string([]byte{byte(f.Of + 2)})
		}
		types := "\x01\x08" + strings.Repeat("\x01\x00\x00", 7) + "\x05\x00\x01"
		p := smallProg()
		p.Types = groups(append(many(7, box(-1)), last(box(-1, f))))
		check := func(name string, s string, p impl.Prog) {
			if !plainProgOk(p) {
				expectCode(t, name+" of "+text, s, impl.BinForm)
				if got := impl.BinOf(p); got != "" {
					t.Errorf("%s of %s: %q", name, text, got)
				}
				return
			}
			if got := impl.BinOf(p); got != s {
				t.Errorf("%s of %s: %q, not %q", name, text, got, s)
			}
			if got, code := impl.BinRead(s); code != impl.BinFine || !alike(got, p) {
				t.Errorf("%s of %s is read as %v, %d", name, text, got, code)
			}
		}
		check("a type", "lair"+types+want+"\x00\x01\x01\x00\x00\x01\x1d", p)
		types = types[:len(types)-1] + "\x00"
		p.Types[0][7].Fields = nil
		check("all", "lair"+types+"\x02\x01"+want+"\x01\x01\x00\x00\x01\x1d", turned(p, func(p *impl.Prog) { p.Glob = sorts(num(), f) }))
		check("gives", "lair"+types+"\x00\x01"+want+"\x00\x00\x01\x1d", turned(p, func(p *impl.Prog) { p.Funs[0].Gives = f }))
		check("takes", "lair"+types+"\x00\x01\x01\x02"+want+"\x01\x00\x01\x1d", turned(p, func(p *impl.Prog) { p.Funs[0].Takes = sorts(f, num()) }))
		check("own", "lair"+types+"\x00\x01\x01\x00\x02\x01"+want+"\x01\x1d", turned(p, func(p *impl.Prog) { p.Funs[0].Own = sorts(num(), f) }))
	}
}

func TestBinAtBounds(t *testing.T) {
	for name, p := range boundProgs() {
		s := impl.BinOf(p)
		if s != plainBin(p) || s == "" {
			t.Errorf("%s: %q, not %q", name, s, plainBin(p))
		}
		if got, code := impl.BinRead(s); code != impl.BinFine || !alike(got, p) || !impl.ProgSame(got, p) {
			t.Errorf("%s is read as %v, %d", name, got, code)
		}
	}
	// Each number that says how many there are is met exactly in one of these.
	met := map[string]bool{}
	for _, p := range boundProgs() {
		for _, part := range plainParts(p) {
			met[part.name] = met[part.name] || part.n == binMosts[part.name]
		}
	}
	for name := range binMosts {
		if !met[name] {
			t.Errorf("nothing has the most %s", name)
		}
	}
}

func TestBinOfWhatIsNotOk(t *testing.T) {
	told := 0
	for name, p := range badProgs() {
		if got := impl.BinOf(p); got != "" {
			t.Errorf("%s: %q", name, got)
		}
		// What it would be told by is read as nothing, but where that tells another program.
		s, ok := partsText(plainParts(p))
		if !ok || checkBinRead(t, s) == impl.BinFine {
			continue
		}
		told++
		expectCode(t, name, s, impl.BinForm)
		expectCode(t, name+", and a byte", s+"\x00", impl.BinForm)
	}
	if told < 50 {
		t.Error(told)
	}
	for name, turn := range onePartTurns() {
		p := turned(fullProg(), turn)
		if got := impl.BinOf(p); (got != "") != plainProgOk(p) {
			t.Errorf("%s: %q", name, got)
		}
	}
	small := smallProg()
	for _, n := range edgeNumbers() {
		for name, p := range map[string]impl.Prog{
			"up":    turned(small, func(p *impl.Prog) { p.Types = groups(group(box(n))) }),
			"kind":  turned(small, func(p *impl.Prog) { p.Types = groups(group(impl.Type{Kind: n, Up: -1, Fields: sorts(num())})) }),
			"of":    turned(small, func(p *impl.Prog) { p.Funs[0].Gives.Of = n }),
			"field": turned(small, func(p *impl.Prog) { p.Funs[0].Gives.Kind = n }),
			"op":    turned(small, func(p *impl.Prog) { p.Funs[0].Body[0].Op = n }),
			"a":     turned(small, func(p *impl.Prog) { p.Funs[0].Body[0] = impl.Ins{Op: impl.InsNum, A: n} }),
			"b":     turned(small, func(p *impl.Prog) { p.Funs[0].Body[0] = impl.Ins{Op: impl.InsPut, B: n} }),
		} {
			want := ""
			if plainProgOk(p) {
				want = plainBin(p)
			}
			if got := impl.BinOf(p); got != want {
				t.Errorf("%s of %d: %q, not %q", name, n, got, want)
			}
		}
	}
}

// TestBinReadsBack reads many programs back: as they were, and just from their bytes.
func TestBinReadsBack(t *testing.T) {
	r := rand.New(rand.NewSource(121))
	right := 0
	for range 3000 {
		p := someProg(r)
		s := impl.BinOf(p)
		if !plainProgOk(p) {
			if s != "" {
				t.Fatalf("%v: %q", p, s)
			}
			if s, ok := partsText(plainParts(p)); ok {
				checkBinRead(t, s)
				checkBinRead(t, s+"\x00")
			}
			continue
		}
		right++
		if s != plainBin(p) {
			t.Fatalf("%v: %q, not %q", p, s, plainBin(p))
		}
		got, code := impl.BinRead(s)
		if code != impl.BinFine || !alike(got, p) || !impl.ProgSame(got, p) {
			t.Fatalf("%q is read as %v, %d", s, got, code)
		}
		// Text and bytes tell the same program.
		text := impl.ProgText(p)
		if impl.ProgText(got) != text {
			t.Fatalf("%q, not %q", impl.ProgText(got), text)
		}
		if q, ok := impl.ProgRead(text); !ok || impl.BinOf(q) != s {
			t.Fatalf("%q has other bytes than its program", text)
		}
	}
	if right < 1000 || right > 2900 {
		t.Errorf("%d of 3000 are ok", right)
	}
}

// TestBinMeansTheSame runs programs, and what is read from their bytes.
func TestBinMeansTheSame(t *testing.T) {
	r := rand.New(rand.NewSource(122))
	told := 0
	for range 150 {
		p := soundProg(r)
		if r.Intn(2) == 0 {
			p = busyProg(t, r)
		}
		q, code := impl.BinRead(impl.BinOf(p))
		if code != impl.BinFine {
			t.Fatalf("%q is %d", impl.ProgText(p), code)
		}
		if impl.CheckAll(q) != impl.CheckAll(p) {
			t.Fatalf("%q: %v", impl.ProgText(p), impl.CheckAll(q))
		}
		host, plan := someHost(r), somePlan(r)
		m := impl.MeanRun(p, host, 300)
		if !impl.MeanSame(impl.MeanRun(q, host, 300), m) || !impl.EngineSame(impl.EngineRun(q, plan, host, 300), impl.EngineRun(p, plan, host, 300)) {
			t.Fatalf("%q means something else", impl.ProgText(p))
		}
		told += len(m.Outs)
	}
	if told < 100 {
		t.Error(told)
	}
}

// TestBinShort cuts the bytes of programs short at each place.
func TestBinShort(t *testing.T) {
	inNumber := 0
	for _, p := range binProgs(t) {
		s := impl.BinOf(p)
		for at := range len(s) {
			got, code := impl.BinRead(s[:at])
			if code != impl.BinShort || !isNothing(got) {
				t.Fatalf("%q, of %q: %v, %d", s[:at], s, got, code)
			}
			if at > 4 && s[at-1] >= 128 {
				inNumber++
			}
		}
	}
	if inNumber < 50 {
		t.Errorf("%d end inside a number", inNumber)
	}
	for _, s := range []string{"", "l", "la", "lai", "lair", "lair\x80", "lair\xff", "lair\x00", "lair\x00\x00", "lair\x00\x00\x01", "lair\x00\x00\x80", "lair\x04", "lair\x01\x08", "lair\x00\x03", "lair\x00\x00\x05", "lair\x00\x00\x01\x01\x03", "lair\x00\x00\x01\x01\x00\x03", "lair\x00\x00\x01\x01\x00\x00\x1e", "lair\x00\x00\x01\x01\x00\x00\x01\x01", "lair\x00\x00\x01\x01\x00\x00\x01\x01\xf4", "lair\x00\x00\x01\x01\x00\x00\x01\x0e\x00"} {
		expectCode(t, "ends too early", s, impl.BinShort)
	}
}

// TestBinLong puts bytes behind those of programs.
func TestBinLong(t *testing.T) {
	for _, p := range binProgs(t) {
		s := impl.BinOf(p)
		for c := range 256 {
			if got, code := impl.BinRead(s + string([]byte{byte(c)})); code != impl.BinLong || !isNothing(got) {
				t.Fatalf("%q and %d: %v, %d", s, c, got, code)
			}
		}
		for _, more := range []string{s, "lair", "\x80", "\x80\x00", "\xff\xff", strings.Repeat("\x00", 1000)} {
			expectCode(t, "more behind", s+more, impl.BinLong)
		}
	}
	small := impl.BinOf(smallProg())
	for _, c := range []string{"\x00", "\xff", "lair"} {
		if got, code := impl.BinRead(small + strings.Repeat(c, 1000000)); code != impl.BinLong || !isNothing(got) {
			t.Errorf("%v, %d", got, code)
		}
	}
}

// TestBinMark turns each of the first four bytes, with all that may stand behind.
func TestBinMark(t *testing.T) {
	for at := range 4 {
		for c := range 256 {
			if byte(c) == "lair"[at] {
				continue
			}
			wrong := "lair"[:at] + string([]byte{byte(c)})
			whole := impl.BinOf(fullProg())
			for _, behind := range []string{"", "\x00", "\x80", "lair"[at+1:], whole[at+1:], "lair"[at+1:] + "\x05", "lair"[at+1:] + "\x80\x00", "x", whole + "x"} {
				if got, code := impl.BinRead(wrong + behind); code != impl.BinMark || !isNothing(got) {
					t.Fatalf("%q: %v, %d", wrong+behind, got, code)
				}
			}
		}
	}
	for _, s := range []string{"x", "\x00", "lx", "Lair", "laix", "lai\x00", "lairx"[1:], " lair", "riallair", "la\x00ir", "liar", "\xec"} {
		expectCode(t, "another mark", s, impl.BinMark)
	}
	if _, code := impl.BinRead(strings.Repeat("lai", 100000)); code != impl.BinMark {
		t.Error(code)
	}
}

// wrongPairs is two bytes each that are no number.
func wrongPairs() []string {
	return []string{"\x80\x00", "\x81\x00", "\xff\x00", "\x80\x80", "\x80\xff", "\x85\x80", "\xac\xff", "\xff\x80", "\xff\xff"}
}

// TestBinNumAtEachPlace puts two bytes that are no number where each number of a program stands.
func TestBinNumAtEachPlace(t *testing.T) {
	for _, p := range binProgs(t) {
		parts := partsOf(t, p)
		for at, part := range parts {
			ahead, behind := textAhead(parts, at), textBehind(parts, at)
			for _, pair := range append(wrongPairs(), string([]byte{byte(128 + part.n%128), 0})) {
				for _, rest := range []string{"", behind, behind + "\x00", "\xff\xff"} {
					if got, code := impl.BinRead(ahead + pair + rest); code != impl.BinNum || !isNothing(got) {
						t.Fatalf("%q, %q, %q, for %v: %v, %d", ahead, pair, rest, part, got, code)
					}
				}
				if got, code := impl.BinRead(ahead + pair[:1]); code != impl.BinShort || !isNothing(got) {
					t.Fatalf("%q, %q, for %v: %v, %d", ahead, pair[:1], part, got, code)
				}
			}
		}
	}
}

// TestBinFormAtEachPlace puts numbers that nothing can have where each number of a program stands.
func TestBinFormAtEachPlace(t *testing.T) {
	seen := map[string]int{}
	for _, p := range binProgs(t) {
		parts := partsOf(t, p)
		for at, part := range parts {
			ahead, behind := textAhead(parts, at), textBehind(parts, at)
			for _, n := range impossible(part.name) {
				seen[part.name]++
				for _, rest := range []string{"", behind, behind + "\x00", "\x80\x00"} {
					s := ahead + plainNumTexts[n] + rest
					if got, code := impl.BinRead(s); code != impl.BinForm || !isNothing(got) {
						t.Fatalf("%d for %v in %q: %v, %d", n, part, s, got, code)
					}
				}
			}
		}
	}
	for _, name := range []string{"groups", "types", "fields", "glob", "takes", "own", "funs", "body", "field", "type", "op"} {
		if seen[name] < 100 {
			t.Errorf("%d wrong numbers of %s", seen[name], name)
		}
	}
	if len(seen) != 11 {
		t.Error(seen)
	}
}

// TestBinCounts asks for as many as there may be, and for one more, with nothing behind: only the first is too short.
func TestBinCounts(t *testing.T) {
	for name, ahead := range map[string]string{
		"groups": "", "types": "1", "fields": "1 1 1 0", "glob": "0", "funs": "0 0", "takes": "0 0 1 1", "own": "0 0 1 1 0", "body": "0 0 1 1 0 0",
	} {
		s := lair(t, ahead)
		most := binMosts[name]
		for n := 0; n <= most; n++ {
			want := impl.BinShort
			if n == 0 && (name == "funs" || name == "body") {
				want = impl.BinForm
			}
			expectCode(t, name, s+plainNumTexts[n], want)
		}
		for n := most + 1; n <= impl.BinMost; n++ {
			if got, code := impl.BinRead(s + plainNumTexts[n]); code != impl.BinForm || !isNothing(got) {
				t.Fatalf("%d %s: %v, %d", n, name, got, code)
			}
		}
	}
}

// TestBinKinds asks each number as that of a field, of a type and of an instruction, at each place where one stands, with nothing
// behind.
func TestBinKinds(t *testing.T) {
	for _, c := range []struct {
		name  string
		ahead string
		fine  []int
	}{
		{"a type's field", "1 1 1 0 1", []int{1, 2, 3, 5, 6, 7}},
		{"the fourth field", "1 1 1 0 4 1 1 1", []int{1, 2, 3, 5, 6, 7}},
		{"a Glob", "0 1", []int{1, 2, 3, 5, 6, 7}},
		{"the third Glob", "0 3 2 1 1", []int{1, 2, 3, 5, 6, 7}},
		{"a Gives", "0 0 1", []int{1, 2, 3, 5, 6, 7}},
		{"a Takes", "0 0 1 1 1", []int{1, 2, 3, 5, 6, 7}},
		{"an Own", "0 0 1 1 0 1", []int{1, 2, 3, 5, 6, 7}},
		{"a type", "1 1", []int{1, 2, 5, 6}},
		{"the second type", "1 2 1 0 0", []int{1, 2, 5, 6}},
		{"the second group's type", "2 1 1 0 0 1", []int{1, 2, 5, 6}},
	} {
		for n := 0; n <= impl.BinMost; n++ {
			want := impl.BinForm
			if slices.Contains(c.fine, n) {
				want = impl.BinShort
			}
			if got, code := impl.BinRead(lair(t, c.ahead) + plainNumTexts[n]); code != want || !isNothing(got) {
				t.Fatalf("%d as %s: %v, %d", n, c.name, got, code)
			}
		}
	}
	for n := 0; n <= impl.BinMost; n++ {
		want := impl.BinForm
		if n >= 1 && n <= 33 {
			want = impl.BinShort
		}
		for _, ahead := range []string{"0 0 1 1 0 0 2", "0 0 1 1 0 0 4 29 14 0 0", "0 0 2 1 0 0 1 29 1 0 0 2"} {
			if got, code := impl.BinRead(lair(t, ahead) + plainNumTexts[n]); code != want || !isNothing(got) {
				t.Fatalf("%d as an instruction: %v, %d", n, got, code)
			}
		}
	}
}

// TestBinWhatIsNotAskedAtOnce has an Of, an Up and numbers of instructions that are too great: what stands behind is read first.
func TestBinWhatIsNotAskedAtOnce(t *testing.T) {
	asked := map[string]int{}
	for _, p := range binProgs(t)[:60] {
		parts := partsOf(t, p)
		for at, part := range parts {
			if binMosts[part.name] > 0 || binKinds[part.name] != nil {
				continue
			}
			asked[part.name]++
			for _, n := range []int{0, 1, 9, 10, 31, 127, 128, 9973, impl.BinMost} {
				turned := withPart(parts, at, n)
				s, _ := partsText(turned)
				code := checkBinRead(t, s)
				if code != impl.BinFine && code != impl.BinForm {
					t.Fatalf("%q is %d", s, code)
				}
				ahead := textAhead(turned, at+1)
				if at+1 < len(turned) {
					expectCode(t, "ends behind", ahead, impl.BinShort)
					expectCode(t, "ends in a number", ahead+"\x80", impl.BinShort)
					expectCode(t, "no number behind", ahead+"\x80\x00", impl.BinNum)
				}
				expectCode(t, "a byte less", s[:len(s)-1], impl.BinShort)
			}
		}
	}
	for _, name := range []string{"of", "up", "a", "b"} {
		if asked[name] < 10 {
			t.Errorf("%d of %s", asked[name], name)
		}
	}
}

// TestBinFirstOfTwo has two that can be told in one text: the one that is come to first is.
func TestBinFirstOfTwo(t *testing.T) {
	r := rand.New(rand.NewSource(123))
	progs := binProgs(t)
	for range 6000 {
		parts := plainParts(progs[r.Intn(len(progs))])
		var texts []string
		for _, part := range parts {
			texts = append(texts, plainNumTexts[part.n])
		}
		want, first := impl.BinFine, len(parts)
		for range 2 {
			at := r.Intn(len(parts))
			// A place that is wrong already stays as it is.
			if at == first {
				continue
			}
			put, code := wrongPairs()[r.Intn(len(wrongPairs()))], impl.BinNum
			if wrong := impossible(parts[at].name); len(wrong) > 0 && r.Intn(2) == 0 {
				put, code = plainNumTexts[wrong[r.Intn(len(wrong))]], impl.BinForm
			}
			texts[at] = put
			if at < first {
				want, first = code, at
			}
		}
		s := "lair" + strings.Join(texts, "")
		expectCode(t, "two wrong", s, want)
		expectCode(t, "two wrong, and more", s+"\x00", want)
		// It is told of what ends behind it, and of what ends ahead of it that it is too short.
		ahead := "lair" + strings.Join(texts[:first], "")
		expectCode(t, "ends right ahead", ahead, impl.BinShort)
		expectCode(t, "ends right behind", ahead+texts[first], want)
		expectCode(t, "another mark ahead", "lais"+s[4:], impl.BinMark)
	}
	for s, want := range map[string]int{
		"0 0 1 1 0 0 1 34":        impl.BinForm,
		"0 0 1 1 0 0 31 34":       impl.BinForm,
		"5 128 0":                 impl.BinForm,
		"128 0 5":                 impl.BinNum,
		"133 0":                   impl.BinNum,
		"133 1":                   impl.BinForm,
		"133":                     impl.BinShort,
		"4":                       impl.BinShort,
		"1 9":                     impl.BinForm,
		"1 137":                   impl.BinShort,
		"1 8 4":                   impl.BinForm,
		"1 8 1 0 5":               impl.BinForm,
		"1 8 1 0 4 0":             impl.BinForm,
		"1 1 1 9 0 4":             impl.BinForm,
		"1 1 1 9 0 128 128":       impl.BinNum,
		"1 0 4":                   impl.BinForm,
		"1 0 3":                   impl.BinShort,
		"0 0 0 0":                 impl.BinForm,
		"0 0 1 1 0 0 1 1 255 127": impl.BinForm,
		"0 0 1 1 0 0 2 1 255 127": impl.BinShort,
	} {
		expectCode(t, s, lair(t, s), want)
	}
}

// TestBinNotOk reads what can be read whole and is no program, also with bytes behind.
func TestBinNotOk(t *testing.T) {
	for _, c := range notOkCases() {
		s := lair(t, c.bytes)
		expectCode(t, c.why, s, impl.BinForm)
		for _, more := range []string{"\x00", "a", "\x80", "\x80\x00", "\xff", s, "lair", strings.Repeat("\x01", 500)} {
			expectCode(t, c.why+", and more", s+more, impl.BinForm)
		}
		for at := range len(s) {
			expectCode(t, c.why+", cut", s[:at], impl.BinShort)
		}
	}
}

// TestBinNearby turns, strikes and doubles each byte of programs: just what is again the bytes of a program is read.
func TestBinNearby(t *testing.T) {
	codes := map[int]int{}
	check := func(s string) { codes[checkBinRead(t, s)]++ }
	for _, c := range binCases() {
		s := lair(t, c.bytes)
		for at := range s {
			check(s[:at] + s[at+1:])
			check(s[:at] + s[at:at+1] + s[at:])
			for _, put := range "\x00\x01\x02\x03\x04\x05\x06\x07\x08\x09\x0a\x1d\x1e\x1f\x21\x22\x7f" {
				check(s[:at] + string(put) + s[at+1:])
				check(s[:at] + string(put) + s[at:])
			}
			for _, put := range []string{"\x80", "\x81", "\xff", "\x80\x01", "\xff\x7f", "\x80\x00"} {
				check(s[:at] + put + s[at+1:])
				check(s[:at] + put + s[at:])
			}
		}
	}
	for _, code := range []int{impl.BinFine, impl.BinMark, impl.BinShort, impl.BinNum, impl.BinForm, impl.BinLong} {
		if codes[code] < 100 {
			t.Errorf("%d: %d times", code, codes[code])
		}
	}
}

// TestBinMarred turns, strikes, doubles and swaps bytes of made-up programs.
func TestBinMarred(t *testing.T) {
	r := rand.New(rand.NewSource(124))
	progs := binProgs(t)
	fine := 0
	for range 30000 {
		s := impl.BinOf(progs[r.Intn(len(progs))])
		for range 1 + r.Intn(2) {
			at := r.Intn(len(s))
			switch r.Intn(5) {
			case 0:
				s = s[:at] + string([]byte{byte(r.Intn(256))}) + s[at+1:]
			case 1:
				s = s[:at] + string([]byte{byte(r.Intn(12))}) + s[at+1:]
			case 2:
				s = s[:at] + s[at+1:]
			case 3:
				s = s[:at+1] + s[at:]
			case 4:
				to := r.Intn(len(s))
				own := []byte(s)
				own[at], own[to] = own[to], own[at]
				s = string(own)
			}
		}
		if checkBinRead(t, s) == impl.BinFine {
			fine++
		}
	}
	if fine < 1000 || fine > 25000 {
		t.Errorf("%d of 30000 are read", fine)
	}
}

// TestBinOfAnyBytes reads all short texts, and made-up longer ones.
func TestBinOfAnyBytes(t *testing.T) {
	for first := range 256 {
		checkBinRead(t, string([]byte{byte(first)}))
		for second := range 256 {
			checkBinRead(t, "lair"+string([]byte{byte(first), byte(second)}))
		}
	}
	var grow func(s string, left int)
	grow = func(s string, left int) {
		if code := checkBinRead(t, s); left > 0 && code == impl.BinShort {
			// What is wrong already stays so; only what is too short can be gone on with.
			for _, c := range "\x00\x01\x02\x03\x05\x1d" {
				grow(s+string(c), left-1)
			}
		}
	}
	grow("lair", 9)
	r := rand.New(rand.NewSource(125))
	for range 20000 {
		some := make([]byte, r.Intn(40))
		for at := range some {
			some[at] = byte(r.Intn(6))
			if r.Intn(30) == 0 {
				some[at] = byte(r.Intn(256))
			}
		}
		checkBinRead(t, "lair"+string(some))
	}
}

// TestBinWrongStaysWrong puts bytes behind what is not too short: only that there is more behind a program is another code.
func TestBinWrongStaysWrong(t *testing.T) {
	r := rand.New(rand.NewSource(126))
	progs := binProgs(t)
	for range 5000 {
		s := []byte(impl.BinOf(progs[r.Intn(len(progs))]))
		s[r.Intn(len(s))] = byte(r.Intn(256))
		code := checkBinRead(t, string(s))
		if code == impl.BinShort {
			continue
		}
		want := code
		if code == impl.BinFine {
			want = impl.BinLong
		}
		expectCode(t, "more behind", string(s)+string([]byte{byte(r.Intn(256))}), want)
	}
}

// TestBinIsOfOneProgram holds the bytes of programs against one another: none is that of two, or the beginning of another.
func TestBinIsOfOneProgram(t *testing.T) {
	r := rand.New(rand.NewSource(127))
	texts := map[string]string{}
	add := func(p impl.Prog) {
		if !plainProgOk(p) {
			return
		}
		s, text := impl.BinOf(p), plainText(p)
		if known, there := texts[s]; there && known != text {
			t.Fatalf("%q and %q have the same bytes", known, text)
		}
		texts[s] = text
	}
	for _, p := range binProgs(t) {
		add(p)
	}
	for _, turn := range onePartTurns() {
		add(turned(fullProg(), turn))
	}
	for range 1500 {
		p := someProg(r)
		add(p)
		// One that is nearly the same.
		q := bare(p)
		f := &q.Funs[r.Intn(len(q.Funs))]
		switch r.Intn(5) {
		case 0:
			f.Body[r.Intn(len(f.Body))] = someIns(r)
		case 1:
			f.Body = append(f.Body, someIns(r))
		case 2:
			f.Takes, f.Own = f.Own, f.Takes
		case 3:
			q.Glob = append(q.Glob, f.Own...)
		case 4:
			q.Funs = append(q.Funs, *f)
		}
		add(q)
	}
	seen := map[string]bool{}
	var all []string
	for s, text := range texts {
		if seen[text] {
			t.Fatalf("%q has bytes twice", text)
		}
		seen[text] = true
		all = append(all, s)
	}
	if len(all) < 1000 {
		t.Error(len(all))
	}
	// What begins another stands right ahead of one that it begins.
	slices.Sort(all)
	for at := 1; at < len(all); at++ {
		if strings.HasPrefix(all[at], all[at-1]) {
			t.Fatalf("%q begins %q", all[at-1], all[at])
		}
	}
}

// TestBinTurnsNothing calls all of it with room behind each list: nothing is written into what is handed in, and nothing is kept.
func TestBinTurnsNothing(t *testing.T) {
	all := badProgs()
	for name, p := range boundProgs() {
		all[name] = p
	}
	for name, p := range all {
		own := copyProg(p)
		before := spreadProg(own)
		s := impl.BinOf(own)
		if !reflect.DeepEqual(before, spreadProg(own)) {
			t.Errorf("%s is changed", name)
		}
		if again := impl.BinOf(own); again != s {
			t.Errorf("%s: %q, and then %q", name, s, again)
		}
		// What was told stays told when the program is turned.
		told := strings.Clone(s)
		scribbleProg(own)
		if s != told {
			t.Errorf("%s: the bytes are the program's memory", name)
		}
	}
}

// TestBinMemory writes into all lists of an answer, and behind them: no other list shows it, and no later answer.
func TestBinMemory(t *testing.T) {
	for _, p := range binProgs(t) {
		s := impl.BinOf(p)
		got, _ := impl.BinRead(s)
		other, _ := impl.BinRead(s)
		if scribbleProg(got) {
			t.Fatalf("two lists of %q share memory", impl.ProgText(p))
		}
		if again, code := impl.BinRead(s); code != impl.BinFine || !alike(again, p) || !alike(other, p) || impl.BinOf(p) != s {
			t.Fatalf("two answers of %q share memory", impl.ProgText(p))
		}
	}
}
