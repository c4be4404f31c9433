package tests

import (
	"math"
	"math/big"
	"math/rand"
	"strings"
	"testing"

	"loop.example/lairage/impl"
)

func TestInsConstants(t *testing.T) {
	kinds := []int{
		impl.InsNum, impl.InsGet, impl.InsSet, impl.InsTake, impl.InsKeep, impl.InsDrop, impl.InsAdd, impl.InsMul, impl.InsLess, impl.InsChip, impl.InsBack,
		impl.InsNull, impl.InsNew, impl.InsLook, impl.InsPut, impl.InsRow, impl.InsAt, impl.InsLay, impl.InsLen, impl.InsSame, impl.InsNone,
		impl.InsTest, impl.InsCast, impl.InsSure, impl.InsJump, impl.InsIf, impl.InsCall, impl.InsPass, impl.InsRet, impl.InsSay, impl.InsShow, impl.InsAsk, impl.InsSweep,
	}
	for at, row := range insTable() {
		if kinds[at] != row.op {
			t.Errorf("%s is %d, not %d", row.word, kinds[at], row.op)
		}
	}
	if impl.NumMod != 9973 || impl.LocalMost != 6 || impl.GlobMost != 3 || impl.FunMost != 5 || impl.BodyMost != 30 {
		t.Error("a bound is off")
	}
}

func TestInsHas(t *testing.T) {
	for _, row := range insTable() {
		if got := impl.InsHas(row.op); got != len(row.numbers) {
			t.Errorf("%s has %d numbers, not %d", row.word, got, len(row.numbers))
		}
	}
	for _, op := range noKinds() {
		if got := impl.InsHas(op); got != 0 {
			t.Errorf("no kind %d has %d numbers", op, got)
		}
	}
}

// TestInsBounds meets each bound of each number exactly, and then with one more and one less.
func TestInsBounds(t *testing.T) {
	for _, row := range insTable() {
		least, most := impl.Ins{Op: row.op}, impl.Ins{Op: row.op}
		for at, number := range row.numbers {
			*insNumber(&least, at) = number[0]
			*insNumber(&most, at) = number[1]
		}
		for _, i := range []impl.Ins{least, most} {
			if !impl.InsOk(i) {
				t.Errorf("%s: %v is not ok", row.word, i)
			}
		}
		for at := range 2 {
			below, above := least, most
			*insNumber(&below, at)--
			*insNumber(&above, at)++
			for _, i := range []impl.Ins{below, above} {
				if impl.InsOk(i) || impl.InsText(i) != "" {
					t.Errorf("%s: %v is ok, or has the text %q", row.word, i, impl.InsText(i))
				}
			}
		}
	}
}

func insNumber(i *impl.Ins, at int) *int {
	if at == 0 {
		return &i.A
	}
	return &i.B
}

func TestInsNumberWhereThereIsNone(t *testing.T) {
	for _, row := range insTable() {
		for _, n := range edgeNumbers() {
			if n == 0 {
				continue
			}
			if len(row.numbers) == 0 && impl.InsOk(impl.Ins{Op: row.op, A: n}) {
				t.Errorf("%s: A %d", row.word, n)
			}
			if len(row.numbers) < 2 && impl.InsOk(impl.Ins{Op: row.op, B: n}) {
				t.Errorf("%s: B %d", row.word, n)
			}
		}
	}
}

func TestInsWhatAReferenceIsTo(t *testing.T) {
	for _, op := range []int{impl.InsNull, impl.InsTest, impl.InsCast} {
		for n := -20; n < 20; n++ {
			if got, want := impl.InsOk(impl.Ins{Op: op, A: n}), n == impl.OfChip || n == impl.OfAny || 0 <= n && n < impl.KinMost; got != want {
				t.Errorf("%d to %d: %v", op, n, got)
			}
		}
	}
	for _, op := range []int{impl.InsNew, impl.InsLook, impl.InsPut, impl.InsRow, impl.InsAt, impl.InsLay, impl.InsLen} {
		for _, of := range []int{impl.OfChip, impl.OfAny} {
			if i := (impl.Ins{Op: op, A: of}); impl.InsOk(i) || impl.InsText(i) != "" {
				t.Errorf("%v is ok", i)
			}
		}
	}
	for _, text := range []string{"new any", "new chip", "row any", "at chip", "lay any", "len chip", "look any 0", "look chip 0", "put any 1", "put 1 any", "look 1 chip", "num any", "num chip", "get any", "keep chip", "jump any", "if chip", "call any", "pass chip", "sweep any"} {
		if got, ok := impl.InsRead(text); ok {
			t.Errorf("%q is read as %v", text, got)
		}
	}
}

// TestInsAtEdges asks for each kind, and each that is none, at all pairs of the edges: just what the table lists is ok.
func TestInsAtEdges(t *testing.T) {
	texts := insTexts()
	want := map[impl.Ins]string{}
	for text, i := range texts {
		want[i] = text
	}
	ops := noKinds()
	for _, row := range insTable() {
		ops = append(ops, row.op)
	}
	for _, op := range ops {
		for _, a := range edgeNumbers() {
			for _, b := range edgeNumbers() {
				i := impl.Ins{Op: op, A: a, B: b}
				text, ok := want[i]
				if impl.InsOk(i) != ok {
					t.Fatalf("%v: ok is %v", i, !ok)
				}
				if got := impl.InsText(i); got != text {
					t.Fatalf("%v: %q, not %q", i, got, text)
				}
			}
		}
	}
}

// TestInsIsReadAsItWas goes through every instruction that is ok.
func TestInsIsReadAsItWas(t *testing.T) {
	for text, i := range insTexts() {
		if !impl.InsOk(i) {
			t.Fatalf("%v is not ok", i)
		}
		if got := impl.InsText(i); got != text {
			t.Fatalf("%v: %q, not %q", i, got, text)
		}
		if got, ok := impl.InsRead(text); !ok || got != i {
			t.Fatalf("%q is read as %v, %v", text, got, ok)
		}
	}
}

func TestInsLeaves(t *testing.T) {
	leaves := map[int]bool{25: true, 28: true, 29: true}
	ops := noKinds()
	for _, row := range insTable() {
		ops = append(ops, row.op)
	}
	for _, op := range ops {
		for _, n := range edgeNumbers() {
			if got := impl.InsLeaves(impl.Ins{Op: op, A: n, B: -n}); got != leaves[op] {
				t.Errorf("%d with %d: %v", op, n, got)
			}
		}
	}
}

func TestInsTextsThatAreNone(t *testing.T) {
	long := strings.Repeat("9", 400)
	for _, text := range []string{
		"", " ", "  ", "\n", "\x00",
		"fly", "Ret", "RET", "reT", "Num 1", "ret\x00", "any", "chip 0", "any 1", "0", "1", "33", "1 0",
		"num", "num ", "num  1", " num 1", "num 1 ", "num\t1", "num\n1", "num 1\n", "num 1\r\n", "\tret", "ret\n", "num\u00a01", "num\u20031",
		"num1", "n um 1", "num 1 0", "num 1 1", "num 0 0", "ret 0", "drop 1", "add 1 2", "look", "look 1", "look 1 ", "look 1 2 3", "look 1 2 0", "look 12",
		"num 00", "num 01", "num 09", "num 0009972", "get 05", "look 01 2", "look 1 02",
		"num -0", "num +0", "num -1", "num +1", "num - 1", "get -1", "null -1", "null -2", "null +0", "test -3", "cast -2", "sweep -1", "put 0 -1", "put -1 0",
		"num 9973", "num 9974", "num 99720", "get 6", "set 6", "take 3", "keep 3", "null 8", "new 8", "look 8 0", "look 0 4", "put 8 0", "put 0 4",
		"row 8", "at 8", "lay 8", "len 8", "test 8", "cast 8", "jump 30", "if 30", "call 5", "pass 5", "sweep 2",
		"null Any", "null ANY", "null chips", "null an", "null anyy", "null any ", "null any any", "null chip 0", "null null",
		"num 1e3", "num 1.0", "num 0x1", "num 1_0", "num 0b1", "num 0o1", "num one", "num ''",
		"num 2147483648", "num 4294967296", "num 4294967297", "num 9223372036854775807", "num 9223372036854775808", "num 18446744073709551616", "num 18446744073709551617",
		"num " + long, "look 1 " + long, "look " + long + " 1", "num " + strings.Repeat("0", 400), "num " + strings.Repeat("0", 400) + "1",
		"num \u0661", "num \uff11", "num \u00b2", "r\u00e9t", "\u0433et 1", "\ufeffret", "ret\ufeff", "\xff", "ret\xff", "\xc3\x28", "num \xff", "num 1\x80", "\xed\xa0\x80", "num\xa01",
		strings.Repeat("ret ", 1000), strings.Repeat(" ", 1000), strings.Repeat("a", 100000), strings.Repeat("a ", 100000),
	} {
		if got, ok := impl.InsRead(text); ok || got != (impl.Ins{}) {
			t.Errorf("%q is read as %v, %v", text, got, ok)
		}
	}
}

// TestInsTextsNearby turns texts at each place: just those that are again the text of an instruction are read.
func TestInsTextsNearby(t *testing.T) {
	texts := insTexts()
	near := []string{"num 0", "num 10", "num 9972", "num 999", "get 5", "take 2", "keep 0", "drop", "null any", "null chip", "cast 7", "test 0", "look 7 3", "put 0 0", "at 1", "lay 7", "jump 29", "if 3", "call 4", "pass 0", "ret", "say", "sweep 1", "none"}
	for _, text := range near {
		for at := 0; at <= len(text); at++ {
			for c := range 256 {
				put := string([]byte{byte(c)})
				checkRead(t, texts, text[:at]+put+text[at:])
				if at < len(text) {
					checkRead(t, texts, text[:at]+put+text[at+1:])
				}
			}
			if at < len(text) {
				checkRead(t, texts, text[:at]+text[at+1:])
			}
			checkRead(t, texts, text[:at])
			checkRead(t, texts, text[at:])
		}
	}
	words := []string{"", "any", "chip", "0", "1", "7", "8", "29", "30", "00", "9972", "9973", "-1", " "}
	for _, row := range insTable() {
		for _, a := range words {
			checkRead(t, texts, row.word+a)
			checkRead(t, texts, row.word+" "+a)
			for _, b := range words {
				checkRead(t, texts, row.word+" "+a+" "+b)
				checkRead(t, texts, row.word+" "+a+" "+b+" 0")
			}
		}
	}
}

func checkRead(t *testing.T, texts map[string]impl.Ins, text string) {
	t.Helper()
	want, right := texts[text]
	if got, ok := impl.InsRead(text); ok != right || got != want {
		t.Errorf("%q is read as %v, %v, not %v, %v", text, got, ok, want, right)
	}
}

// plainNumDo reckons with numbers of any size, so that nothing can wrap round.
func plainNumDo(op int, a int, b int) int {
	by := big.NewInt(9973)
	x := new(big.Int).Mod(big.NewInt(int64(a)), by)
	y := new(big.Int).Mod(big.NewInt(int64(b)), by)
	switch op {
	case 7:
		return int(x.Mod(x.Add(x, y), by).Int64())
	case 8:
		return int(x.Mod(x.Mul(x, y), by).Int64())
	case 9:
		if x.Cmp(y) < 0 {
			return 1
		}
	}
	return 0
}

func TestNumDoCases(t *testing.T) {
	for _, c := range [][4]int{
		{impl.InsAdd, 0, 0, 0}, {impl.InsAdd, 1, 2, 3}, {impl.InsAdd, 9972, 1, 0}, {impl.InsAdd, 9972, 9972, 9971}, {impl.InsAdd, 4986, 4987, 0}, {impl.InsAdd, 4986, 4986, 9972},
		{impl.InsAdd, -1, 0, 9972}, {impl.InsAdd, -1, 1, 0}, {impl.InsAdd, -9973, 0, 0}, {impl.InsAdd, -9974, 0, 9972}, {impl.InsAdd, 9973, 9973, 0}, {impl.InsAdd, 9974, 19947, 2},
		{impl.InsMul, 0, 5, 0}, {impl.InsMul, 3, 4, 12}, {impl.InsMul, 9972, 9972, 1}, {impl.InsMul, 9972, 2, 9971}, {impl.InsMul, -1, 2, 9971}, {impl.InsMul, -1, -1, 1}, {impl.InsMul, 100, 100, 27}, {impl.InsMul, 9973, 7, 0},
		{impl.InsLess, 1, 2, 1}, {impl.InsLess, 2, 2, 0}, {impl.InsLess, 3, 2, 0}, {impl.InsLess, 0, 9972, 1}, {impl.InsLess, 9972, 9973, 0}, {impl.InsLess, 9973, 1, 1}, {impl.InsLess, -1, 0, 0}, {impl.InsLess, 0, -1, 1}, {impl.InsLess, -2, -1, 1}, {impl.InsLess, -9973, 0, 0},
	} {
		if got := impl.NumDo(c[0], c[1], c[2]); got != c[3] {
			t.Errorf("%v: %d", c, got)
		}
	}
}

func TestNumDoOfNoneOfTheThree(t *testing.T) {
	ops := noKinds()
	for _, row := range insTable() {
		if row.op < 7 || row.op > 9 {
			ops = append(ops, row.op)
		}
	}
	for _, op := range ops {
		for _, a := range edgeNumbers() {
			for _, b := range []int{1, 9972, -1, a, math.MinInt, math.MaxInt} {
				if got := impl.NumDo(op, a, b); got != 0 {
					t.Errorf("%d of %d and %d: %d", op, a, b, got)
				}
			}
		}
	}
}

// TestNumDoStaysBelow holds sums, products and what is less against numbers of any size.
func TestNumDoStaysBelow(t *testing.T) {
	r := rand.New(rand.NewSource(2))
	numbers := append(edgeNumbers(), -9972, -9974, -19946, 19945, 19946, 19947, 99450729, -99450729, math.MinInt32, math.MaxInt32)
	for range 60 {
		numbers = append(numbers, r.Intn(9973), r.Intn(40000)-20000, int(r.Uint64()))
	}
	for op := impl.InsAdd; op <= impl.InsLess; op++ {
		for _, a := range numbers {
			for _, b := range numbers {
				got := impl.NumDo(op, a, b)
				if got < 0 || got >= impl.NumMod || got != plainNumDo(op, a, b) {
					t.Fatalf("%d of %d and %d: %d, not %d", op, a, b, got, plainNumDo(op, a, b))
				}
			}
		}
	}
}
