package tests

import (
	"math"
	"strconv"

	"loop.example/lairage/impl"
)

// insRow is a row of the document's table of kinds: its word, and the least and the greatest of each of its numbers.
type insRow struct {
	op      int
	word    string
	numbers [][2]int
}

// insTable is the document's table, in numbers alone, so that a constant that is off is found too.
func insTable() []insRow {
	one := func(least int, most int) [][2]int { return [][2]int{{least, most}} }
	return []insRow{
		{1, "num", one(0, 9972)},
		{2, "get", one(0, 5)},
		{3, "set", one(0, 5)},
		{4, "take", one(0, 2)},
		{5, "keep", one(0, 2)},
		{6, "drop", nil},
		{7, "add", nil},
		{8, "mul", nil},
		{9, "less", nil},
		{10, "chip", nil},
		{11, "back", nil},
		{12, "null", one(-2, 7)},
		{13, "new", one(0, 7)},
		{14, "look", [][2]int{{0, 7}, {0, 3}}},
		{15, "put", [][2]int{{0, 7}, {0, 3}}},
		{16, "row", one(0, 7)},
		{17, "at", one(0, 7)},
		{18, "lay", one(0, 7)},
		{19, "len", one(0, 7)},
		{20, "same", nil},
		{21, "none", nil},
		{22, "test", one(-2, 7)},
		{23, "cast", one(-2, 7)},
		{24, "sure", nil},
		{25, "jump", one(0, 29)},
		{26, "if", one(0, 29)},
		{27, "call", one(0, 4)},
		{28, "pass", one(0, 4)},
		{29, "ret", nil},
		{30, "say", nil},
		{31, "show", nil},
		{32, "ask", nil},
		{33, "sweep", one(0, 1)},
	}
}

// plainNumber writes a number of an instruction.
func plainNumber(n int) string {
	if n == -1 {
		return "any"
	}
	if n == -2 {
		return "chip"
	}
	return strconv.Itoa(n)
}

// insTexts is every instruction that is ok, by its text: the table spelt out.
func insTexts() map[string]impl.Ins {
	all := map[string]impl.Ins{}
	for _, row := range insTable() {
		if len(row.numbers) == 0 {
			all[row.word] = impl.Ins{Op: row.op}
			continue
		}
		for a := row.numbers[0][0]; a <= row.numbers[0][1]; a++ {
			text := row.word + " " + plainNumber(a)
			if len(row.numbers) == 1 {
				all[text] = impl.Ins{Op: row.op, A: a}
				continue
			}
			for b := row.numbers[1][0]; b <= row.numbers[1][1]; b++ {
				all[text+" "+plainNumber(b)] = impl.Ins{Op: row.op, A: a, B: b}
			}
		}
	}
	return all
}

// noKinds is numbers of no kind of instruction.
func noKinds() []int {
	return []int{math.MinInt, math.MinInt + 1, -1000, -33, -2, -1, 0, 34, 35, 64, 1000, 1<<32 + 1, math.MaxInt - 1, math.MaxInt}
}

// edgeNumbers is numbers at and beside each bound that an instruction has, and far from all of them.
func edgeNumbers() []int {
	return []int{
		math.MinInt, math.MinInt + 1, -1 << 32, -9973, -100, -4, -3, -2, -1,
		0, 1, 2, 3, 4, 5, 6, 7, 8, 9, 10, 28, 29, 30, 31, 33, 34, 100,
		9971, 9972, 9973, 9974, 1 << 32, 1<<32 + 1, math.MaxInt - 1, math.MaxInt,
	}
}
