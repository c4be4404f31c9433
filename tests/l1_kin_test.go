package tests

import (
	"math"
	"math/rand"
	"reflect"
	"slices"
	"testing"

	"loop.example/lairage/impl"
)

// noTypes is numbers of no type, among so many.
func noTypes(count int) []int {
	return []int{math.MinInt, -100, -4, -3, -2, -1, count, count + 1, count + 7, math.MaxInt}
}

// noRefs is numbers of nothing that a reference may be to, among so many types.
func noRefs(count int) []int {
	return []int{math.MinInt, -100, -4, -3, count, count + 1, count + 7, math.MaxInt}
}

func TestFamilyIsOk(t *testing.T) {
	g := family()
	if !impl.KinOk(g) {
		t.Fatal("the family is not ok")
	}
	canon := []int{0, 1, 2, 1, 2, 5, 6}
	lines := [][]int{{0}, {0, 1}, {2}, {0, 1}, {2}, {2, 5}, {0, 6}}
	for a, want := range canon {
		if got := impl.KinCanon(g, a); got != want {
			t.Errorf("canon of %d: %d, not %d", a, got, want)
		}
		if got := impl.KinLine(g, a); !slices.Equal(got, lines[a]) {
			t.Errorf("line of %d: %v, not %v", a, got, lines[a])
		}
		for b := range canon {
			if got, want := impl.KinSame(g, a, b), canon[a] == canon[b]; got != want {
				t.Errorf("same %d %d: %v", a, b, got)
			}
			if got, want := impl.KinUnder(g, a, b), slices.Contains(lines[a], canon[b]); got != want {
				t.Errorf("under %d %d: %v", a, b, got)
			}
		}
	}
}

func TestCountAndTypeOfAnyGroups(t *testing.T) {
	all := badFamilies()
	all["a family"] = family()
	all["nothing"] = nil
	all["empty groups"] = groups(group(), group())
	all["empty ahead, between and behind"] = groups(group(), group(box(-1)), group(), group(), group(row(9, num()), box(5)), group())
	for name, g := range all {
		var flat []impl.Type
		for _, types := range g {
			flat = append(flat, types...)
		}
		if got := impl.KinCount(g); got != len(flat) {
			t.Errorf("%s: count %d, not %d", name, got, len(flat))
		}
		for a, want := range flat {
			got, ok := impl.KinType(g, a)
			if !ok || !sameType(got, want) {
				t.Errorf("%s: type %d: %v %v", name, a, got, ok)
			}
		}
		for _, a := range noTypes(len(flat)) {
			got, ok := impl.KinType(g, a)
			if ok || !sameType(got, impl.Type{}) {
				t.Errorf("%s: type %d, of which there is none: %v %v", name, a, got, ok)
			}
		}
	}
}

func sameType(a impl.Type, b impl.Type) bool {
	return a.Kind == b.Kind && a.Up == b.Up && a.Last == b.Last && slices.Equal(a.Fields, b.Fields)
}

func TestFieldOk(t *testing.T) {
	cases := []struct {
		f    impl.Field
		n    int
		want bool
	}{
		{num(), 0, true}, {num(), 8, true}, {num(), -5, true}, {mut(num()), 3, true},
		{impl.Field{Kind: 1, Of: 1}, 3, false}, {impl.Field{Kind: 1, Of: -1}, 3, false}, {impl.Field{Kind: 1, Of: -2}, 3, false},
		{ref(impl.OfAny), 0, true}, {ref(impl.OfChip), 0, true}, {ref(-3), 9, false}, {ref(0), 1, true}, {ref(0), 0, false},
		{ref(2), 3, true}, {ref(3), 3, false}, {ref(4), 3, false}, {mut(ref(2)), 3, true}, {ref(11), 12, true}, {ref(0), -1, false}, {ref(-1), -1, true},
		{sure(impl.OfAny), 0, true}, {sure(impl.OfChip), 0, true}, {sure(-3), 9, false}, {sure(0), 1, true}, {sure(0), 0, false},
		{sure(2), 3, true}, {sure(3), 3, false}, {mut(sure(0)), 1, true}, {sure(math.MaxInt), math.MaxInt, false}, {sure(math.MinInt), 3, false},
		{ref(0), math.MinInt, false}, {ref(math.MaxInt - 1), math.MaxInt, true},
		{impl.Field{}, 3, false}, {impl.Field{Kind: 4}, 3, false}, {impl.Field{Kind: -1}, 3, false}, {impl.Field{Kind: 5, Mut: true}, 3, false},
	}
	for _, c := range cases {
		if got := impl.FieldOk(c.f, c.n); got != c.want {
			t.Errorf("%v among %d: %v", c.f, c.n, got)
		}
	}
}

// TestOkBounds: each bound is met exactly; one more of each is among badFamilies.
func TestOkBounds(t *testing.T) {
	four := []impl.Field{num(), num(), ref(0), sure(impl.OfChip)}
	good := map[string][][]impl.Type{
		"nothing":           nil,
		"no groups":         {},
		"four groups":       groups(group(box(-1)), group(box(-1)), group(box(-1)), group(box(-1))),
		"eight types":       groups(group(box(-1), box(-1), box(-1), box(-1), box(-1), box(-1), box(-1), box(-1))),
		"eight in four":     groups(group(box(-1), box(-1)), group(box(-1), box(-1)), group(box(-1), box(-1)), group(box(-1), box(-1))),
		"no fields":         groups(group(box(-1))),
		"four fields":       groups(group(box(-1, four...))),
		"row of numbers":    groups(group(row(-1, num()))),
		"row of itself":     groups(group(row(-1, mut(ref(0))))),
		"last with nothing": groups(group(last(box(-1)))),
	}
	for name, g := range good {
		if !impl.KinOk(g) {
			t.Errorf("%s is not ok", name)
		}
	}
	for name, g := range badFamilies() {
		if impl.KinOk(g) {
			t.Errorf("%s is ok", name)
		}
	}
	if impl.KinOk(groups(group())) || impl.KinOk(groups(group(), group(box(-1)))) || impl.KinOk(groups(group(box(-1)), group())) {
		t.Error("an empty group is ok")
	}
	if impl.KinOk(groups(group(box(-1)), group(box(-1)), group(box(-1)), group(box(-1)), group())) {
		t.Error("a fifth group, which is empty, is ok")
	}
	more := append(append([]impl.Field(nil), four...), num())
	if impl.KinOk(groups(group(box(-1, four...), box(0, more...)))) {
		t.Error("a fifth field under four is ok")
	}
	if impl.KinOk(groups(group(box(-1), box(-1), box(-1), box(-1), box(-1), box(-1), box(-1), box(-1), box(-1)))) {
		t.Error("nine types of one group are ok")
	}
}

func TestUp(t *testing.T) {
	cases := []struct {
		name string
		g    [][]impl.Type
		want bool
	}{
		{"-1", groups(group(box(-1), box(-1))), true},
		{"0, below its own", groups(group(box(-1), box(0))), true},
		{"0, of a group ahead", groups(group(box(-1)), group(box(0))), true},
		{"right below its own", groups(group(box(-1), box(0), box(1))), true},
		{"its own", groups(group(box(-1), box(1))), false},
		{"its own, 0", groups(group(box(0))), false},
		{"above its own, in its group", groups(group(box(-1), box(2), box(-1))), false},
		{"above its own, in a group behind", groups(group(box(1)), group(box(-1))), false},
		{"of no type", groups(group(box(-1), box(7))), false},
		{"OfChip", groups(group(box(-1), box(-2))), false},
		{"far below", groups(group(box(-1), box(math.MinInt))), false},
		{"far above", groups(group(box(-1), box(math.MaxInt))), false},
		{"a row under a row", groups(group(row(-1, num()), row(0, num()))), true},
		{"a row under a box", groups(group(box(-1, num()), row(0, num()))), false},
		{"a row under an empty box", groups(group(box(-1), row(0, num()))), false},
		{"a box under a row", groups(group(row(-1, num()), box(0, num()))), false},
		{"to one that is last", groups(group(last(box(-1)), box(0))), false},
		{"from one that is last", groups(group(box(-1), last(box(0)))), true},
		{"to one that is last, over another", groups(group(box(-1), last(box(0)), box(0))), true},
		{"through one that is last", groups(group(box(-1), last(box(0)), box(1))), false},
		{"with more fields", groups(group(box(-1, num()), box(0, num(), ref(0)))), true},
		{"with as many fields", groups(group(box(-1, num(), ref(0)), box(0, num(), ref(0)))), true},
		{"with fewer fields", groups(group(box(-1, num(), ref(0)), box(0, num()))), false},
		{"with no fields", groups(group(box(-1, num()), box(0))), false},
		{"fits the upper, not the uppermost but one", groups(group(box(-1, ref(impl.OfAny)), box(0, ref(0)), box(1, ref(impl.OfAny)))), false},
		{"the second field does not fit", groups(group(box(-1, num(), num()), box(0, num(), ref(0)))), false},
		{"the field behind may be anything", groups(group(box(-1, num()), box(0, num(), mut(sure(impl.OfChip))))), true},
	}
	for _, c := range cases {
		if got := impl.KinOk(c.g); got != c.want {
			t.Errorf("%s: %v", c.name, got)
		}
	}
}

// TestOf: what fields of the first of three groups, and of the second, may name.
func TestOf(t *testing.T) {
	for of := -4; of <= 7; of++ {
		for _, f := range []impl.Field{ref(of), sure(of), mut(ref(of)), mut(sure(of))} {
			first := groups(group(box(-1, f), box(-1)), group(box(-1), box(-1)), group(box(-1)))
			if got, want := impl.KinOk(first), of >= -2 && of <= 1; got != want {
				t.Errorf("%v in a group up to 1: %v", f, got)
			}
			second := groups(group(box(-1), box(-1)), group(row(-1, f), box(-1)), group(box(-1)))
			if got, want := impl.KinOk(second), of >= -2 && of <= 3; got != want {
				t.Errorf("%v in a group up to 3: %v", f, got)
			}
		}
	}
	if impl.KinOk(groups(group(box(-1, num(), num(), num(), impl.Field{Kind: 1, Of: 1})))) {
		t.Error("a number that is to a type")
	}
}

// TestFits: a field of a lower type (3 is under 2, and 4 is as 2) over one of an upper one, in both ways of Mut.
func TestFits(t *testing.T) {
	ahead := func() [][]impl.Type {
		return groups(group(box(-1)), group(box(-1, num()), box(1, num())), group(box(-1, num()), box(3, num())))
	}
	// By what is wanted and what is there: 0 not at all, 1 if it is not turned, 2 also if it may be.
	cases := []struct {
		upper, lower impl.Field
		want         int
	}{
		{num(), num(), 2}, {num(), ref(-1), 0}, {ref(-1), num(), 0}, {num(), sure(0), 0}, {sure(-1), num(), 0},
		{ref(-1), ref(-1), 2}, {ref(-1), ref(-2), 1}, {ref(-1), ref(0), 1}, {ref(-2), ref(-1), 0}, {ref(0), ref(-1), 0}, {ref(-2), ref(-2), 2}, {ref(-2), ref(0), 0}, {ref(0), ref(-2), 0},
		{ref(-1), sure(-1), 1}, {sure(-1), ref(-1), 0}, {sure(-1), sure(-1), 2}, {sure(-1), sure(-2), 1}, {sure(-1), sure(2), 1}, {ref(-1), sure(2), 1},
		{ref(1), ref(1), 2}, {ref(1), ref(2), 1}, {ref(2), ref(1), 0}, {ref(1), sure(2), 1}, {sure(1), ref(2), 0}, {sure(1), sure(2), 1},
		{ref(1), ref(3), 2}, {ref(3), ref(1), 2}, {sure(2), sure(4), 2}, {ref(3), ref(2), 1}, {ref(1), ref(4), 1}, {ref(4), ref(1), 0},
		{ref(2), sure(4), 1}, {ref(0), ref(1), 0}, {ref(1), ref(0), 0},
	}
	for _, c := range cases {
		for _, both := range []struct {
			upper, lower impl.Field
			want         bool
		}{
			{c.upper, c.lower, c.want >= 1},
			{mut(c.upper), mut(c.lower), c.want == 2},
			{mut(c.upper), c.lower, false},
			{c.upper, mut(c.lower), false},
		} {
			boxes := append(ahead(), group(box(-1, both.upper), box(5, both.lower)))
			rows := append(ahead(), group(row(-1, both.upper), row(5, both.lower)))
			behind := append(ahead(), group(box(-1, num(), both.upper), box(5, num(), both.lower, num())))
			for _, g := range [][][]impl.Type{boxes, rows, behind} {
				if got := impl.KinOk(g); got != both.want {
					t.Errorf("%v under %v: %v", both.lower, both.upper, got)
				}
			}
			g := ahead()
			if got := impl.FieldUnder(g, both.lower, both.upper); got != (c.want >= 1) {
				t.Errorf("field %v under %v: %v", both.lower, both.upper, got)
			}
		}
	}
}

// TestFitsWithinItsGroup: what fits may hang on types of the same group, and on one behind.
func TestFitsWithinItsGroup(t *testing.T) {
	cases := []struct {
		name string
		g    [][]impl.Type
		want bool
	}{
		{"to itself under to itself", groups(group(box(-1, ref(0)), box(0, ref(1)))), true},
		{"to itself under to itself, turned", groups(group(box(-1, mut(ref(0))), box(0, mut(ref(1))))), false},
		{"to the upper one, turned", groups(group(box(-1, mut(ref(0))), box(0, mut(ref(0))))), true},
		{"to one behind that is under", groups(group(box(-1, ref(0)), box(0, sure(2)), box(1, sure(2)))), true},
		{"to one behind that is not under", groups(group(box(-1, ref(0)), box(0, sure(2)), box(-1, sure(2)))), false},
		{"wants one behind", groups(group(box(-1, ref(2)), box(0, ref(3)), box(-1), box(2))), true},
		{"wants one behind, which is under", groups(group(box(-1, ref(3)), box(0, ref(2)), box(-1), box(2))), false},
		{"a row of rows", groups(group(row(-1, ref(0)), row(0, sure(1)))), true},
	}
	for _, c := range cases {
		if got := impl.KinOk(c.g); got != c.want {
			t.Errorf("%s: %v", c.name, got)
		}
	}
}

// TestWrittenAlike: a group that is written twice, and what is different by one part.
func TestWrittenAlike(t *testing.T) {
	base := groups(group(box(-1, ref(impl.OfAny))), group(box(-1, ref(impl.OfAny))))
	first := group(box(0, ref(3), num()), row(-1, mut(sure(2))))
	cases := []struct {
		name   string
		second []impl.Type
		want   bool
	}{
		{"alike", group(box(0, ref(5), num()), row(-1, mut(sure(4)))), true},
		{"by the other that is the same", group(box(1, ref(5), num()), row(-1, mut(sure(4)))), true},
		{"by names of the other group", group(box(0, ref(3), num()), row(-1, mut(sure(2)))), false},
		{"one more type", group(box(0, ref(5), num()), row(-1, mut(sure(4))), box(-1)), false},
		{"one fewer", group(box(0, ref(4), num())), false},
		{"in another order", group(row(-1, mut(sure(5))), box(0, ref(4), num())), false},
		{"last", group(last(box(0, ref(5), num())), row(-1, mut(sure(4)))), false},
		{"last, the second", group(box(0, ref(5), num()), last(row(-1, mut(sure(4))))), false},
		{"another up", group(box(-1, ref(5), num()), row(-1, mut(sure(4)))), false},
		{"another kind of type", group(box(0, ref(5), num()), box(-1, mut(sure(4)))), false},
		{"another kind of field", group(box(0, sure(5), num()), row(-1, mut(sure(4)))), false},
		{"another kind of field behind", group(box(0, ref(5), num()), row(-1, mut(ref(4)))), false},
		{"one more field", group(box(0, ref(5), num(), num()), row(-1, mut(sure(4)))), false},
		{"one field fewer", group(box(0, ref(5)), row(-1, mut(sure(4)))), false},
		{"not turned", group(box(0, ref(5), num()), row(-1, sure(4))), false},
		{"may be turned", group(box(0, ref(5), mut(num())), row(-1, mut(sure(4)))), false},
		{"to another of the group", group(box(0, ref(4), num()), row(-1, mut(sure(4)))), false},
		{"to any", group(box(0, ref(impl.OfAny), num()), row(-1, mut(sure(4)))), false},
		{"to a chip", group(box(0, ref(impl.OfChip), num()), row(-1, mut(sure(4)))), false},
		{"to one ahead", group(box(0, ref(0), num()), row(-1, mut(sure(4)))), false},
	}
	for _, c := range cases {
		g := append(append([][]impl.Type(nil), base...), first, c.second)
		if !impl.KinOk(g) {
			t.Errorf("%s: not ok", c.name)
			continue
		}
		count := impl.KinCount(g)
		for a := 2; a < 4; a++ {
			for b := 4; b < count; b++ {
				want := c.want && b == a+2
				if impl.KinSame(g, a, b) != want || impl.KinSame(g, b, a) != want {
					t.Errorf("%s: same %d %d is not %v", c.name, a, b, want)
				}
			}
		}
		for b := 4; b < count; b++ {
			want := b
			if c.want {
				want = b - 2
			}
			if got := impl.KinCanon(g, b); got != want {
				t.Errorf("%s: canon of %d is %d", c.name, b, got)
			}
		}
	}
}

// TestAheadOrWithin: a name of a group's own place and one of a type ahead never match, nor do numbers that merely look alike.
func TestAheadOrWithin(t *testing.T) {
	cases := []struct {
		name string
		g    [][]impl.Type
		a, b int
		want bool
	}{
		{"itself, and the first one", groups(group(box(-1, ref(0))), group(box(-1, ref(0)))), 0, 1, false},
		{"itself, and itself", groups(group(box(-1, ref(0))), group(box(-1, ref(1)))), 0, 1, true},
		{"the first one, twice", groups(group(box(-1, ref(0))), group(box(-1, ref(0))), group(box(-1, ref(0)))), 1, 2, true},
		{"the first one, and what is the same as it", groups(group(box(-1)), group(box(-1)), group(box(-1, ref(0))), group(box(-1, ref(1)))), 2, 3, true},
		{"two that are alike in one group", groups(group(box(-1), box(-1))), 0, 1, false},
		{"two that are alike in one group, written twice", groups(group(box(-1), box(-1)), group(box(-1), box(-1))), 0, 2, true},
		{"at another place", groups(group(box(-1), box(-1)), group(box(-1), box(-1))), 0, 3, false},
		{"alike, in groups that are not", groups(group(box(-1)), group(box(-1), box(-1))), 0, 1, false},
		{"chains written twice", groups(group(box(-1)), group(box(-1, ref(0))), group(box(-1)), group(box(-1, ref(2)))), 1, 3, true},
		{"chains that are not", groups(group(box(-1)), group(box(-1, ref(0))), group(last(box(-1))), group(box(-1, ref(2)))), 1, 3, false},
		{"up within, and up ahead", groups(group(box(-1), box(0)), group(box(-1), box(0))), 1, 3, false},
		{"up within, twice", groups(group(box(-1), box(0)), group(box(-1), box(2))), 1, 3, true},
		{"up ahead by what is the same", groups(group(box(-1)), group(box(-1)), group(box(0)), group(box(1))), 2, 3, true},
		{"numbers in a row", groups(group(box(-1, num()), box(-1)), group(box(-1), box(-1, num()))), 0, 2, false},
	}
	for _, c := range cases {
		if !impl.KinOk(c.g) {
			t.Errorf("%s: not ok", c.name)
		}
		if got := impl.KinSame(c.g, c.a, c.b); got != c.want {
			t.Errorf("%s: %v", c.name, got)
		}
		if got := impl.KinSame(c.g, c.b, c.a); got != c.want {
			t.Errorf("%s, the other way: %v", c.name, got)
		}
	}
}

// TestThreeAlike: of three groups that are written alike the first one counts.
func TestThreeAlike(t *testing.T) {
	g := groups(
		group(box(-1, ref(1)), box(0, ref(1))),
		group(box(-1, ref(3)), box(2, ref(3))),
		group(box(-1, ref(5)), box(4, ref(5))),
		group(box(5, ref(1)), box(3, sure(5))),
	)
	if !impl.KinOk(g) {
		t.Fatal("not ok")
	}
	for a, want := range []int{0, 1, 0, 1, 0, 1, 6, 7} {
		if got := impl.KinCanon(g, a); got != want {
			t.Errorf("canon of %d: %d", a, got)
		}
	}
}

func TestChipAndAny(t *testing.T) {
	for name, g := range map[string][][]impl.Type{"no groups": nil, "a family": family()} {
		cases := []struct {
			a, b int
			want bool
		}{{-1, -1, true}, {-2, -2, true}, {-2, -1, true}, {-1, -2, false}}
		for _, c := range cases {
			if got := impl.KinUnder(g, c.a, c.b); got != c.want {
				t.Errorf("%s: under %d %d: %v", name, c.a, c.b, got)
			}
		}
		for a := range impl.KinCount(g) {
			if !impl.KinUnder(g, a, -1) || impl.KinUnder(g, -1, a) || impl.KinUnder(g, a, -2) || impl.KinUnder(g, -2, a) {
				t.Errorf("%s: %d among any and chip", name, a)
			}
		}
	}
}

func TestNumbersOfNoType(t *testing.T) {
	for name, g := range map[string][][]impl.Type{"no groups": nil, "a family": family()} {
		count := impl.KinCount(g)
		for _, a := range noTypes(count) {
			if impl.KinCanon(g, a) != -1 || len(impl.KinLine(g, a)) != 0 || impl.KinSame(g, a, a) {
				t.Errorf("%s: %d is as a type", name, a)
			}
			for b := -3; b <= count; b++ {
				if impl.KinSame(g, a, b) || impl.KinSame(g, b, a) {
					t.Errorf("%s: same %d %d", name, a, b)
				}
			}
		}
		for _, a := range noRefs(count) {
			for b := -3; b <= count; b++ {
				if impl.KinUnder(g, a, b) || impl.KinUnder(g, b, a) || impl.KinUnder(g, a, a) {
					t.Errorf("%s: under %d %d", name, a, b)
				}
			}
			for _, f := range []impl.Field{num(), ref(-1), sure(-1), ref(-2), sure(a), ref(a)} {
				for _, e := range []impl.Field{ref(a), sure(a)} {
					if impl.FieldUnder(g, f, e) || impl.FieldUnder(g, e, f) {
						t.Errorf("%s: field %v under %v, or over", name, f, e)
					}
				}
			}
		}
		for _, f := range []impl.Field{{}, {Kind: 4}, {Kind: 1, Of: 1}, {Kind: 1, Of: -1}} {
			if impl.FieldUnder(g, f, f) || impl.FieldUnder(g, f, num()) || impl.FieldUnder(g, num(), f) || impl.FieldUnder(g, f, ref(-1)) || impl.FieldUnder(g, sure(-1), f) {
				t.Errorf("%s: field %v is ok", name, f)
			}
		}
	}
}

func TestGroupsThatAreNotOk(t *testing.T) {
	for name, g := range badFamilies() {
		for a := -3; a <= impl.KinCount(g); a++ {
			if impl.KinCanon(g, a) != -1 || len(impl.KinLine(g, a)) != 0 {
				t.Errorf("%s: canon or line of %d", name, a)
			}
			for b := -3; b <= impl.KinCount(g); b++ {
				if impl.KinSame(g, a, b) || impl.KinUnder(g, a, b) || impl.FieldUnder(g, sure(a), ref(b)) {
					t.Errorf("%s: %d and %d", name, a, b)
				}
			}
		}
		if impl.FieldUnder(g, num(), num()) || impl.KinUnder(g, -2, -1) || impl.KinUnder(g, -1, -1) {
			t.Errorf("%s: of what is no type", name)
		}
	}
}

func TestIn(t *testing.T) {
	cases := []struct {
		line, to []int
		want     bool
	}{
		{nil, nil, false}, {[]int{0}, nil, false}, {nil, []int{0}, false}, {[]int{1, 2}, []int{}, false},
		{[]int{0}, []int{0}, true}, {[]int{0}, []int{1}, false}, {[]int{0, 1}, []int{0}, true}, {[]int{0, 1}, []int{1}, false},
		{[]int{0, 1}, []int{0, 1}, true}, {[]int{0, 1}, []int{7, 1}, true}, {[]int{0, 1}, []int{0, 2}, false}, {[]int{0, 1}, []int{0, 1, 1}, false},
		{[]int{5, 6, 7}, []int{0, 6}, true}, {[]int{5, 6, 7}, []int{0, 5}, false}, {[]int{-9, math.MaxInt}, []int{3, math.MaxInt}, true},
	}
	for _, c := range cases {
		if got := impl.KinIn(c.line, c.to); got != c.want {
			t.Errorf("%v leads to %v: %v", c.line, c.to, got)
		}
	}
}

// TestFieldUnderMut: Mut makes no difference to FieldUnder.
func TestFieldUnderMut(t *testing.T) {
	g := family()
	for _, a := range []impl.Field{num(), ref(-1), ref(-2), ref(0), sure(1), sure(5)} {
		for _, b := range []impl.Field{num(), ref(-1), sure(-1), ref(0), sure(3), ref(2)} {
			want := impl.FieldUnder(g, a, b)
			if impl.FieldUnder(g, mut(a), b) != want || impl.FieldUnder(g, a, mut(b)) != want || impl.FieldUnder(g, mut(a), mut(b)) != want {
				t.Errorf("%v under %v", a, b)
			}
		}
	}
}

// TestAsTheDocumentSays holds all of chapter 1 against its words, on many groups.
func TestAsTheDocumentSays(t *testing.T) {
	r := rand.New(rand.NewSource(1))
	ok, same, under := 0, 0, 0
	for range 6000 {
		g := someGroups(r)
		want := plainOk(g)
		if impl.KinOk(g) != want {
			t.Fatalf("ok is not %v: %v", want, g)
		}
		if !want {
			continue
		}
		ok++
		count := impl.KinCount(g)
		for a := range count {
			if impl.KinCanon(g, a) != plainCanon(g, a) || !slices.Equal(impl.KinLine(g, a), plainLine(g, a)) {
				t.Fatalf("canon or line of %d: %v", a, g)
			}
			for b := range count {
				isSame, isUnder := plainSame(g, a, b), plainUnder(g, a, b)
				if impl.KinSame(g, a, b) != isSame || impl.KinUnder(g, a, b) != isUnder {
					t.Fatalf("%d and %d: %v", a, b, g)
				}
				if isSame && a != b {
					same++
				}
				if isUnder && !isSame {
					under++
				}
			}
		}
		for range 20 {
			a, b := someField(r, count), someField(r, count)
			if impl.FieldUnder(g, a, b) != plainFieldUnder(g, a, b) {
				t.Fatalf("field %v under %v: %v", a, b, g)
			}
		}
	}
	// Else the groups would say nothing.
	if ok < 1000 || same < 1000 || under < 1000 {
		t.Errorf("too few: %d ok, %d same, %d under", ok, same, under)
	}
}

// TestLaws holds promise 1 as laws: same is alike both ways and through, under goes through, lines lead to just what is above.
func TestLaws(t *testing.T) {
	r := rand.New(rand.NewSource(2))
	for range 1500 {
		g := someGroups(r)
		if !impl.KinOk(g) {
			continue
		}
		count := impl.KinCount(g)
		for a := range count {
			line := impl.KinLine(g, a)
			if len(line) == 0 || line[len(line)-1] != impl.KinCanon(g, a) || !impl.KinSame(g, a, impl.KinCanon(g, a)) {
				t.Fatalf("%d is not at the end of its line: %v", a, g)
			}
			for b := range count {
				under := impl.KinUnder(g, a, b)
				if impl.KinSame(g, a, b) != impl.KinSame(g, b, a) || impl.KinSame(g, a, b) != (under && impl.KinUnder(g, b, a)) {
					t.Fatalf("same both ways, %d and %d: %v", a, b, g)
				}
				if impl.KinIn(line, impl.KinLine(g, b)) != under {
					t.Fatalf("the line of %d and %d: %v", a, b, g)
				}
				for c := range count {
					if impl.KinSame(g, a, b) && impl.KinSame(g, b, c) && !impl.KinSame(g, a, c) || under && impl.KinUnder(g, b, c) && !impl.KinUnder(g, a, c) {
						t.Fatalf("through %d, %d and %d: %v", a, b, c, g)
					}
				}
			}
		}
	}
}

// callAll calls each function of chapter 1 that takes groups.
func callAll(g [][]impl.Type) {
	impl.KinCount(g)
	impl.KinOk(g)
	for a := -3; a <= impl.KinCount(g); a++ {
		impl.KinType(g, a)
		impl.KinCanon(g, a)
		impl.KinLine(g, a)
		for b := -3; b <= impl.KinCount(g); b++ {
			impl.KinSame(g, a, b)
			impl.KinUnder(g, a, b)
			impl.FieldUnder(g, sure(a), ref(b))
		}
	}
}

func TestNoArgumentIsChanged(t *testing.T) {
	all := badFamilies()
	all["a family"] = family()
	for name, g := range all {
		mine := copyGroups(g)
		before := spread(mine)
		callAll(mine)
		if !reflect.DeepEqual(before, spread(mine)) {
			t.Errorf("%s was changed", name)
		}
	}
	line, to := []int{3, 4, 5}, []int{3, 4, 9}
	impl.KinIn(line[:2], to[:2])
	if !slices.Equal(line, []int{3, 4, 5}) || !slices.Equal(to, []int{3, 4, 9}) {
		t.Error("a line was changed")
	}
}

func TestAnswersAreNewMemory(t *testing.T) {
	mine := copyGroups(family())
	before := spread(mine)
	for a := range impl.KinCount(mine) {
		got, _ := impl.KinType(mine, a)
		other, _ := impl.KinType(mine, a)
		keep := append([]impl.Field(nil), other.Fields...)
		fields := got.Fields[:cap(got.Fields)]
		for i := range fields {
			fields[i] = impl.Field{Kind: 9, Of: 9, Mut: true}
		}
		if !slices.Equal(other.Fields, keep) {
			t.Errorf("two answers share fields of %d", a)
		}
		line, again := impl.KinLine(mine, a), impl.KinLine(mine, a)
		for i := range line[:cap(line)] {
			line[:cap(line)][i] = 99
		}
		if slices.Contains(again, 99) {
			t.Errorf("two answers share the line of %d", a)
		}
	}
	if !reflect.DeepEqual(before, spread(mine)) {
		t.Error("an answer shares memory with the groups")
	}
}

// TestNothingIsKept: the same answers, whatever was asked between.
func TestNothingIsKept(t *testing.T) {
	g := groups(group(box(-1), box(0)), group(box(-1), box(2)))
	first := impl.KinLine(g, 3)
	for _, bad := range badFamilies() {
		callAll(bad)
	}
	g[0][1].Last = true
	if !impl.KinOk(g) || impl.KinSame(g, 1, 3) || impl.KinCanon(g, 3) != 3 {
		t.Error("what was asked before is kept")
	}
	g[0][1].Last = false
	if !impl.KinSame(g, 1, 3) || !slices.Equal(first, impl.KinLine(g, 3)) {
		t.Error("another answer")
	}
}
