package impl

import (
	"slices"
	"strconv"
)

// Field is what may stand somewhere: a number, or a reference to what, that may be none or not; and whether it may be turned.
type Field struct {
	Kind int
	Of   int
	Mut  bool
}

// Type is a box of fields, or a row of one sort of them, under another type or none, and whether nothing may be under it.
type Type struct {
	Kind   int
	Up     int
	Last   bool
	Fields []Field
}

// Kinds of fields and of types, what a reference may be to but for a type, and bounds.
const (
	FieldNum  = 1
	FieldRef  = 2
	FieldSure = 3
	TypeBox   = 1
	TypeRow   = 2
	OfAny     = -1
	OfChip    = -2
	KinGroups = 4
	KinMost   = 8
	FieldMost = 4
)

// kinRow is a type in the flat table, with the numbers at which its group begins and ends.
type kinRow struct {
	typ   Type
	begin int
	end   int
}

// kinTable is ok groups in one table, with the least number that is the same as each.
type kinTable struct {
	rows  []kinRow
	canon []int
}

// KinCount is how many types there are.
func KinCount(g [][]Type) int {
	count := 0
	for _, group := range g {
		count += len(group)
	}
	return count
}

// KinType is a type by its number.
func KinType(g [][]Type, a int) (Type, bool) {
	rows := kinFlat(g)
	if a < 0 || a >= len(rows) {
		return Type{}, false
	}
	found := rows[a].typ
	// The caller may write into what it gets, so the fields are copied.
	found.Fields = append([]Field(nil), found.Fields...)
	return found, true
}

// KinOk says whether groups of types are right.
func KinOk(g [][]Type) bool {
	_, ok := kinTableOf(g)
	return ok
}

// KinSame says whether two types are the same.
func KinSame(g [][]Type, a int, b int) bool {
	canon := KinCanon(g, a)
	return canon >= 0 && canon == KinCanon(g, b)
}

// KinUnder says whether what is of one may stand for the other.
func KinUnder(g [][]Type, a int, b int) bool {
	table, ok := kinTableOf(g)
	return ok && table.isRef(a) && table.isRef(b) && table.under(a, b)
}

// KinCanon is the first type that is the same.
func KinCanon(g [][]Type, a int) int {
	table, ok := kinTableOf(g)
	if !ok || !table.isType(a) {
		return -1
	}
	return table.canon[a]
}

// KinLine is a type and all above it, the uppermost first.
func KinLine(g [][]Type, a int) []int {
	table, ok := kinTableOf(g)
	if !ok || !table.isType(a) {
		return nil
	}
	var line []int
	for above := range table.upward(a) {
		line = append(line, table.canon[above])
	}
	slices.Reverse(line)
	return line
}

// KinIn says whether a line leads to a type.
func KinIn(line []int, to []int) bool {
	if len(to) == 0 || len(line) < len(to) {
		return false
	}
	last := len(to) - 1
	return line[last] == to[last]
}

// FieldOk says whether a field is right among so many types.
func FieldOk(f Field, n int) bool {
	switch f.Kind {
	case FieldNum:
		return f.Of == 0
	case FieldRef, FieldSure:
		return f.Of == OfAny || f.Of == OfChip || f.Of >= 0 && f.Of < n
	}
	return false
}

// FieldUnder says whether what is of one sort may stand where the other is wanted.
func FieldUnder(g [][]Type, a Field, b Field) bool {
	table, ok := kinTableOf(g)
	return ok && table.fieldUnder(a, b)
}

// kinFlat is the flat table of any groups.
func kinFlat(g [][]Type) []kinRow {
	var rows []kinRow
	for _, group := range g {
		begin := len(rows)
		for _, t := range group {
			rows = append(rows, kinRow{typ: t, begin: begin, end: begin + len(group)})
		}
	}
	return rows
}

// kinTableOf is the table of groups, and whether they are ok.
func kinTableOf(g [][]Type) (kinTable, bool) {
	if !kinFewEnough(g) {
		return kinTable{}, false
	}
	rows := kinFlat(g)
	// What is the same, and what is above, is asked only once each Up leads backwards and no name leads behind its group: so it ends.
	for a := range rows {
		if !kinWellFormed(rows, a) {
			return kinTable{}, false
		}
	}
	table := kinTable{rows: rows, canon: kinCanons(rows)}
	for a := range rows {
		if !table.fitsAbove(a) {
			return kinTable{}, false
		}
	}
	return table, true
}

// kinFewEnough says whether there are no more groups and types than there may be, and no empty group.
func kinFewEnough(g [][]Type) bool {
	if len(g) > KinGroups {
		return false
	}
	for _, group := range g {
		if len(group) == 0 {
			return false
		}
	}
	return KinCount(g) <= KinMost
}

// kinWellFormed says whether a type is right by itself, and by the form of the one above it.
func kinWellFormed(rows []kinRow, a int) bool {
	row := rows[a]
	if !kinFieldsFew(row.typ) {
		return false
	}
	for _, f := range row.typ.Fields {
		if !FieldOk(f, row.end) {
			return false
		}
	}
	up := row.typ.Up
	if up == -1 {
		return true
	}
	if up < 0 || up >= a {
		return false
	}
	upper := rows[up].typ
	return upper.Kind == row.typ.Kind && !upper.Last && len(upper.Fields) <= len(row.typ.Fields)
}

// kinFieldsFew says whether a type is of a kind that may have so many fields.
func kinFieldsFew(t Type) bool {
	switch t.Kind {
	case TypeBox:
		return len(t.Fields) <= FieldMost
	case TypeRow:
		return len(t.Fields) == 1
	}
	return false
}

// kinCanons is the least number that is the same as each type of well-formed rows.
func kinCanons(rows []kinRow) []int {
	canon := make([]int, len(rows))
	firsts := map[string]int{}
	for begin := 0; begin < len(rows); begin = rows[begin].end {
		written := kinWritten(rows, canon, begin)
		first, known := firsts[written]
		if !known {
			first = begin
			firsts[written] = begin
		}
		for a := begin; a < rows[begin].end; a++ {
			canon[a] = first + a - begin
		}
	}
	return canon
}

// kinWritten is a text that groups have in common just if they are written alike; canon is known ahead of the group.
func kinWritten(rows []kinRow, canon []int, begin int) string {
	written := ""
	for _, row := range rows[begin:rows[begin].end] {
		written += strconv.Itoa(row.typ.Kind) + " " + strconv.FormatBool(row.typ.Last) + " " + kinNamed(canon, begin, row.typ.Up)
		for _, f := range row.typ.Fields {
			written += "," + strconv.Itoa(f.Kind) + " " + strconv.FormatBool(f.Mut)
			if f.Kind != FieldNum {
				written += " " + kinNamed(canon, begin, f.Of)
			}
		}
		written += ";"
	}
	return written
}

// kinNamed tells what a number names, out of a group that begins there: the same text just if it matches.
func kinNamed(canon []int, begin int, of int) string {
	if of < 0 {
		return strconv.Itoa(of)
	}
	// A mark of its own, as a place of the group and a number ahead of it never match.
	if of >= begin {
		return "+" + strconv.Itoa(of-begin)
	}
	return strconv.Itoa(canon[of])
}

// isType says whether a number is that of a type.
func (t kinTable) isType(a int) bool {
	return a >= 0 && a < len(t.rows)
}

// isRef says whether a number is what a reference may be to.
func (t kinTable) isRef(a int) bool {
	return a == OfAny || a == OfChip || t.isType(a)
}

// upward yields a type's number, and those of all above it.
func (t kinTable) upward(a int) func(yield func(int) bool) {
	return func(yield func(int) bool) {
		for above := a; above >= 0; above = t.rows[above].typ.Up {
			if !yield(above) {
				return
			}
		}
	}
}

// under says whether what is of one may stand for the other, of what references may be to.
func (t kinTable) under(a int, b int) bool {
	if a == b || b == OfAny {
		return true
	}
	if a < 0 || b < 0 {
		return false
	}
	for above := range t.upward(a) {
		if t.canon[above] == t.canon[b] {
			return true
		}
	}
	return false
}

// fieldUnder says whether what is of one sort may stand where the other is wanted.
func (t kinTable) fieldUnder(a Field, b Field) bool {
	if !FieldOk(a, len(t.rows)) || !FieldOk(b, len(t.rows)) {
		return false
	}
	if a.Kind == FieldNum || b.Kind == FieldNum {
		return a.Kind == b.Kind
	}
	return t.under(a.Of, b.Of) && (a.Kind == FieldSure || b.Kind == FieldRef)
}

// fitsAbove says whether the fields of a well-formed type fit those of the one above it.
func (t kinTable) fitsAbove(a int) bool {
	lower := t.rows[a].typ
	if lower.Up < 0 {
		return true
	}
	for i, upper := range t.rows[lower.Up].typ.Fields {
		if !t.fits(lower.Fields[i], upper) {
			return false
		}
	}
	return true
}

// fits says whether the lower type's field may stand for the upper one's.
func (t kinTable) fits(lower Field, upper Field) bool {
	if lower.Mut != upper.Mut || !t.fieldUnder(lower, upper) {
		return false
	}
	// What is put into it as the upper one's is found there as the lower one's.
	return !lower.Mut || t.fieldUnder(upper, lower)
}
