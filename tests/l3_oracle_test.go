package tests

import (
	"regexp"
	"strconv"
	"strings"

	"loop.example/lairage/impl"
)

// What chapter 3 says, by a pattern of the whole text: slow, and only for comparing.

func plainSort(f impl.Field, n int) bool {
	return plainFieldOk(f, n) && !f.Mut
}

func plainProgOk(p impl.Prog) bool {
	n := 0
	for _, types := range p.Types {
		n += len(types)
	}
	right := plainOk(p.Types) && len(p.Glob) <= 3 && len(p.Funs) >= 1 && len(p.Funs) <= 5
	for _, f := range p.Glob {
		right = right && plainSort(f, n) && f.Kind != 3
	}
	texts := insNames()
	for _, f := range p.Funs {
		right = right && len(f.Takes) <= 3 && len(f.Own) <= 3 && len(f.Body) >= 1 && len(f.Body) <= 30 && plainSort(f.Gives, n)
		for _, one := range f.Takes {
			right = right && plainSort(one, n)
		}
		for _, one := range f.Own {
			right = right && plainSort(one, n) && one.Kind != 3
		}
		for _, i := range f.Body {
			right = right && texts[i] != ""
		}
	}
	return right
}

// The instructions that are ok by their texts, and their texts; made once, as there are many.
var knownInsTexts, knownInsNames = func() (map[string]impl.Ins, map[impl.Ins]string) {
	texts, names := insTexts(), map[impl.Ins]string{}
	for text, i := range texts {
		names[i] = text
	}
	return texts, names
}()

func insNames() map[impl.Ins]string {
	return knownInsNames
}

// fieldTexts is every field that is ok among KinMost types, by its text.
func fieldTexts() map[string]impl.Field {
	all := map[string]impl.Field{"n": {Kind: 1}, "n!": {Kind: 1, Mut: true}}
	for kind, letter := range map[int]string{2: "r", 3: "s"} {
		for of := -2; of <= 7; of++ {
			all[letter+plainNumber(of)] = impl.Field{Kind: kind, Of: of}
			all[letter+plainNumber(of)+"!"] = impl.Field{Kind: kind, Of: of, Mut: true}
		}
	}
	return all
}

var knownFieldTexts = fieldTexts()

func plainFieldText(f impl.Field) string {
	for text, g := range knownFieldTexts {
		if f == g {
			return text
		}
	}
	return ""
}

// plainText is the text of a program that is ok.
func plainText(p impl.Prog) string {
	text := ""
	list := func(fields []impl.Field) {
		for _, f := range fields {
			text += " " + plainFieldText(f)
		}
	}
	for _, types := range p.Types {
		text += "group\n"
		for _, t := range types {
			up := strconv.Itoa(t.Up)
			if t.Up == -1 {
				up = "-"
			}
			text += map[int]string{1: "box ", 2: "row "}[t.Kind] + up
			list(t.Fields)
			text += map[bool]string{false: "\n", true: " last\n"}[t.Last]
		}
	}
	if len(p.Glob) != 0 {
		text += "glob"
		list(p.Glob)
		text += "\n"
	}
	for _, f := range p.Funs {
		text += "fun " + plainFieldText(f.Gives)
		list(f.Takes)
		text += "\n"
		if len(f.Own) != 0 {
			text += "own"
			list(f.Own)
			text += "\n"
		}
		for _, i := range f.Body {
			text += insNames()[i] + "\n"
		}
	}
	return text
}

// progPattern is what the texts of programs look like, but for how many there may be and what they name.
var progPattern = func() *regexp.Regexp {
	var kinds []string
	for _, row := range insTable() {
		kinds = append(kinds, row.word+strings.Repeat(" (?:any|chip|[0-9]+)", len(row.numbers)))
	}
	field := "(?: (?:n|[rs](?:any|chip|[0-7]))!?)"
	types := "(?:group\n(?:(?:box|row) (?:-|[0-7])F*(?: last)?\n)+)*"
	glob := "(?:globF+\n)?"
	funs := "(?:funF+\n(?:ownF+\n)?(?:(?:" + strings.Join(kinds, "|") + ")\n)+)+"
	return regexp.MustCompile(`\A` + strings.ReplaceAll(types+glob+funs, "F", field) + `\z`)
}()

// plainRead is the program that is ok of which this is the text.
func plainRead(text string) (impl.Prog, bool) {
	var p impl.Prog
	if !progPattern.MatchString(text) {
		return p, false
	}
	for _, line := range strings.Split(strings.TrimSuffix(text, "\n"), "\n") {
		words := strings.Split(line, " ")
		var fields []impl.Field
		for _, word := range words {
			if f, ok := knownFieldTexts[word]; ok {
				fields = append(fields, f)
			}
		}
		g, f := len(p.Types)-1, len(p.Funs)-1
		switch {
		case words[0] == "group":
			p.Types = append(p.Types, nil)
		case words[0] == "glob":
			p.Glob = fields
		case words[0] == "fun":
			p.Funs = append(p.Funs, fun(fields[0], fields[1:], nil))
		case words[0] == "own":
			p.Funs[f].Own = fields
		case f < 0:
			up, err := strconv.Atoi(words[1])
			if err != nil {
				up = -1
			}
			p.Types[g] = append(p.Types[g], impl.Type{Kind: map[string]int{"box": 1, "row": 2}[words[0]], Up: up, Last: strings.HasSuffix(line, " last"), Fields: fields})
		default:
			p.Funs[f].Body = append(p.Funs[f].Body, knownInsTexts[line])
		}
	}
	if !plainProgOk(p) {
		return impl.Prog{}, false
	}
	return p, true
}
