package tests

import (
	"encoding/hex"
	"fmt"
	"regexp"
	"strconv"
	"strings"

	"loop.example/lairage/impl"
)

// What chapter 13 says, with the functions of chapters 1 to 12: each line is told by a pattern of it as a whole. Only for comparing.

// deskNumberPattern is a number as the document writes it, of at most 17 digits.
const deskNumberPattern = `(0|-?[1-9][0-9]{0,16})`

// deskPattern is a line, with N and W where a number stands, or a number or word for what a reference is to.
func deskPattern(line string) *regexp.Regexp {
	line = strings.ReplaceAll(line, "N", deskNumberPattern)
	line = strings.ReplaceAll(line, "W", `(any|chip|0|[1-9][0-9]{0,16})`)
	return regexp.MustCompile(`\A` + line + `\z`)
}

var (
	deskAlonePattern = deskPattern(`(check|slim|text|bytes)`)
	deskRunPattern   = deskPattern(`(mean|run|look|heap) N`)
	deskPlanPattern  = deskPattern(`plan N N N N`)
	deskHostPattern  = deskPattern(`host( N)*`)
	deskCanonPattern = deskPattern(`canon N`)
	deskUnderPattern = deskPattern(`under W W`)
)

const (
	plainEndWords   = "goes fine none cast place long deep full host room form"
	plainFaultWords = "fine name lack sort rest deep end form"
)

// plainThingText is a thing as it is written.
func plainThingText(one impl.Thing) string {
	text := fmt.Sprint(one.Type)
	for _, v := range one.Vals {
		format := map[int]string{impl.ValNum: " %d", impl.ValChip: " c%d", impl.ValThing: " @%d"}[v.Kind]
		if format == "" {
			text += " -"
			continue
		}
		text += fmt.Sprintf(format, v.N)
	}
	return text
}

// plainDeskState is what a script has.
type plainDeskState struct {
	prog  impl.Prog
	plan  impl.Plan
	host  []int
	lines *string
}

// plainDeskFirst is what a script has at first.
func plainDeskFirst() plainDeskState {
	first := fun(num(), nil, nil, ins(impl.InsNum, 0), ins(impl.InsRet))
	return plainDeskState{prog: impl.Prog{Funs: []impl.Fun{first}}, plan: impl.Plan{Old: 120, Young: 40}}
}

// plainWordsOf is a line with one space between its words, and none ahead and behind.
func plainWordsOf(line string) string {
	for strings.Contains(line, "  ") {
		line = strings.ReplaceAll(line, "  ", " ")
	}
	return strings.TrimSuffix(strings.TrimPrefix(line, " "), " ")
}

// plainDesk is what each line of a script answers; the last one of these may be that it is full.
func plainDesk(text string) []string {
	if len(text) > 20000 {
		return []string{"long\n"}
	}
	state := plainDeskFirst()
	var answers []string
	told := 0
	for ahead, line := range strings.Split(text, "\n") {
		answer := ""
		if line = plainWordsOf(line); line != "" {
			if ahead >= 300 || told > 40000 {
				return append(answers, "full\n")
			}
			answer = state.answer(line)
		}
		answers = append(answers, answer)
		told += len(answer)
	}
	return answers
}

// numberWords is the numbers of words that are numbers.
func numberWords(words []string) []int {
	var all []int
	for _, word := range words {
		n, err := strconv.Atoi(word)
		if err != nil {
			panic(err)
		}
		all = append(all, n)
	}
	return all
}

// answer is what a line with words answers.
func (s *plainDeskState) answer(line string) string {
	words := strings.Split(line, " ")
	switch {
	case s.lines != nil && line == "done":
		text := *s.lines
		s.lines = nil
		p, ok := impl.ProgRead(text)
		if !ok {
			return "what\n"
		}
		s.prog = p
		return "fine\n"
	case s.lines != nil:
		*s.lines += line + "\n"
		return ""
	case line == "prog":
		s.lines = new(string)
		return ""
	case deskPlanPattern.MatchString(line):
		n := numberWords(words[1:])
		plan := impl.Plan{Old: n[0], Young: n[1], Minor: n[2], Major: n[3]}
		if !impl.PlanOk(plan) {
			return "what\n"
		}
		s.plan = plan
		return "fine\n"
	case deskHostPattern.MatchString(line):
		s.host = numberWords(words[1:])
		return "fine\n"
	case deskAlonePattern.MatchString(line):
		return s.alone(line)
	case deskRunPattern.MatchString(line):
		return s.fueled(words[0], numberWords(words[1:])[0])
	case deskCanonPattern.MatchString(line):
		return fmt.Sprintln(impl.KinCanon(s.prog.Types, numberWords(words[1:])[0]))
	case deskUnderPattern.MatchString(line):
		named := func(word string) int {
			if n := map[string]int{"any": -1, "chip": -2}[word]; n != 0 {
				return n
			}
			return numberWords([]string{word})[0]
		}
		if impl.KinUnder(s.prog.Types, named(words[1]), named(words[2])) {
			return "yes\n"
		}
		return "no\n"
	}
	return "what\n"
}

// alone is what a line of one word answers.
func (s *plainDeskState) alone(word string) string {
	fault := impl.CheckAll(s.prog)
	fine := fault == impl.Fault{}
	switch {
	case word == "check" && !fine:
		return fmt.Sprintln(fault.Fun, fault.Pc, strings.Fields(plainFaultWords)[fault.Code])
	case word == "slim" && !fine:
		return "what\n"
	case word == "slim":
		s.prog = impl.SlimAll(s.prog)
	case word == "text":
		return impl.ProgText(s.prog) + "end\n"
	case word == "bytes":
		return hex.EncodeToString([]byte(impl.BinOf(s.prog))) + "\n"
	}
	return "fine\n"
}

// fueled is what a line answers for which a program goes so many steps.
func (s *plainDeskState) fueled(word string, fuel int) string {
	if fuel < 0 || fuel > 300 {
		return "what\n"
	}
	m := impl.MeanRun(s.prog, s.host, fuel)
	outs, code := m.Outs, m.Code
	if word != "mean" {
		e := impl.EngineRun(s.prog, s.plan, s.host, fuel)
		outs, code = e.Outs, e.Code
		if word == "heap" {
			return fmt.Sprintln(e.Heap.OldAt, e.Heap.YoungAt, len(e.Heap.Log))
		}
		m = impl.MeanTrim(s.prog, impl.EngineMean(s.prog, e))
	}
	text := ""
	if word == "look" {
		for _, one := range m.Things {
			text += plainThingText(one) + "\n"
		}
		return text + "end\n"
	}
	for _, n := range outs {
		text += fmt.Sprintln(n)
	}
	return text + strings.Fields(plainEndWords)[code] + "\n"
}
