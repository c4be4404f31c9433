package tests

import (
	"fmt"
	"math/rand"
	"strings"
	"testing"

	"loop.example/lairage/impl"
)

// script is lines with a newline behind each.
func script(lines ...string) string {
	return strings.Join(lines, "\n") + "\n"
}

// progLines is the lines by which a script gets a program, of which this is the text.
func progLines(text string) string {
	return "prog\n" + text + "done\n"
}

// deskCase is a script, and what it answers.
type deskCase struct {
	name string
	in   string
	want string
}

// deskExample is the script of the document's example, and deskAnswers what that answers.
const (
	deskExample = `prog
group
box - n r0!
fun n
own r0 n
num 7
null 0
new 0
set 0
get 0
get 0
put 0 1
num 3
chip
show
get 0
show
get 0
look 0 1
look 0 0
say
num 0
ret
done
check
plan 20 6 4 0
run 100
look 12
heap 12
`
	deskAnswers = `fine
fine
fine
-5
9973
7
fine
0 7 @0
end
3 0 0
`
)

// deskNumbers is words that are numbers, and deskNone those that are none.
func deskNumbers() []string {
	return []string{"0", "1", "7", "9", "10", "100", "101", "300", "301", "1000", "9972", "9973", "-1", "-2", "-9", "-10", "-300", "1234567890123456", "-1234567890123456",
		"10000000000000000", "12345678901234567", "99999999999999999", "-10000000000000000", "-12345678901234567", "-99999999999999999"}
}

func deskNone() []string {
	return []string{"00", "01", "007", "-0", "-00", "-01", "-007", "0000000000000000", "00000000000000001", "000000000000000000000000000000000000000001", "+0", "+1", "+", "-", "--", "--1", "-+1", "+-1", "1-", "1+", "-1-", "0-", "-a",
		"100000000000000000", "123456789012345678", "999999999999999999", "-100000000000000000", "-123456789012345678", "-999999999999999999",
		"9223372036854775807", "9223372036854775808", "-9223372036854775808", "-9223372036854775809", "4294967296000000000", "18446744073709551616", "18446744073709551617", "36893488147419103233", "-18446744073709551615", strings.Repeat("9", 400), "1" + strings.Repeat("0", 400),
		"a", "x1", "1x", "1a2", "12e", "1e2", "0x1", "0b1", "0o7", "1_0", "1,0", "1.0", "1.", ".1", "1/1", "(1)", "'1'", "1\t", "\t1", "1\r", "\r1", "1\x00", "\x001", "1\x80", "\xff1", "1\u00a0", "\u00b2", "\u0661", "\uff11", "N", "any1", "-any", "one"}
}

// faultCase is a program, and what is wrong with it.
type faultCase struct {
	text string
	want string
}

// faultCases has each word of what is wrong, but for form: no script has a program that is not ok.
func faultCases() []faultCase {
	return []faultCase{
		{"fun n\nnum 0\nret\n", "fine"},
		{"fun n\nget 0\nret\n", "0 0 name"},
		{"fun n\nnum 1\nnum 2\nadd\ncall 1\nret\n", "0 3 name"},
		{"fun n\nret\n", "0 0 lack"},
		{"fun n\nnum 1\nadd\nret\n", "0 1 lack"},
		{"fun n\nnull any\nret\n", "0 1 sort"},
		{"fun n\nnum 1\nnum 2\nret\n", "0 2 rest"},
		{"fun n\nnum 1\ndrop\njump 1\n", "0 2 rest"},
		{"fun n\n" + strings.Repeat("num 3\n", 9) + "ret\n", "0 8 deep"},
		{"fun n\n" + strings.Repeat("num 3\n", 8) + "ret\n", "0 8 rest"},
		{"fun n\nnum 1\n", "0 0 end"},
		{"fun n\nnum 1\nsay\n", "0 1 end"},
		{"fun n\nnum 0\nret\nfun n\nadd\nret\n", "1 0 lack"},
		{"fun n\nnum 0\nret\nfun n\nnum 0\nret\nfun n\nsweep 0\nsweep 1\nnum 4\n", "2 2 end"},
		{"fun n\nnum 0\nret\nfun n\nnum 0\nret\nfun n\nnum 0\nret\nfun n\nnum 0\nret\nfun n\n" + strings.Repeat("sweep 0\n", 29) + "new 0\n", "4 29 name"},
		// The first of several is told.
		{"fun n\nnum 1\nfun n\nret\n", "0 0 end"},
		// It can not go, but nothing is wrong with it.
		{"fun n n\nget 0\nret\n", "fine"},
	}
}

// endCase is a program, what is set beside it, and what it tells and how it ends.
type endCase struct {
	text string
	set  string
	want string
}

// endCases has each way to end of which it makes no difference on what heap it runs.
func endCases() []endCase {
	return []endCase{
		{"fun n\njump 0\n", "", "goes\n"},
		{"fun n\nnum 0\nret\n", "", "fine\n"},
		{"fun n\nnum 3\nsay\nnum 4\nchip\nshow\nnull any\nshow\nnum 0\nret\n", "", "3\n-6\n-1\nfine\n"},
		{"fun n\nnum 3\nsay\nnull any\nsure\ndrop\nnum 0\nret\n", "", "3\nnone\n"},
		{"fun n\nnull any\ncast any\ndrop\nnum 0\nret\n", "", "cast\n"},
		{"group\nrow - n\nfun n\nnum 2\nnum 5\nrow 0\nnum 2\nat 0\nret\n", "", "place\n"},
		{"group\nrow - n\nfun n\nnum 7\nnum 5\nrow 0\nnum 2\nat 0\nret\n", "", "long\n"},
		{"fun n\nnum 9\nsay\ncall 0\nret\n", "", "9\n9\n9\n9\n9\ndeep\n"},
		{"fun n\nnum 4\nsay\njump 0\n", "", strings.Repeat("4\n", 30) + "full\n"},
		{"fun n\nnum 4\nask\nret\n", "", "host\n"},
		{"fun n\nnum 4\nask\nret\n", "host 9973\n", "host\n"},
		{"fun n\nnum 4\nask\nret\n", "host 9972\n", "4\nfine\n"},
		{"fun n\nret\n", "", "form\n"},
		{"fun n n\nget 0\nret\n", "", "form\n"},
	}
}

// hoardText is the text of a program that makes things, tells of some, and keeps them all, till there is no room.
func hoardText(r *rand.Rand) string {
	fields := r.Intn(4)
	body := strings.Repeat(fmt.Sprintf("num %d\n", r.Intn(99)), fields)
	if r.Intn(2) == 0 {
		body += "take 0\ntest 0\nsay\n"
	}
	return "group\nbox -" + strings.Repeat(" n", fields) + " r0\nglob r0\nfun n\n" + body + "take 0\nnew 0\nkeep 0\njump 0\n"
}

// answering is a script of few lines that answers just so many bytes: the text of a great program over and over, and then short
// answers.
func answering(t *testing.T, bytes int) string {
	t.Helper()
	text := progLines("fun n\n" + strings.Repeat("num 9972\n", 29) + "ret\n" + "fun n\n" + strings.Repeat("num 9972\n", 29) + "ret\n")
	left := bytes - len("fine\n")
	each := len(text) - len("prog\ndone\n") + len("end\n")
	for left >= each+8 {
		text += "text\n"
		left -= each
	}
	for left%5 != 0 {
		// There is no type, so that this answers no and a newline.
		text += "under 0 0\n"
		left -= 3
	}
	text += strings.Repeat("slim\n", left/5)
	if got := len(impl.DeskRun(text)); got != bytes || strings.Count(text, "\n") > 290 {
		t.Fatalf("%d bytes, not %d, in %d lines", got, bytes, strings.Count(text, "\n"))
	}
	return text
}

// scripter makes up scripts.
type scripter struct {
	*rand.Rand
	t *testing.T
}

// pick is one of some texts.
func (s scripter) pick(texts ...string) string {
	return texts[s.Intn(len(texts))]
}

// number is a word that is a number, or nearly one.
func (s scripter) number() string {
	switch s.Intn(10) {
	case 0:
		return s.pick(deskNumbers()...)
	case 1:
		return s.pick(deskNone()...)
	}
	return fmt.Sprint(s.Intn(13) - 1)
}

// fuel is a word of how many steps are done, or nearly one.
func (s scripter) fuel() string {
	if s.Intn(8) == 0 {
		return s.pick("-1", "300", "301", "299", "0", s.number())
	}
	return fmt.Sprint(s.Intn([]int{10, 60, 301}[s.Intn(3)]))
}

// numbers is so many words that are numbers or nearly so, each behind a space.
func (s scripter) numbers(many int) string {
	text := ""
	for range many {
		text += " " + s.number()
	}
	return text
}

// plan is a line for a plan, of which some are wrong.
func (s scripter) plan() string {
	if s.Intn(5) == 0 {
		return "plan" + s.numbers(s.Intn(7))
	}
	plan := somePlan(s.Rand)
	return fmt.Sprintf("plan %d %d %d %d", plan.Old, plan.Young, plan.Minor, plan.Major)
}

// to is a word for what a reference is to, or nearly one.
func (s scripter) to() string {
	return s.pick("any", "chip", "0", "1", "2", "3", "7", s.number(), "Any", "rany")
}

// odd is a line that is wrong, most often so.
func (s scripter) odd() string {
	words := []string{"prog", "done", "plan", "host", "check", "slim", "text", "bytes", "mean", "run", "look", "heap", "canon", "under", "any", "chip", "fine", "end", "num", "0", "1", "x", "CHECK", "\t", "\r", "\x80", "\u00e9", "check\t", "-"}
	line := s.pick(words...)
	for range s.Intn(4) {
		line += " " + s.pick(words...)
	}
	return line
}

// line is a line outside of programs.
func (s scripter) line() string {
	switch s.Intn(16) {
	case 0, 1:
		return s.plan()
	case 2:
		return "host" + s.numbers(s.Intn(9))
	case 3:
		return "check"
	case 4:
		return "slim"
	case 5:
		return s.pick("text", "bytes")
	case 6:
		return "mean " + s.fuel()
	case 7, 8:
		return "run " + s.fuel()
	case 9, 10:
		return "look " + s.fuel()
	case 11:
		return "heap " + s.fuel()
	case 12:
		return "canon " + s.number()
	case 13:
		return "under " + s.to() + " " + s.to()
	case 14:
		return ""
	}
	return s.odd()
}

// prog is the text of a program, of which some can go, some are wrong, and some are none.
func (s scripter) prog() string {
	switch s.Intn(11) {
	case 0, 1:
		return impl.ProgText(busyProg(s.t, s.Rand))
	case 7:
		return endCases()[s.Intn(len(endCases()))].text
	case 8:
		return faultCases()[s.Intn(len(faultCases()))].text
	case 2:
		return impl.ProgText(someWasteful(s.t, s.Rand))
	case 3:
		return impl.ProgText(marred(s.Rand, soundProg(s.Rand)))
	case 4:
		return impl.ProgText(someProg(s.Rand))
	case 5:
		text := impl.ProgText(soundProg(s.Rand))
		at := s.Intn(len(text))
		return text[:at] + s.pick("", " ", "\n", "1", "x", "\t") + text[at+1:] + "\n"
	case 6:
		return s.pick("", "fun n\n", "check\n", "prog\n", "done 1\n", "fun n\nret\n", "x\n")
	}
	return impl.ProgText(soundProg(s.Rand))
}

// loose is lines with more spaces than there must be, and with lines without words between.
func (s scripter) loose(text string) string {
	out := ""
	for _, line := range strings.SplitAfter(text, "\n") {
		for _, word := range strings.SplitAfter(line, " ") {
			out += word
			if strings.HasSuffix(word, " ") && s.Intn(6) == 0 {
				out += strings.Repeat(" ", 1+s.Intn(3))
			}
		}
		if !strings.HasSuffix(out, "\n") {
			continue
		}
		out = strings.TrimSuffix(out, "\n") + strings.Repeat(" ", max(0, s.Intn(9)-6)) + "\n"
		if s.Intn(12) == 0 {
			out += strings.Repeat(" ", s.Intn(3)) + "\n"
		}
		out += strings.Repeat(" ", max(0, s.Intn(9)-6))
	}
	return out
}

// script is a script of some parts, each a line or a program.
func (s scripter) script(parts int) string {
	text := ""
	for range parts {
		if s.Intn(6) > 0 {
			text += s.line() + "\n"
			continue
		}
		text += progLines(s.prog())
		if s.Intn(20) == 0 {
			text = strings.TrimSuffix(text, "done\n")
			continue
		}
		text += s.pick("", "check\n", "run 300\n", "mean 300\n")
	}
	if s.Intn(3) == 0 {
		text = s.loose(text)
	}
	if s.Intn(4) == 0 {
		text = strings.TrimSuffix(text, "\n")
	}
	return text
}
