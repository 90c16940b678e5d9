package tests

import (
	"fmt"
	"math"
	"regexp"
	"slices"
	"strconv"
	"strings"
	"sync"
	"testing"

	"loop.example/g01324/impl"
)

// noReplies is what a failed call returns in place of replies.
var noReplies []string

// deskNumbers are numbers at and beyond every limit of the numbers of desks, and numbers of 32 bits that would be less without the bits above.
var deskNumbers = []int{
	math.MinInt, math.MinInt + 1, math.MinInt32, -60, -6, -4, -1, 0, 1, 2, 3, 4, 5, 6, 7, 8, 59, 60, 61, 256 + 4, 1 << 32, 1<<32 + 4, 1<<32 + 6, 1 << 62, math.MaxInt - 1, math.MaxInt,
}

// desk makes a desk from its numbers and its Word.
func desk(points int, step int, grid int, word string) impl.Desk {
	return impl.Desk{Star: impl.Star{Points: points, Step: step}, Grid: grid, Word: word}
}

// someDesks returns desks with Words of all kinds: empty ones, closed ones, never closed ones, long ones, and ones with many crossed points.
func someDesks() []impl.Desk {
	return []impl.Desk{
		impl.FirstDesk(), desk(5, 2, 6, "FL"), desk(6, 3, 4, ""), desk(6, 2, 6, ""), desk(3, 1, 4, "F"), desk(3, 2, 4, "FLFLFLFL"), desk(12, 8, 6, "FLLFLLFLL"),
		desk(60, 26, 6, "FRRFRRFRR"), desk(60, 59, 4, "LLLRFLLLL"), desk(60, 30, 6, "LLLLLLLRFRRRRRRR"), desk(4, 2, 4, strings.Repeat("F", 120)),
		desk(7, 3, 6, strings.Repeat("F", 119)+"L"), desk(59, 58, 4, strings.Repeat("FR", 8)+strings.Repeat("RFRR", 4)), desk(10, 5, 6, strings.Repeat("FR", 60)),
	}
}

// noDesks returns desks that are none: with a star, a grid or a word that is none, or with none of them.
func noDesks() []impl.Desk {
	list := []impl.Desk{{}, desk(5, 2, 4, "fl"), desk(5, 2, 0, "FL"), desk(5, 2, 5, "FL"), desk(0, 0, 4, "FL"), desk(2, 1, 4, "FL"), desk(5, 0, 4, ""), desk(5, 5, 6, "")}
	for _, s := range noStars {
		list = append(list, desk(s.Points, s.Step, 4, "FL"), desk(s.Points, s.Step, 6, ""))
	}
	for _, grid := range noGrids() {
		list = append(list, desk(5, 2, grid, "FL"), desk(60, 59, grid, ""))
	}
	for _, w := range noWords() {
		list = append(list, desk(5, 2, 4, w), desk(6, 3, 6, w))
	}
	return append(list, desk(math.MaxInt, math.MaxInt, math.MaxInt, "x"), desk(math.MinInt, math.MinInt, math.MinInt, strings.Repeat("F", 121)))
}

// numberWords are numbers of lines and texts that are none.
var numberWords = []string{
	"0", "1", "2", "3", "4", "5", "6", "7", "8", "9", "10", "11", "12", "13", "59", "60", "61", "104", "105", "120", "121", "180", "299", "300", "301", "2027025",
	"99999", "100000", "135134", "135135", "999998", "999999", "1000000", "1000001", "9999999", "00", "01", "007", "0999999", "-0", "-1", "-4", "+0", "+1", "+4", "",
	"4294967300", "9223372036854775807", "9223372036854775808", "18446744073709551620", "-9223372036854775808", "4.0", "4e0", "0x4", "1_0", "4,", "4a", "a4", "٤", "４", "N",
}

// otherWords are StarTexts, words and loops, and texts that are none.
func otherWords() []string {
	list := []string{
		"{5/2}", "{3/1}", "{3/2}", "{60/59}", "{60/1}", "{6/3}", "{2/1}", "{3/0}", "{3/3}", "{5/5}", "{60/60}", "{61/1}", "{05/2}", "{5/02}", "{5/-2}", "{+5/2}", "{5/2", "5/2}", "5/2", "{}", "{/}",
		"{5/2}}", "{{5/2}", "{5/2}\t", "{5,2}", "{5 / 2}", "{1000000/1}", "{5/4294967298}", "F", "L", "R", "FL", "FLLRF", "f", "FLf", "FLX", "F-", "-", "FLRFLRFLRFLR",
		strings.Repeat("F", 120), strings.Repeat("LR", 60), strings.Repeat("F", 121), strings.Repeat("F", 119) + "f", "aa", "aabb", "abab", "abba", "abcabc", "abcacb", "ba", "a", "aab", "AA", "aabB",
		"aabbccddeeffgghh", "abcdefghabcdefgh", "aabbccddeeffgghhii", "abcdefghiabcdefghi", "hhggffeeddccbbaa", "yes", "no", "what", "show", "star", "\x00", "\xff", "\r", "\t", "ＦＬ", "ａａ",
	}
	return append(list, slices.Concat(evenNotDrawn...)...)
}

// lineNames are the first words of lines, and others that are none.
var lineNames = []string{
	"star", "step", "grid", "word", "spiral", "times", "shift", "mirror", "back", "short", "gears", "show", "tell", "strings", "cross", "turns", "to", "end", "close", "area", "points", "cusps", "draw",
	"first", "loop", "", "fly", "Star", "SHOW", "Tell", "wORD", "stars", "sho", "shows", "string", "turn", "point", "step\t", "show\r", "\x00show", "show\x00", "no", "what", "yes", "-", "{5/2}", "FL", "aa", "4",
}

// becomes returns the function that puts the result of a call in as the Word of a desk, and tells it.
func becomes(d *impl.Desk) func(w string, ok bool) string {
	return func(w string, ok bool) string {
		d.Word = w
		return replied(w, ok)
	}
}

// replied writes the result of a call as a reply.
func replied(v any, ok bool) string {
	text := fmt.Sprint(v)
	if _, isText := v.(string); !isText {
		text = strings.NewReplacer("] [", " ", " ", ",", "[", "", "]", "").Replace(text)
	}
	switch {
	case !ok:
		return "no"
	case text == "":
		return "-"
	case text == "true":
		return "yes"
	case text == "false":
		return "nay"
	}
	return text
}

// isPlainLoop reports whether each of the first so many letters is there just twice, in the order in which they first come.
func isPlainLoop(w string) bool {
	return plainNamed(w) == w && !slices.ContainsFunc(lettersOf(w), func(a string) bool { return strings.Count(w, a) != 2 })
}

// number reads a number that is one.
func number(text string) int {
	n, _ := strconv.Atoi(text)
	return n
}

// lineRow is a row of the document's table: the form of a whole line, and what it does to a desk and replies with the words behind the first one.
type lineRow struct {
	form *regexp.Regexp
	do   func(d *impl.Desk, m []string) string
}

// effects are the rows with an effect, by their lines with S, W, N and K.
func effects() map[string]func(d *impl.Desk, m []string) string {
	return map[string]func(d *impl.Desk, m []string) string{
		"star S": func(d *impl.Desk, m []string) string {
			_, err := fmt.Sscanf(m[1], "{%d/%d}", &d.Star.Points, &d.Star.Step)
			return replied(m[1], err == nil)
		},
		"step N": func(d *impl.Desk, m []string) string {
			d.Star.Step = number(m[1])
			return replied(fmt.Sprintf("{%d/%d}", d.Star.Points, d.Star.Step), d.Star.Step >= 1 && d.Star.Step < d.Star.Points)
		},
		"grid N": func(d *impl.Desk, m []string) string {
			d.Grid = number(m[1])
			return replied(d.Word, m[1] == "4" || m[1] == "6")
		},
		"word W": func(d *impl.Desk, m []string) string { return becomes(d)(m[1], true) },
		"spiral N K": func(d *impl.Desk, m []string) string {
			return becomes(d)(impl.SpiralWord(d.Grid, number(m[1]), number(m[2])))
		},
		"times N": func(d *impl.Desk, m []string) string {
			return becomes(d)(impl.RepeatWord(d.Grid, d.Word, number(m[1])))
		},
		"shift N": func(d *impl.Desk, m []string) string { return becomes(d)(impl.ShiftWord(d.Grid, d.Word, number(m[1]))) },
		"mirror":  func(d *impl.Desk, m []string) string { return becomes(d)(impl.MirrorWord(d.Grid, d.Word)) },
		"back":    func(d *impl.Desk, m []string) string { return becomes(d)(impl.BackWord(d.Grid, d.Word)) },
		"short":   func(d *impl.Desk, m []string) string { return becomes(d)(impl.ShortWord(d.Grid, d.Word)) },
		"gears N K": func(d *impl.Desk, m []string) string {
			s, ok := impl.StarOfGears(number(m[1]), number(m[2]))
			d.Star = s
			return replied(fmt.Sprintf("{%d/%d}", s.Points, s.Step), ok)
		},
	}
}

// questions are the rows without an effect.
func questions() map[string]func(d *impl.Desk, m []string) string {
	return map[string]func(d *impl.Desk, m []string) string{
		"show":    func(d *impl.Desk, m []string) string { return replied(impl.StarText(d.Star)) },
		"tell":    func(d *impl.Desk, m []string) string { return replied(d.Word, true) },
		"strings": func(d *impl.Desk, m []string) string { return replied(impl.StringsOf(d.Star)) },
		"cross":   func(d *impl.Desk, m []string) string { return replied(impl.CountCrossings(d.Star)) },
		"turns":   func(d *impl.Desk, m []string) string { return replied(impl.TurnsOf(d.Star)) },
		"to N K": func(d *impl.Desk, m []string) string {
			return replied(impl.StepsBetween(d.Star, number(m[1]), number(m[2])))
		},
		"end":       func(d *impl.Desk, m []string) string { return replied(impl.EndOf(d.Grid, d.Word)) },
		"close":     func(d *impl.Desk, m []string) string { return replied(impl.RepeatsToClose(d.Grid, d.Word)) },
		"area":      func(d *impl.Desk, m []string) string { return replied(impl.DoubleArea(d.Grid, d.Word)) },
		"points":    func(d *impl.Desk, m []string) string { return replied(impl.CrossedPoints(d.Grid, d.Word)) },
		"cusps N K": func(d *impl.Desk, m []string) string { return replied(impl.CuspsOf(number(m[1]), number(m[2]))) },
		"loop N K":  func(d *impl.Desk, m []string) string { return replied(impl.LoopOfRank(number(m[1]), number(m[2]))) },
		"draw O": func(d *impl.Desk, m []string) string {
			if !isPlainLoop(m[1]) {
				return "what"
			}
			return replied(impl.CanBeDrawn(m[1]))
		},
		"first O": func(d *impl.Desk, m []string) string {
			if !isPlainLoop(m[1]) {
				return "what"
			}
			return replied(impl.FirstLoop(m[1]))
		},
	}
}

// lineRows are all rows with patterns of whole lines, made once.
var lineRows = sync.OnceValue(func() []lineRow {
	var stars []string
	for _, s := range allStars() {
		stars = append(stars, fmt.Sprintf(`%d/%d`, s.Points, s.Step))
	}
	const numberForm = `(0|[1-9][0-9]{0,5})`
	forms := strings.NewReplacer("N", numberForm, "K", numberForm, "W", `([FLR]{0,120})`, "O", `([a-h]{0,16})`, "S", `(\{(?:`+strings.Join(stars, "|")+`)\})`)
	var rows []lineRow
	for _, table := range []map[string]func(d *impl.Desk, m []string) string{effects(), questions()} {
		for line, do := range table {
			rows = append(rows, lineRow{regexp.MustCompile(`^` + forms.Replace(line) + `$`), do})
		}
	}
	return rows
})

// plainLine does what the row does whose form a line has.
func plainLine(d impl.Desk, line string) (impl.Desk, string) {
	for _, row := range lineRows() {
		m := row.form.FindStringSubmatch(line)
		if m == nil {
			continue
		}
		after := d
		reply := row.do(&after, m)
		if reply == "no" || reply == "what" {
			return d, reply
		}
		return after, reply
	}
	return d, "what"
}

// checkLine checks a line on a desk.
func checkLine(t *testing.T, d impl.Desk, line string) {
	t.Helper()
	after, reply := plainLine(d, line)
	want(t, "line "+shortened(line), all(impl.DeskLine(d, line)), after, reply, true)
	want(t, "desk behind "+shortened(line), all(impl.IsDesk(after)), true)
}

// checkScript checks a script at once and line by line.
func checkScript(t *testing.T, lines []string) {
	t.Helper()
	d, byLine := impl.FirstDesk(), impl.FirstDesk()
	replies, failed, script := noReplies, noNumbers, ""
	for i, line := range lines {
		after, reply := plainLine(d, line)
		next, alone, ok := impl.DeskLine(byLine, line)
		want(t, "by itself", all(next, alone, ok), after, reply, true)
		if reply == "no" || reply == "what" {
			failed = append(failed, i+1)
		}
		replies, d, byLine, script = append(replies, reply), after, next, script+line+"\n"
	}
	want(t, "replies", all(impl.RunScript(script)), replies, true)
	want(t, "desk", all(impl.DeskAfter(script)), d, true)
	want(t, "failed", all(impl.FailedLines(script)), failed, true)
}

// checkNoScript checks that all calls with a text that is no script fail with zero results.
func checkNoScript(t *testing.T, s string) {
	t.Helper()
	want(t, "replies "+shortened(s), all(impl.RunScript(s)), noReplies, false)
	want(t, "desk "+shortened(s), all(impl.DeskAfter(s)), impl.Desk{}, false)
	want(t, "failed "+shortened(s), all(impl.FailedLines(s)), noNumbers, false)
}

func TestConsoleExample(t *testing.T) {
	lines := []string{
		"strings", "cross", "to 0 1", "close", "times 4", "area", "mirror", "area", "points", "step 5", "gears 12 8", "strings", "cusps 12 8", "word FLLRF", "short", "end", "grid 6", "spiral 2 2", "close",
		"draw abab", "first abba", "loop 2 1", "grid 5", "fly",
	}
	replies := []string{
		"0,2,4,1,3", "5", "3", "4", "FLFLFLFL", "2", "FRFRFRFR", "-2", "0,0", "no", "{3/2}", "0,2,1", "0,8,4", "FLLRF", "FLF", "1,1,1", "FLF", "FLLFFLL", "3", "nay", "aabb", "abab", "no", "what",
	}
	script := strings.Join(lines, "\n") + "\n"
	want(t, "replies", all(impl.RunScript(script)), replies, true)
	want(t, "desk", all(impl.DeskAfter(script)), desk(3, 2, 6, "FLLFFLL"), true)
	want(t, "failed", all(impl.FailedLines(script)), []int{10, 23, 24}, true)
	checkScript(t, lines)
}

func TestDesks(t *testing.T) {
	want(t, "first", all(impl.FirstDesk()), impl.Desk{Star: impl.Star{Points: 5, Step: 2}, Grid: 4, Word: "FL"})
	want(t, "first", all(impl.IsDesk(impl.FirstDesk())), true)
	for _, points := range deskNumbers {
		for _, step := range deskNumbers {
			for _, grid := range deskNumbers {
				isOne := points >= 3 && points <= 60 && step >= 1 && step < points && (grid == 4 || grid == 6)
				want(t, "desk", all(impl.IsDesk(desk(points, step, grid, "FL"))), isOne)
				want(t, "desk without a word", all(impl.IsDesk(desk(points, step, grid, "x"))), false)
			}
		}
	}
	for _, d := range someDesks() {
		want(t, "desk", all(impl.IsDesk(d)), true)
	}
	eachWord(func(grid int, w string) { want(t, "desk with "+w, all(impl.IsDesk(desk(5, 2, grid, w))), true) })
	for _, d := range noDesks() {
		want(t, "no desk", all(impl.IsDesk(d)), false)
	}
}

func TestLinesDoWhatTheCallsDo(t *testing.T) {
	texts := append(otherWords(), numberWords...)
	for _, d := range someDesks() {
		for _, name := range lineNames {
			checkLine(t, d, name)
			for _, text := range texts {
				checkLine(t, d, name+" "+text)
			}
			for _, n := range []string{"0", "1", "3", "4", "12", "-1", "", "FL", "aa", "{5/2}"} {
				for _, k := range []string{"0", "1", "2", "8", "01", "", "FL"} {
					checkLine(t, d, name+" "+n+" "+k)
					checkLine(t, d, name+" "+n+" "+k+" 1")
				}
			}
		}
	}
}

func TestLinesWithTwoNumbers(t *testing.T) {
	for _, name := range []string{"spiral", "gears", "to", "cusps", "loop"} {
		for _, n := range numberWords {
			for _, k := range numberWords {
				checkLine(t, impl.FirstDesk(), name+" "+n+" "+k)
				checkLine(t, desk(12, 8, 6, ""), name+" "+n+" "+k)
			}
		}
	}
	for _, d := range someDesks() {
		for n := range 62 {
			checkLine(t, d, "to 0 "+strconv.Itoa(n))
			checkLine(t, d, "to "+strconv.Itoa(n)+" 1")
			checkLine(t, d, "spiral "+strconv.Itoa(n)+" 3")
			checkLine(t, d, "spiral 10 "+strconv.Itoa(n))
			checkLine(t, d, "step "+strconv.Itoa(n))
		}
	}
}

func TestEffectsOneByOne(t *testing.T) {
	long, full := strings.Repeat("F", 119), strings.Repeat("F", 120)
	for _, told := range []struct {
		before impl.Desk
		line   string
		reply  string
		after  impl.Desk
	}{
		{desk(5, 2, 4, "FL"), "star {6/3}", "{6/3}", desk(6, 3, 4, "FL")}, {desk(5, 2, 6, ""), "star {60/59}", "{60/59}", desk(60, 59, 6, "")},
		{desk(5, 2, 4, "FL"), "step 4", "{5/4}", desk(5, 4, 4, "FL")}, {desk(5, 2, 4, "FL"), "step 1", "{5/1}", desk(5, 1, 4, "FL")},
		{desk(5, 2, 4, "FL"), "step 0", "no", desk(5, 2, 4, "FL")}, {desk(5, 2, 4, "FL"), "step 5", "no", desk(5, 2, 4, "FL")}, {desk(60, 2, 4, "FL"), "step 60", "no", desk(60, 2, 4, "FL")},
		{desk(5, 2, 4, "FLL"), "grid 6", "FLL", desk(5, 2, 6, "FLL")}, {desk(5, 2, 6, "FLL"), "grid 4", "FLL", desk(5, 2, 4, "FLL")}, {desk(5, 2, 4, "FLL"), "grid 4", "FLL", desk(5, 2, 4, "FLL")},
		{desk(5, 2, 4, ""), "grid 6", "-", desk(5, 2, 6, "")}, {desk(5, 2, 4, "FL"), "grid 5", "no", desk(5, 2, 4, "FL")}, {desk(5, 2, 6, "FL"), "grid 0", "no", desk(5, 2, 6, "FL")},
		{desk(5, 2, 4, "FL"), "word RRF", "RRF", desk(5, 2, 4, "RRF")}, {desk(5, 2, 4, "FL"), "word ", "-", desk(5, 2, 4, "")}, {desk(5, 2, 6, ""), "word " + full, full, desk(5, 2, 6, full)},
		{desk(5, 2, 4, "FL"), "spiral 3 1", "FLFFLFFFL", desk(5, 2, 4, "FLFFLFFFL")}, {desk(5, 2, 6, "FL"), "spiral 1 5", "FLLLLL", desk(5, 2, 6, "FLLLLL")},
		{desk(5, 2, 4, "FL"), "spiral 1 4", "no", desk(5, 2, 4, "FL")}, {desk(5, 2, 4, "FL"), "spiral 0 1", "no", desk(5, 2, 4, "FL")}, {desk(5, 2, 6, "FL"), "spiral 11 0", "no", desk(5, 2, 6, "FL")},
		{desk(5, 2, 4, "FL"), "times 2", "FLFL", desk(5, 2, 4, "FLFL")}, {desk(5, 2, 4, "FL"), "times 60", strings.Repeat("FL", 60), desk(5, 2, 4, strings.Repeat("FL", 60))},
		{desk(5, 2, 4, "FL"), "times 61", "no", desk(5, 2, 4, "FL")}, {desk(5, 2, 4, "FL"), "times 0", "no", desk(5, 2, 4, "FL")}, {desk(5, 2, 4, ""), "times 0", "no", desk(5, 2, 4, "")},
		{desk(5, 2, 4, ""), "times 999999", "-", desk(5, 2, 4, "")}, {desk(5, 2, 4, "FLR"), "shift 2", "RFL", desk(5, 2, 4, "RFL")}, {desk(5, 2, 4, "FLR"), "shift 0", "FLR", desk(5, 2, 4, "FLR")},
		{desk(5, 2, 4, "FLR"), "shift 3", "no", desk(5, 2, 4, "FLR")}, {desk(5, 2, 4, ""), "shift 0", "no", desk(5, 2, 4, "")}, {desk(5, 2, 6, "FLR"), "mirror", "FRL", desk(5, 2, 6, "FRL")},
		{desk(5, 2, 6, long+"L"), "back", "R" + long, desk(5, 2, 6, "R"+long)}, {desk(5, 2, 6, ""), "mirror", "-", desk(5, 2, 6, "")}, {desk(5, 2, 4, ""), "back", "-", desk(5, 2, 4, "")},
		{desk(5, 2, 4, "LLLRFLLLL"), "short", "LLF", desk(5, 2, 4, "LLF")}, {desk(5, 2, 6, "LLLRFLLLL"), "short", "LLFLLLL", desk(5, 2, 6, "LLFLLLL")}, {desk(5, 2, 4, "LR"), "short", "-", desk(5, 2, 4, "")},
		{desk(5, 2, 4, "FL"), "gears 12 8", "{3/2}", desk(3, 2, 4, "FL")}, {desk(5, 2, 6, ""), "gears 300 295", "{60/59}", desk(60, 59, 6, "")}, {desk(5, 2, 4, "FL"), "gears 12 6", "no", desk(5, 2, 4, "FL")},
		{desk(5, 2, 4, "FL"), "gears 61 1", "no", desk(5, 2, 4, "FL")}, {desk(5, 2, 4, "FL"), "gears 12 12", "no", desk(5, 2, 4, "FL")}, {desk(5, 2, 4, "FL"), "gears 2 1", "no", desk(5, 2, 4, "FL")},
	} {
		want(t, told.line, all(impl.DeskLine(told.before, told.line)), told.after, told.reply, true)
	}
}

func TestQuestionsOneByOne(t *testing.T) {
	around := strings.Repeat("FR", 4) + strings.Repeat("RFRR", 4)
	for _, told := range []struct {
		desk  impl.Desk
		line  string
		reply string
	}{
		{desk(5, 2, 4, "FL"), "show", "{5/2}"}, {desk(60, 59, 6, ""), "show", "{60/59}"}, {desk(5, 2, 4, "FL"), "tell", "FL"}, {desk(5, 2, 4, ""), "tell", "-"},
		{desk(6, 2, 4, "FL"), "strings", "0,2,4 1,3,5"}, {desk(6, 3, 4, "FL"), "strings", "0,3 1,4 2,5"}, {desk(3, 1, 4, "FL"), "strings", "0,1,2"},
		{desk(6, 3, 4, "FL"), "cross", "3"}, {desk(3, 1, 4, "FL"), "cross", "0"}, {desk(5, 3, 4, "FL"), "turns", "3"}, {desk(12, 8, 4, "FL"), "turns", "2"},
		{desk(5, 2, 4, "FL"), "to 0 1", "3"}, {desk(5, 2, 4, "FL"), "to 4 4", "0"}, {desk(6, 2, 4, "FL"), "to 0 1", "no"}, {desk(5, 2, 4, "FL"), "to 5 0", "no"}, {desk(5, 2, 4, "FL"), "to 0 5", "no"},
		{desk(5, 2, 4, "FL"), "end", "1,0,1"}, {desk(5, 2, 4, "LLFRR"), "end", "-1,0,0"}, {desk(5, 2, 4, "RFF"), "end", "0,-2,3"}, {desk(5, 2, 6, "RRF"), "end", "0,-1,4"}, {desk(5, 2, 4, ""), "end", "0,0,0"},
		{desk(5, 2, 6, "FL"), "close", "6"}, {desk(5, 2, 4, ""), "close", "1"}, {desk(5, 2, 4, "F"), "close", "no"}, {desk(5, 2, 4, "FLFLFLFL"), "area", "2"}, {desk(5, 2, 6, "FRRFRRFRR"), "area", "-1"},
		{desk(5, 2, 4, ""), "area", "0"}, {desk(5, 2, 4, "FL"), "area", "no"}, {desk(5, 2, 4, "FL"), "points", "-"}, {desk(5, 2, 4, ""), "points", "-"}, {desk(5, 2, 4, "FLLF"), "points", "0,0"},
		{desk(5, 2, 4, around), "points", "0,-1 0,0 1,-1 1,0"}, {desk(5, 2, 4, "FL"), "cusps 12 8", "0,8,4"}, {desk(5, 2, 4, "FL"), "cusps 12 6", "0,6"}, {desk(5, 2, 4, "FL"), "cusps 300 150", "0,150"},
		{desk(5, 2, 4, "FL"), "cusps 12 12", "no"}, {desk(5, 2, 4, "FL"), "cusps 12 0", "no"}, {desk(5, 2, 4, "FL"), "cusps 301 1", "no"}, {desk(5, 2, 4, "FL"), "cusps 2 1", "no"},
		{desk(5, 2, 4, "FL"), "draw abcabc", "yes"}, {desk(5, 2, 4, "FL"), "draw abab", "nay"}, {desk(5, 2, 4, "FL"), "draw ", "yes"}, {desk(5, 2, 4, "FL"), "first abba", "aabb"},
		{desk(5, 2, 4, "FL"), "first ", "-"}, {desk(5, 2, 4, "FL"), "first abcabc", "abcabc"}, {desk(5, 2, 4, "FL"), "loop 2 1", "abab"}, {desk(5, 2, 4, "FL"), "loop 0 0", "-"},
		{desk(5, 2, 4, "FL"), "loop 0 1", "no"}, {desk(5, 2, 4, "FL"), "loop 2 3", "no"}, {desk(5, 2, 4, "FL"), "loop 9 0", "no"}, {desk(5, 2, 4, "FL"), "loop 7 135134", "abcdefggfedcba"},
		{desk(5, 2, 4, "FL"), "loop 7 135135", "no"}, {desk(5, 2, 4, "FL"), "loop 8 0", "aabbccddeeffgghh"},
	} {
		want(t, told.line, all(impl.DeskLine(told.desk, told.line)), told.desk, told.reply, true)
	}
	_, last, ok := impl.DeskLine(impl.FirstDesk(), "loop 8 999999")
	want(t, "the greatest number", all(impl.RankOfLoop(last)), 999999, ok)
}

// notLines are lines of which the reply is what, on all desks.
func notLines() []string {
	list := []string{
		"", " ", "  ", " show", "show ", "show  ", "  show", "show show", "show 1", "tell ", "strings 0", "cross 5", "turns ", "end end", "close 1", "area ", "points -", "mirror ", "mirror FL", "back 1", "short FL",
		"star", "star ", "star  ", "star {5/2} ", "star  {5/2}", " star {5/2}", "star {5/2} {5/2}", "star {2/1}", "star {5/5}", "star {5/0}", "star {61/2}", "star 5/2", "star 5 2", "star {05/2}", "star {5/2}x", "star FL",
		"step", "step ", "step  1", "step 1 ", "step 1 2", "step 0 0", "step -1", "step +1", "step 01", "step 00", "step 1000000", "step 4294967297", "step 18446744073709551617", "step x", "step 1.0", "step {5/2}",
		"grid", "grid ", "grid  4", "grid 4 ", "grid 4 4", "grid 04", "grid +4", "grid -4", "grid 4x", "grid 5 5", "grid 1000000", "grid 9223372036854775807", "grid ４",
		"word", "word  ", "word  FL", "word FL ", " word FL", "word FL FL", "word fl", "word FLX", "word -", "word F\t", "word F\r", "word " + strings.Repeat("F", 121), "word 4", "wordFL", "word\tFL",
		"spiral", "spiral ", "spiral 2", "spiral 2 ", "spiral  2", "spiral 2  2", "spiral 2 2 2", "spiral 2 2 ", "spiral 02 2", "spiral 2 02", "spiral -1 2", "spiral 2 -1", "spiral 0 01", "spiral x 2",
		"times", "times ", "times 2 2", "times 0 ", "times 02", "times -1", "times +2", "times 1000000", "shift", "shift ", "shift 1 1", "shift -1", "shift 01", "shift 1000000", "shift x",
		"gears", "gears 12", "gears 12 ", "gears  12", "gears 12  8", "gears 12 8 1", "gears 12 8 ", "gears -12 8", "gears 12 08", "gears 12,8", "gears 12 1000000", "gears 0 x",
		"to", "to 0", "to 0 ", "to  0", "to 0  1", "to 0 1 2", "to 0 1 ", "to 00 1", "to 0 01", "to 0 +1", "to 9 x", "to -1 0", "to 0,1", "cusps", "cusps 12", "cusps 12 8 4", "cusps 012 8", "cusps 12 -8", "cusps 0 1000000",
		"draw", "draw  ", "draw aa ", "draw  aa", "draw aa aa", "draw a", "draw ba", "draw bb", "draw aab", "draw AA", "draw -", "draw aabbccddeeffgghhii", "draw FL", "draw 1",
		"first", "first  ", "first aa ", "first aa aa", "first a", "first baba", "first AABB", "first 2", "loop", "loop 2", "loop 2 ", "loop 2 1 0", "loop 02 1", "loop 2 01", "loop 2 -1", "loop 2 1000000", "loop 9 1000000",
		"loop aa 1", "fly", "SHOW", "Show", "TELL", "Step 1", "GRID 4", "Word FL", "WORD FL", "star{5/2}", "steps 1", "stars", "shows", "sho", "no", "what", "yes", "-", "{5/2}", "FL", "aa", "0", "\x00", "\xff", "\t",
		"show\r", "show\t", "\tshow", "show\x00", "sh\u00f6w", "ｓhow", "\ufeffshow", "show\u00a0", "\u00a0", "step\u00a01",
	}
	return append(list, strings.Repeat(" ", 3000), strings.Repeat("x", 3000), "word "+strings.Repeat("F", 2995), "step "+strings.Repeat("0", 2995), "step "+strings.Repeat("9", 2995), "draw "+strings.Repeat("a", 2995))
}

func TestLinesThatAreNone(t *testing.T) {
	for _, d := range someDesks() {
		for _, line := range notLines() {
			want(t, "line "+shortened(line), all(impl.DeskLine(d, line)), d, "what", true)
		}
	}
	// Each word is put behind a line that is one, and each line ahead of itself.
	for _, line := range []string{"show", "star {5/2}", "step 1", "word ", "word FL", "to 0 1", "draw ", "draw aa", "loop 2 1"} {
		for _, more := range []string{" ", "  ", " x", " 1", " FL", " aa", " {5/2}", " " + line, "\r", "\x00"} {
			want(t, "more "+line, all(impl.DeskLine(impl.FirstDesk(), line+more)), impl.FirstDesk(), "what", true)
			want(t, "ahead of "+line, all(impl.DeskLine(impl.FirstDesk(), more+line)), impl.FirstDesk(), "what", true)
		}
	}
}

func TestFailsForNoDesk(t *testing.T) {
	lines := []string{"", "show", "tell", "star {5/2}", "step 1", "grid 4", "word FL", "word ", "gears 12 8", "draw aa", "loop 2 1", "fly", "what", strings.Repeat("x", 3000)}
	for _, d := range noDesks() {
		for _, line := range lines {
			want(t, "no desk", all(impl.DeskLine(d, line)), impl.Desk{}, "", false)
		}
	}
}

func TestFailsForNoLine(t *testing.T) {
	for _, d := range someDesks() {
		for _, line := range []string{
			"\n", "show\n", "\nshow", "show\nshow", "show\n\n", "word FL\n", "word \n", "word\nFL", "fly\n", " \n", "\n ", "\x00\n", "show\r\n", strings.Repeat("\n", 50), strings.Repeat("x", 2999) + "\n",
			strings.Repeat("x", 3001), strings.Repeat(" ", 3001), "show" + strings.Repeat(" ", 2997), "word " + strings.Repeat("F", 2996), strings.Repeat("x", 100000), strings.Repeat("x", 3000) + "\n",
			"step " + strings.Repeat("1", 2996), strings.Repeat("show ", 1<<17),
		} {
			want(t, "no line "+shortened(line), all(impl.DeskLine(d, line)), impl.Desk{}, "", false)
		}
	}
	for length := 2990; length <= 3010; length++ {
		_, reply, ok := impl.DeskLine(impl.FirstDesk(), "show"+strings.Repeat(" ", length-4))
		want(t, "so long", all(reply == "what", ok), length <= 3000, length <= 3000)
	}
}

func TestEmptyScript(t *testing.T) {
	want(t, "replies", all(impl.RunScript("")), noReplies, true)
	want(t, "desk", all(impl.DeskAfter("")), impl.Desk{Star: impl.Star{Points: 5, Step: 2}, Grid: 4, Word: "FL"}, true)
	want(t, "failed", all(impl.FailedLines("")), noNumbers, true)
}

func TestLimitsOfScripts(t *testing.T) {
	for count := 1; count <= 60; count++ {
		for _, line := range []string{"", "show", "times 1", "step 5"} {
			if count <= 50 {
				checkScript(t, slices.Repeat([]string{line}, count))
				continue
			}
			checkNoScript(t, strings.Repeat(line+"\n", count))
		}
	}
	full := "word " + strings.Repeat("F", 120)
	for length := 2990; length <= 3010; length++ {
		// So many lines that do something, and one that fills the script up.
		lines := slices.Repeat([]string{full}, 23)
		lines = append(lines, "tell", strings.Repeat("x", length-23*126-6))
		alone := []string{strings.Repeat("x", length-1)}
		if length <= 3000 {
			checkScript(t, lines)
			checkScript(t, alone)
			continue
		}
		checkNoScript(t, strings.Join(lines, "\n")+"\n")
		checkNoScript(t, alone[0]+"\n")
	}
	lines := slices.Repeat([]string{"word " + strings.Repeat("FL", 27)}, 50)
	checkScript(t, lines)
	want(t, "both limits", all(len(strings.Join(lines, "\n")+"\n")), 3000)
	checkNoScript(t, strings.Repeat("\n", 3000))
	checkNoScript(t, strings.Repeat("\n", 3001))
	checkNoScript(t, strings.Repeat("show\n", 100000))
}

func TestFailsForNoScript(t *testing.T) {
	for _, s := range []string{
		" ", "x", "show", "show\ntell", "show\ntell\nfly", "\nshow", "\n ", "\n\nx", "show\n ", "word FL", "word FL\nword ", "show\r", "\r", "\x00", "show\n\x00", "show\n\r", strings.Repeat("x", 3000), strings.Repeat("x", 2999),
		strings.Repeat("show\n", 49) + "show", strings.Repeat("show\n", 50) + "show", strings.Repeat("show\n", 50) + " ", strings.Repeat("x", 100000),
	} {
		checkNoScript(t, s)
	}
}

func TestScriptsOneByOne(t *testing.T) {
	for _, told := range []struct {
		script  string
		replies []string
		failed  []int
		after   impl.Desk
	}{
		{"\n", []string{"what"}, []int{1}, desk(5, 2, 4, "FL")}, {"\n\n\n", []string{"what", "what", "what"}, []int{1, 2, 3}, desk(5, 2, 4, "FL")},
		{"\nshow\n\n", []string{"what", "{5/2}", "what"}, []int{1, 3}, desk(5, 2, 4, "FL")}, {"show\r\n", []string{"what"}, []int{1}, desk(5, 2, 4, "FL")},
		{"word \ntell\ntimes 3\npoints\nclose\nshift 0\n", []string{"-", "-", "-", "-", "1", "no"}, []int{6}, desk(5, 2, 4, "")},
		{"star {6/2}\nstrings\nto 0 1\nto 0 4\nstep 0\nstep 6\nshow\n", []string{"{6/2}", "0,2,4 1,3,5", "no", "2", "no", "no", "{6/2}"}, []int{3, 5, 6}, desk(6, 2, 4, "FL")},
		{"star {6/3}\nstep 6\nstep 5\nstar {5/5}\nturns\n", []string{"{6/3}", "no", "{6/5}", "what", "5"}, []int{2, 4}, desk(6, 5, 4, "FL")},
		{"step 4\nstar {4/1}\nstep 4\nstep 3\n", []string{"{5/4}", "{4/1}", "no", "{4/3}"}, []int{3}, desk(4, 3, 4, "FL")},
		{"spiral 1 4\ngrid 6\nspiral 1 4\ngrid 4\nend\n", []string{"no", "FL", "FLLLL", "FLLLL", "1,0,0"}, []int{1}, desk(5, 2, 4, "FLLLL")},
		{"word FLFLFLFL\narea\ngrid 6\narea\nclose\n", []string{"FLFLFLFL", "2", "FLFLFLFL", "no", "3"}, []int{4}, desk(5, 2, 6, "FLFLFLFL")},
		{"times 60\ntimes 2\nback\nshift 119\n", []string{strings.Repeat("FL", 60), "no", strings.Repeat("RF", 60), strings.Repeat("FR", 60)}, []int{2}, desk(5, 2, 4, strings.Repeat("FR", 60))},
		{"gears 12 6\ngears 10 4\nshow\nfly\nno\n", []string{"no", "{5/2}", "{5/2}", "what", "what"}, []int{1, 4, 5}, desk(5, 2, 4, "FL")},
		{"draw \nfirst \nloop 0 0\ndraw\nfirst\n", []string{"yes", "-", "-", "what", "what"}, []int{4, 5}, desk(5, 2, 4, "FL")},
	} {
		want(t, "replies", all(impl.RunScript(told.script)), told.replies, true)
		want(t, "failed", all(impl.FailedLines(told.script)), told.failed, true)
		want(t, "desk", all(impl.DeskAfter(told.script)), told.after, true)
		checkScript(t, strings.Split(strings.TrimSuffix(told.script, "\n"), "\n"))
	}
}

// someLines returns lines that mostly do something or have an answer.
func someLines() []string {
	list := []string{
		"star {5/2}", "star {6/2}", "star {60/26}", "star {7/3}", "step 1", "step 2", "step 3", "step 5", "step 7", "step 40", "grid 4", "grid 6", "grid 5", "word ", "word F", "word FL", "word FLLRF", "word FRRFRRFRR",
		"word LLLLLLLRRFRRRRRRR", "spiral 2 1", "spiral 3 2", "spiral 1 4", "spiral 10 5", "spiral 11 1", "times 1", "times 2", "times 4", "times 60", "times 0", "shift 0", "shift 1", "shift 3", "shift 40", "mirror", "back",
		"short", "gears 12 8", "gears 12 6", "gears 300 295", "gears 61 7", "gears 10 4", "show", "tell", "strings", "cross", "turns", "to 0 1", "to 2 0", "to 4 3", "to 59 1", "end", "close", "area", "points", "cusps 12 8",
		"cusps 7 7", "draw abab", "draw abcabc", "draw ", "draw ba", "first abba", "first ", "first abcacb", "loop 2 1", "loop 8 999999", "loop 3 15", "loop 0 0", "fly", "", " show", "show ", "what",
	}
	return list
}

func TestScriptsAtOnceAndLineByLine(t *testing.T) {
	z, from := uint32(10), append(someLines(), someLines()...)
	from = append(from, notLines()[:40]...)
	for range 1500 {
		var lines []string
		z = z*1664525 + 1013904223
		for range int(z>>8) % 51 {
			z = z*1664525 + 1013904223
			lines = append(lines, from[int(z>>8)%len(from)])
		}
		checkScript(t, lines)
	}
	// Each line comes behind each other one.
	for _, first := range someLines() {
		for _, second := range someLines() {
			checkScript(t, []string{first, second, "show", "tell", "end"})
		}
	}
}
