package tests

import (
	"math"
	"slices"
	"strconv"
	"strings"
	"testing"

	"loop.example/g01324/impl"
)

// noLoopList is what a failed call returns in place of loops.
var noLoopList []string

// loopNumbers are numbers at and beyond every limit of chapter 7, and numbers of 32 bits that would be less without the bits above.
var loopNumbers = []int{
	math.MinInt, math.MinInt + 1, math.MinInt32, -16, -8, -2, -1, 0, 1, 2, 3, 4, 5, 7, 8, 9, 10, 15, 16, 17, 104, 105, 106, 255, 256, 2027024, 2027025, 2027026,
	1 << 32, 1<<32 + 1, 1 << 62, math.MaxInt - 1, math.MaxInt,
}

// loopCounts are the numbers of loops with 0 and more crossings.
var loopCounts = []int{1, 1, 3, 15, 105, 945, 10395, 135135, 2027025}

// eachLoopOf calls a check with all loops with so many crossings, in the order of texts.
func eachLoopOf(crossings int, check func(w string)) {
	const names = "abcdefgh"
	var writeOn func(w string, open string, come int)
	writeOn = func(w string, open string, come int) {
		if len(w) == 2*crossings {
			check(w)
		}
		for i := range open {
			writeOn(w+open[i:i+1], open[:i]+open[i+1:], come)
		}
		if come < crossings {
			writeOn(w+names[come:come+1], open+names[come:come+1], come+1)
		}
	}
	writeOn("", "", 0)
}

// loopsOf returns all loops with so many crossings, in the order of texts.
func loopsOf(crossings int) []string {
	list := noLoopList
	eachLoopOf(crossings, func(w string) { list = append(list, w) })
	return list
}

// pickedLoops returns some loops with so many crossings, whose signs are mixed.
func pickedLoops(crossings int, count int) []string {
	list, z := noLoopList, uint32(crossings)
	for range count {
		signs := []byte(strings.Repeat("hgfedcba"[8-crossings:], 2))
		for i := range signs {
			z = z*1664525 + 1013904223
			k := i + int(z>>8)%(len(signs)-i)
			signs[i], signs[k] = signs[k], signs[i]
		}
		list = append(list, plainNamed(string(signs)))
	}
	return list
}

// evenNotDrawn are loops whose letters are all interlaced with an even number of others and that cannot be drawn: those of the first list as two letters
// that are not interlaced have an odd number of both, those of the second one as there are no such halves, those of the third one for both reasons.
var evenNotDrawn = [][]string{
	{"abcabdecde", "abcadebdec", "abcdbceade", "abcdeadebc", "abcdecdabe", "aabcdbcefdef", "abcabdecdeff"},
	{"abcdeafcbedf", "abcdefbadcfe", "abcdeafcbedfgg", "aabcdefgcbedgf"},
	{"abcadcedbe", "abcdbedaec", "aabcdbedfecf"},
}

// namedLoops returns loops of the kinds that are told one by one.
func namedLoops() []string {
	list := []string{
		"aabbccddeeffgghh", "abcdefghabcdefgh", "abcdefghhgfedcba", "abcdefghbadcfehg", "abcabcdefdefgghh", "abcdeabcdefghfgh", "abacbdcedfegfhgh", "abcdefgabcdefg", "abbccddeeffgghha",
		"abcadbecfdgehfgh", "abcdefgabcdefghh", "aabcbcdedefgfghh", "abacdcbefedghgfh",
	}
	return append(list, slices.Concat(evenNotDrawn...)...)
}

// eachLoop calls a check with all loops with up to 5 crossings, with some of more, and with those named.
func eachLoop(check func(w string)) {
	for crossings := range 6 {
		eachLoopOf(crossings, check)
	}
	for crossings := 6; crossings <= 8; crossings++ {
		for _, w := range pickedLoops(crossings, 400) {
			check(w)
		}
	}
	for _, w := range namedLoops() {
		check(w)
	}
}

// lettersOf returns the letters of a loop as texts, in order.
func lettersOf(w string) []string {
	list := noLoopList
	for c := 'a'; strings.ContainsRune(w, c); c++ {
		list = append(list, string(c))
	}
	return list
}

// plainNamed names the letters of a text anew, in the order in which they come.
func plainNamed(w string) string {
	names := map[rune]string{}
	named := ""
	for _, sign := range w {
		if names[sign] == "" {
			names[sign] = "abcdefgh"[len(names) : len(names)+1]
		}
		named += names[sign]
	}
	return named
}

// plainInterlaced leaves all signs but those of two letters out.
func plainInterlaced(w string, a string, b string) bool {
	left := strings.Map(func(sign rune) rune {
		if strings.ContainsRune(a+b, sign) {
			return sign
		}
		return -1
	}, w)
	return left == a+b+a+b || left == b+a+b+a
}

// plainWith asks each letter whether it is interlaced with one.
func plainWith(w string, a string) string {
	with := ""
	for _, b := range lettersOf(w) {
		if plainInterlaced(w, a, b) {
			with += b
		}
	}
	return with
}

// plainEven reports whether all of these are an even number.
func plainEven(w string) bool {
	return !slices.ContainsFunc(lettersOf(w), func(a string) bool { return len(plainWith(w, a))%2 == 1 })
}

// countBoth counts the letters that are interlaced with two letters.
func countBoth(w string, a string, b string) int {
	count := 0
	for _, c := range plainWith(w, a) {
		count += strings.Count(plainWith(w, b), string(c))
	}
	return count
}

// plainEvenApart looks for two letters that are not interlaced and have an odd number of both.
func plainEvenApart(w string) bool {
	for _, a := range lettersOf(w) {
		for _, b := range lettersOf(w) {
			if a != b && !plainInterlaced(w, a, b) && countBoth(w, a, b)%2 == 1 {
				return false
			}
		}
	}
	return true
}

// plainHalves tries all halves.
func plainHalves(w string) bool {
	list := lettersOf(w)
	for mask := range 1 << len(list) {
		fits := true
		for i, a := range list {
			for j, b := range list[:i] {
				if plainInterlaced(w, a, b) && (mask>>i&1 != mask>>j&1) != (countBoth(w, a, b)%2 == 0) {
					fits = false
				}
			}
		}
		if fits {
			return true
		}
	}
	return false
}

// otherSigns returns for each sign of a loop the index of the other one of its letter.
func otherSigns(w string) []int {
	others := make([]int, len(w))
	for i := range w {
		others[i] = strings.IndexByte(w, w[i])
		if others[i] == i {
			others[i] = strings.LastIndexByte(w, w[i])
		}
	}
	return others
}

// facesOf counts the parts into which a line parts the surface on which it can be drawn if at each crossing the other part of the line
// comes from the left, where a bit of the letter is 1, or from the right.
// It goes along the line with the left hand at the wall: on, or back, turning left at each crossing.
func facesOf(w string, others []int, fromLeft int) int {
	seen := map[[2]int]bool{}
	faces := 0
	for start := range w {
		for _, way := range []int{1, -1} {
			if seen[[2]int{start, way}] {
				continue
			}
			faces++
			// A step leads along the line away from the sign with an index.
			for at := [2]int{start, way}; !seen[at]; {
				seen[at] = true
				next := (at[0] + at[1] + len(w)) % len(w)
				other := others[next]
				// Seen along the line at the first sign of a letter, the line at the second one comes from the left and leads to the right, or not so.
				leadsLeft := (fromLeft>>(w[next]-'a')&1 == 0) == (next < other)
				turn := -1
				if leadsLeft == (at[1] == 1) {
					turn = 1
				}
				at = [2]int{other, turn}
			}
		}
	}
	return faces
}

// canLie looks for sides from which the line comes at its crossings so that it lies in the plane:
// where it does, it has as many parts as crossings, and two more.
func canLie(w string) bool {
	crossings, others := len(w)/2, otherSigns(w)
	if crossings == 0 {
		return true
	}
	for fromLeft := range 1 << crossings {
		if facesOf(w, others, fromLeft) == crossings+2 {
			return true
		}
	}
	return false
}

// plainTurns returns a loop told from each of its signs on, or itself.
func plainTurns(w string) []string {
	turns := []string{w}
	for by := 1; by < len(w); by++ {
		turns = append(turns, plainNamed((w + w)[by:by+len(w)]))
	}
	return turns
}

// plainBackLoop tells a loop from its last sign on.
func plainBackLoop(w string) string {
	back := ""
	for _, sign := range w {
		back = string(sign) + back
	}
	return plainNamed(back)
}

// sameAs returns all loops that are the same as one, in order.
func sameAs(w string) []string {
	same := append(plainTurns(w), plainTurns(plainBackLoop(w))...)
	slices.Sort(same)
	return slices.Compact(same)
}

// plainCurls asks each letter whether it is beside itself.
func plainCurls(w string) string {
	curls := ""
	for _, a := range lettersOf(w) {
		if strings.Contains(w+w, a+a) {
			curls += a
		}
	}
	return curls
}

// plainOne counts the letters of each part.
func plainOne(w string) bool {
	for start := range w {
		for length := 1; length < len(w); length++ {
			part := (w + w)[start : start+length]
			if !slices.ContainsFunc(lettersOf(w), func(a string) bool { return strings.Count(part, a) == 1 }) {
				return false
			}
		}
	}
	return true
}

func TestLoopsExample(t *testing.T) {
	for _, pair := range []string{"ab", "ac", "ba", "bc", "ca", "cb"} {
		want(t, "interlaced "+pair, all(impl.AreInterlaced("abcabc", pair[:1], pair[1:])), true, true)
	}
	want(t, "three leaves", all(impl.CanBeDrawn("abcabc")), true, true)
	want(t, "not drawn", all(impl.CanBeDrawn("abab")), false, true)
	want(t, "with one other", all(impl.InterlacedWith("abab", "a")), "b", true)
	want(t, "with one other", all(impl.InterlacedWith("abab", "b")), "a", true)
	want(t, "curl", all(impl.CurlsOf("aa")), "a", true)
	want(t, "count", all(impl.CountLoops(2)), 3, true)
	want(t, "all", all(impl.AllLoops(2)), []string{"aabb", "abab", "abba"}, true)
	want(t, "drawn", all(impl.CountDrawn(2)), 2, true)
	want(t, "first", all(impl.FirstLoop("abba")), "aabb", true)
	want(t, "joined", all(impl.JoinLoops("aa", "abab")), "aabcbc", true)
	want(t, "one", all(impl.IsOneLoop("aabb")), false, true)
}

func TestEmptyLoop(t *testing.T) {
	want(t, "loop", all(impl.IsLoop("")), true)
	want(t, "crossings", all(impl.CountLoopCrossings("")), 0, true)
	want(t, "even", all(impl.IsEvenLoop("")), true, true)
	want(t, "drawn", all(impl.CanBeDrawn("")), true, true)
	for _, by := range loopNumbers {
		want(t, "turned", all(impl.TurnLoop("", by)), "", by == 0)
	}
	want(t, "back", all(impl.BackLoop("")), "", true)
	want(t, "first", all(impl.FirstLoop("")), "", true)
	want(t, "same", all(impl.SameLoops("", "")), true, true)
	want(t, "joined", all(impl.JoinLoops("", "")), "", true)
	want(t, "curls", all(impl.CurlsOf("")), "", true)
	want(t, "one", all(impl.IsOneLoop("")), true, true)
	want(t, "rank", all(impl.RankOfLoop("")), 0, true)
	for _, a := range []string{"", "a", "h", "A"} {
		want(t, "interlaced", all(impl.AreInterlaced("", a, a)), false, false)
		want(t, "with", all(impl.InterlacedWith("", a)), "", false)
		want(t, "dropped", all(impl.DropCrossing("", a)), "", false)
	}
}

func TestOneCrossing(t *testing.T) {
	want(t, "loop", all(impl.IsLoop("aa")), true)
	want(t, "crossings", all(impl.CountLoopCrossings("aa")), 1, true)
	want(t, "interlaced", all(impl.AreInterlaced("aa", "a", "a")), false, true)
	want(t, "with", all(impl.InterlacedWith("aa", "a")), "", true)
	want(t, "even", all(impl.IsEvenLoop("aa")), true, true)
	want(t, "drawn", all(impl.CanBeDrawn("aa")), true, true)
	want(t, "turned by 0", all(impl.TurnLoop("aa", 0)), "aa", true)
	want(t, "turned by 1", all(impl.TurnLoop("aa", 1)), "aa", true)
	want(t, "turned by 2", all(impl.TurnLoop("aa", 2)), "", false)
	want(t, "back", all(impl.BackLoop("aa")), "aa", true)
	want(t, "first", all(impl.FirstLoop("aa")), "aa", true)
	want(t, "dropped", all(impl.DropCrossing("aa", "a")), "", true)
	want(t, "one", all(impl.IsOneLoop("aa")), true, true)
	want(t, "rank", all(impl.RankOfLoop("aa")), 0, true)
	want(t, "of rank", all(impl.LoopOfRank(1, 0)), "aa", true)
}

// noLoops returns texts that are no loops.
func noLoops() []string {
	list := []string{
		"a", "b", "ab", "ba", "bb", "aaa", "aab", "aba", "baa", "abb", "aaaa", "aaab", "aaba", "abaa", "aabc", "abcd", "abca", "abac", "bbaa", "baba", "baab", "bbcc", "aacc", "acac", "acca",
		"abcacc", "aacbbc", "abccabc", "aabbb", "abbba", "ababab", "abcabcabc", "aabbaa", "abcbac ", " abcbac", "aa ", " aa", "a a", "aa\n", "aa\x00", "\x00aa", "\x00\x00", "``", "`a`a", "aa``",
		"{{", "aa{{", "aabbccddeeffgg{{", "AA", "aA", "Aa", "AAbb", "aaBB", "abAB", "abaB", "aabB", "11", "aa11", "--", "a-a", "a,a", "\xff\xff", "aa\xff\xff", "a\xe1a\xe1", "\xe1\xe1", "ａａ", "aa\u00e1\u00e1", "ΑΑ",
		"aabbccddeeffgghhii", "abcdefghiabcdefghi", "iiaabbccddeeffgghh", "aabbccddeeffggii", "aabbccddeeffgghi", "aabbccddeeffgghhi", "aabbccddeeffggh", "abcdefghabcdefg", "abcdefghabcdefghh",
		"abcdefghabcdefga", "abcdefghhgfedcbaa", "aabbccddeeffgghhiijj", "abcdefgh", "aaaaaaaaaaaaaaaa", "bbccddeeffgghhii", "hhggffeeddccbbaa", "abcdefghijklmnop", "zz", "aazz",
	}
	return append(list, strings.Repeat("a", 16), strings.Repeat("aa", 50000), strings.Repeat("aabb", 4), strings.Repeat("x", 100000), "aabbccddeeffgghh"+strings.Repeat("\x00", 16))
}

// shortened returns a text, or its beginning if it is long.
func shortened(w string) string {
	return strconv.Quote(w[:min(len(w), 40)])
}

func TestIsLoop(t *testing.T) {
	eachLoop(func(w string) {
		want(t, "loop "+w, all(impl.IsLoop(w)), true)
		want(t, "crossings "+w, all(impl.CountLoopCrossings(w)), len(w)/2, true)
	})
	for _, w := range noLoops() {
		want(t, "no loop "+shortened(w), all(impl.IsLoop(w)), false)
	}
}

// TestAllTextsOfFewLetters asks all texts of up to 6 signs of 5 letters and of the bytes next to letters.
func TestAllTextsOfFewLetters(t *testing.T) {
	texts := []string{""}
	for length := range 7 {
		loops := loopsOf(length / 2)
		var longer []string
		for _, w := range texts {
			_, isOne := slices.BinarySearch(loops, w)
			want(t, "text "+w, all(impl.IsLoop(w)), isOne && length%2 == 0)
			for _, sign := range "`abcdA" {
				longer = append(longer, w+string(sign))
			}
		}
		texts = longer
	}
}

func TestLettersAreInterlacedBothWays(t *testing.T) {
	eachLoop(func(w string) {
		for _, a := range lettersOf(w) {
			for _, b := range lettersOf(w) {
				want(t, "interlaced "+w+" "+a+b, all(impl.AreInterlaced(w, a, b)), plainInterlaced(w, a, b), true)
				want(t, "interlaced "+w+" "+b+a, all(impl.AreInterlaced(w, b, a)), plainInterlaced(w, a, b), true)
			}
			want(t, "with itself "+w+" "+a, all(impl.AreInterlaced(w, a, a)), false, true)
			want(t, "with "+w+" "+a, all(impl.InterlacedWith(w, a)), plainWith(w, a), true)
		}
		want(t, "even "+w, all(impl.IsEvenLoop(w)), plainEven(w), true)
	})
	want(t, "all others", all(impl.InterlacedWith("abcdefghabcdefgh", "d")), "abcefgh", true)
	want(t, "none", all(impl.InterlacedWith("abcdefghhgfedcba", "d")), "", true)
	want(t, "in order", all(impl.InterlacedWith("abcabc", "c")), "ab", true)
	want(t, "beside each other", all(impl.AreInterlaced("abab", "b", "a")), true, true)
	want(t, "one in the other", all(impl.AreInterlaced("abba", "a", "b")), false, true)
	want(t, "one behind the other", all(impl.AreInterlaced("aabb", "a", "b")), false, true)
}

func TestDrawn(t *testing.T) {
	eachLoop(func(w string) {
		told := plainEven(w) && plainEvenApart(w) && plainHalves(w)
		want(t, "drawn "+w, all(impl.CanBeDrawn(w)), told, true)
	})
	for crossings := range 7 {
		eachLoopOf(crossings, func(w string) { want(t, "lies "+w, all(impl.CanBeDrawn(w)), canLie(w), true) })
	}
	for _, w := range append(pickedLoops(7, 100), pickedLoops(8, 100)...) {
		want(t, "lies "+w, all(impl.CanBeDrawn(w)), canLie(w), true)
	}
}

func TestEvenLoopsThatCannotBeDrawn(t *testing.T) {
	for kind, list := range evenNotDrawn {
		for _, w := range list {
			want(t, "even "+w, all(impl.IsEvenLoop(w)), true, true)
			want(t, "not drawn "+w, all(impl.CanBeDrawn(w)), false, true)
			want(t, "why "+w, all(plainEvenApart(w), plainHalves(w)), kind == 1, kind == 0)
		}
	}
	want(t, "neither even", all(impl.CanBeDrawn("abcdabcd")), false, true)
	want(t, "most leaves", all(impl.CanBeDrawn("abcdefgabcdefg")), true, true)
	want(t, "most curls", all(impl.CanBeDrawn("aabbccddeeffgghh")), true, true)
	want(t, "curls in curls", all(impl.CanBeDrawn("abcdefghhgfedcba")), true, true)
	want(t, "not without a letter", all(impl.CanBeDrawn("abcdefghabcdefgh")), false, true)
}

func TestLoopsAreDrawnAlike(t *testing.T) {
	eachLoop(func(w string) {
		drawn, _ := impl.CanBeDrawn(w)
		even, _ := impl.IsEvenLoop(w)
		one, _ := impl.IsOneLoop(w)
		curls, _ := impl.CurlsOf(w)
		first, _ := impl.FirstLoop(w)
		for by := range max(len(w), 1) {
			turned, _ := impl.TurnLoop(w, by)
			back, ok := impl.BackLoop(turned)
			for _, same := range []string{turned, back} {
				want(t, "drawn alike "+w+" "+same, all(impl.CanBeDrawn(same)), drawn, ok)
				want(t, "even alike "+w+" "+same, all(impl.IsEvenLoop(same)), even, ok)
				want(t, "one alike "+w+" "+same, all(impl.IsOneLoop(same)), one, ok)
				want(t, "first alike "+w+" "+same, all(impl.FirstLoop(same)), first, ok)
				want(t, "the same "+w+" "+same, all(impl.SameLoops(w, same)), true, ok)
				its, _ := impl.CurlsOf(same)
				want(t, "as many curls "+w+" "+same, all(len(its)), len(curls))
			}
		}
	})
}

func TestTurnedAndBack(t *testing.T) {
	eachLoop(func(w string) {
		for by, told := range plainTurns(w) {
			want(t, "turned "+w, all(impl.TurnLoop(w, by)), told, true)
		}
		want(t, "turned by all "+w, all(impl.TurnLoop(w, max(len(w), 1))), "", false)
		want(t, "turned by -1 "+w, all(impl.TurnLoop(w, -1)), "", false)
		back := plainBackLoop(w)
		want(t, "back "+w, all(impl.BackLoop(w)), back, true)
		want(t, "back again "+w, all(impl.BackLoop(back)), w, true)
	})
	for _, by := range loopNumbers {
		if by < 0 || by > 5 {
			want(t, "turned by other numbers", all(impl.TurnLoop("abcabc", by)), "", false)
		}
	}
	want(t, "by 0", all(impl.TurnLoop("abcacb", 0)), "abcacb", true)
	want(t, "by 1", all(impl.TurnLoop("abcacb", 1)), "abcbac", true)
	want(t, "by the last sign", all(impl.TurnLoop("abcacb", 5)), "abacbc", true)
	want(t, "most signs", all(impl.TurnLoop("abcdefghbadcfehg", 15)), "abcdefgahcbedgfh", true)
	want(t, "back", all(impl.BackLoop("aabbcc")), "aabbcc", true)
	want(t, "back with letters named anew", all(impl.BackLoop("abacbdcd")), "abacbdcd", true)
	want(t, "another one back", all(impl.BackLoop("abbcac")), "abaccb", true)
}

func TestFirstLoops(t *testing.T) {
	firsts := map[string]int{}
	eachLoop(func(w string) {
		first := sameAs(w)[0]
		want(t, "first "+w, all(impl.FirstLoop(w)), first, true)
		want(t, "first already "+first, all(impl.FirstLoop(first)), first, true)
		if len(w) == 6 {
			firsts[first]++
		}
	})
	// These are the ways to draw three chords between six points of a circle that may be turned and turned over.
	want(t, "different ones of three crossings", all(firsts), map[string]int{"aabbcc": 2, "aabccb": 3, "aabcbc": 6, "abacbc": 3, "abcabc": 1})
	want(t, "just back", all(impl.FirstLoop("abbacddeec")), sameAs("abbacddeec")[0], true)
}

func TestSameLoops(t *testing.T) {
	for crossings := range 5 {
		for _, a := range loopsOf(crossings) {
			same := sameAs(a)
			for other := range 5 {
				for _, b := range loopsOf(other) {
					_, told := slices.BinarySearch(same, b)
					want(t, "same "+a+" "+b, all(impl.SameLoops(a, b)), told, true)
				}
			}
		}
	}
	list := append(pickedLoops(8, 40), namedLoops()...)
	for _, a := range list {
		for _, b := range list {
			want(t, "same "+a+" "+b, all(impl.SameLoops(a, b)), slices.Contains(sameAs(a), b), true)
		}
	}
}

// onlyBack returns loops that are told back from others and are not these told from another sign on.
func onlyBack() [][2]string {
	var list [][2]string
	for crossings := range 6 {
		for _, w := range loopsOf(crossings) {
			if back := plainBackLoop(w); !slices.Contains(plainTurns(w), back) {
				list = append(list, [2]string{w, back})
			}
		}
	}
	return list
}

func TestLoopsThatAreTheSameBackAlone(t *testing.T) {
	list := onlyBack()
	if len(list) == 0 {
		t.Error("no such loops")
	}
	for _, pair := range list {
		want(t, "same", all(impl.SameLoops(pair[0], pair[1])), true, true)
		first, ok := impl.FirstLoop(pair[0])
		want(t, "first", all(impl.FirstLoop(pair[1])), first, ok)
	}
}

func TestDroppedCrossings(t *testing.T) {
	eachLoop(func(w string) {
		for _, a := range lettersOf(w) {
			told := plainNamed(strings.ReplaceAll(w, a, ""))
			want(t, "dropped "+w+" "+a, all(impl.DropCrossing(w, a)), told, true)
			want(t, "a loop "+told, all(impl.IsLoop(told)), true)
		}
	})
	want(t, "first one", all(impl.DropCrossing("abcacb", "a")), "abba", true)
	want(t, "middle one", all(impl.DropCrossing("abcacb", "b")), "abab", true)
	want(t, "last one", all(impl.DropCrossing("abcacb", "c")), "abab", true)
}

func TestJoined(t *testing.T) {
	var list []string
	for crossings := range 9 {
		list = append(list, strings.Repeat("abcdefgh"[:crossings], 2))
	}
	for i, a := range list {
		for j, b := range list {
			told := ""
			if i+j <= 8 {
				told = a + onward(b, i)
			}
			want(t, "joined "+a+" "+b, all(impl.JoinLoops(a, b)), told, i+j <= 8)
		}
	}
	for _, a := range append(loopsOf(3), loopsOf(2)...) {
		for _, b := range append(loopsOf(3), loopsOf(1)...) {
			told := a + onward(b, len(a)/2)
			want(t, "joined "+a+" "+b, all(impl.JoinLoops(a, b)), told, true)
			want(t, "a loop "+told, all(impl.IsLoop(told)), true)
		}
	}
	want(t, "most", all(impl.JoinLoops("abcabcdd", "abcdabcd")), "abcabcddefghefgh", true)
	want(t, "one more", all(impl.JoinLoops("abcabcdd", "abcdeabcde")), "", false)
	want(t, "most and none", all(impl.JoinLoops("abcdefghabcdefgh", "")), "abcdefghabcdefgh", true)
	want(t, "none and most", all(impl.JoinLoops("", "abcdefghabcdefgh")), "abcdefghabcdefgh", true)
	want(t, "most and one", all(impl.JoinLoops("abcdefghabcdefgh", "aa")), "", false)
	want(t, "one and most", all(impl.JoinLoops("aa", "abcdefghabcdefgh")), "", false)
	want(t, "most and most", all(impl.JoinLoops("aabbccddeeffgghh", "aabbccddeeffgghh")), "", false)
}

// onward names letters so many further on.
func onward(w string, by int) string {
	return strings.Map(func(sign rune) rune { return sign + rune(by) }, w)
}

func TestCurls(t *testing.T) {
	eachLoop(func(w string) { want(t, "curls "+w, all(impl.CurlsOf(w)), plainCurls(w), true) })
	want(t, "around", all(impl.CurlsOf("abba")), "ab", true)
	want(t, "around alone", all(impl.CurlsOf("abcbca")), "a", true)
	want(t, "all", all(impl.CurlsOf("aabbccddeeffgghh")), "abcdefgh", true)
	want(t, "most around", all(impl.CurlsOf("abbccddeeffgghha")), "abcdefgh", true)
	want(t, "none", all(impl.CurlsOf("abcabc")), "", true)
	want(t, "not the first and the last sign of different letters", all(impl.CurlsOf("abab")), "", true)
}

func TestIsOneLoop(t *testing.T) {
	eachLoop(func(w string) { want(t, "one "+w, all(impl.IsOneLoop(w)), plainOne(w), true) })
	want(t, "leaves", all(impl.IsOneLoop("abcabc")), true, true)
	want(t, "part at the end", all(impl.IsOneLoop("ababcc")), false, true)
	want(t, "part at the beginning", all(impl.IsOneLoop("aabcbc")), false, true)
	want(t, "part in the middle", all(impl.IsOneLoop("abccab")), false, true)
	want(t, "part around", all(impl.IsOneLoop("abcbca")), false, true)
	want(t, "parts of many letters", all(impl.IsOneLoop("abcdabcdefghefgh")), false, true)
	want(t, "chain", all(impl.IsOneLoop("abacbdcedfegfhgh")), true, true)
}

func TestCountLoops(t *testing.T) {
	for crossings, count := range loopCounts {
		want(t, "count", all(impl.CountLoops(crossings)), count, true)
	}
	drawn := []int{1, 1, 2, 6, 24}
	for crossings, count := range drawn {
		want(t, "drawn", all(impl.CountDrawn(crossings)), count, true)
		want(t, "all", all(impl.AllLoops(crossings)), loopsOf(crossings), true)
	}
	for _, crossings := range append(slices.Clone(edgeNumbers), loopNumbers...) {
		if crossings < 0 || crossings > 8 {
			want(t, "other numbers", all(impl.CountLoops(crossings)), 0, false)
			for _, rank := range loopNumbers {
				want(t, "rank of other numbers", all(impl.LoopOfRank(crossings, rank)), "", false)
			}
		}
		if crossings < 0 || crossings > 4 {
			want(t, "all of other numbers", all(impl.AllLoops(crossings)), noLoopList, false)
			want(t, "drawn of other numbers", all(impl.CountDrawn(crossings)), 0, false)
		}
	}
}

func TestLoopsAreRanked(t *testing.T) {
	// Of the loops with the most crossings just some are asked.
	for crossings, every := range []int{1, 1, 1, 1, 1, 1, 1, 7, 101} {
		rank := 0
		eachLoopOf(crossings, func(w string) {
			if rank%every == 0 || rank >= loopCounts[crossings]-3 {
				want(t, "of rank", all(impl.LoopOfRank(crossings, rank)), w, true)
				want(t, "rank of "+w, all(impl.RankOfLoop(w)), rank, true)
			}
			rank++
		})
		want(t, "all of them", all(rank), loopCounts[crossings])
		want(t, "one more", all(impl.LoopOfRank(crossings, rank)), "", false)
		want(t, "less than 0", all(impl.LoopOfRank(crossings, -1)), "", false)
		for _, other := range loopNumbers {
			if other < 0 || other >= rank {
				want(t, "other ranks", all(impl.LoopOfRank(crossings, other)), "", false)
			}
		}
	}
	want(t, "first", all(impl.LoopOfRank(8, 0)), "aabbccddeeffgghh", true)
	want(t, "last", all(impl.LoopOfRank(8, 2027024)), "abcdefghhgfedcba", true)
	want(t, "rank of the last", all(impl.RankOfLoop("abcdefghhgfedcba")), 2027024, true)
}

// noLetters returns texts that are no letters of a loop with so many crossings.
func noLetters(crossings int) []string {
	list := []string{"", "aa", "ab", "a ", " a", "a\x00", "\x00", "`", "{", "A", "B", "i", "z", "1", " ", "-", "\xe1", "\xff", "á", "ａ", "a\n", "abc", strings.Repeat("a", 100000)}
	return append(list, string("abcdefghi"[crossings]))
}

func TestFailsForNoLetter(t *testing.T) {
	for _, w := range append(namedLoops(), "", "aa", "abab", "abba", "abcabc") {
		for _, a := range noLetters(len(w) / 2) {
			want(t, "interlaced", all(impl.AreInterlaced(w, a, a)), false, false)
			want(t, "with", all(impl.InterlacedWith(w, a)), "", false)
			want(t, "dropped", all(impl.DropCrossing(w, a)), "", false)
			for _, b := range lettersOf(w) {
				want(t, "interlaced with one", all(impl.AreInterlaced(w, b, a)), false, false)
				want(t, "one interlaced", all(impl.AreInterlaced(w, a, b)), false, false)
			}
		}
	}
}

func TestFailsForNoLoop(t *testing.T) {
	for _, w := range noLoops() {
		call := shortened(w)
		want(t, call, all(impl.CountLoopCrossings(w)), 0, false)
		want(t, call, all(impl.IsEvenLoop(w)), false, false)
		want(t, call, all(impl.CanBeDrawn(w)), false, false)
		want(t, call, all(impl.BackLoop(w)), "", false)
		want(t, call, all(impl.FirstLoop(w)), "", false)
		want(t, call, all(impl.CurlsOf(w)), "", false)
		want(t, call, all(impl.IsOneLoop(w)), false, false)
		want(t, call, all(impl.RankOfLoop(w)), 0, false)
		want(t, call, all(impl.SameLoops(w, w)), false, false)
		want(t, call, all(impl.JoinLoops(w, w)), "", false)
		for _, by := range []int{-1, 0, 1, len(w)} {
			want(t, call, all(impl.TurnLoop(w, by)), "", false)
		}
		for _, other := range []string{"", "aa", "abcabc"} {
			want(t, call, all(impl.SameLoops(w, other)), false, false)
			want(t, call, all(impl.SameLoops(other, w)), false, false)
			want(t, call, all(impl.JoinLoops(w, other)), "", false)
			want(t, call, all(impl.JoinLoops(other, w)), "", false)
		}
		for _, a := range []string{"a", "b", "h", "", w} {
			want(t, call, all(impl.AreInterlaced(w, a, "a")), false, false)
			want(t, call, all(impl.AreInterlaced(w, "a", a)), false, false)
			want(t, call, all(impl.InterlacedWith(w, a)), "", false)
			want(t, call, all(impl.DropCrossing(w, a)), "", false)
		}
	}
}
