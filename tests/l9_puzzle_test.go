package tests

import (
	"math"
	"slices"
	"strconv"
	"strings"
	"sync"
	"testing"

	"loop.example/g01324/impl"
)

// noClueList is what a failed call returns in place of clues, and what a puzzle of no clue has.
var noClueList []impl.Clue

// noStarList is what a failed call returns in place of stars.
var noStarList []impl.Star

// clueNumbers are numbers at and beyond every limit of chapter 9, and numbers of 32 bits that would be less without the bits above.
var clueNumbers = []int{
	math.MinInt, math.MinInt + 1, math.MinInt32, -100, -14, -6, -2, -1, 0, 1, 2, 3, 4, 5, 6, 7, 8, 9, 13, 14, 15, 16, 99, 100, 101, 102, 255, 256, 260,
	1 << 32, 1<<32 + 1, 1<<32 + 4, 1<<32 + 5, 1 << 62, 1<<62 + 5, math.MaxInt - 1, math.MaxInt,
}

// leastOfKinds and mostOfKinds are the bounds of A in clues, by kinds.
var (
	leastOfKinds = []int{3, 1, 1, 0, 0, 1}
	mostOfKinds  = []int{14, 7, 14, 100, 14, 14}
)

// clues makes a list from Kind, A and B of each clue in turn.
func clues(numbers ...int) []impl.Clue {
	list := noClueList
	for i := 0; i < len(numbers); i += 3 {
		list = append(list, impl.Clue{Kind: numbers[i], A: numbers[i+1], B: numbers[i+2]})
	}
	return list
}

// puzzle makes a puzzle in the same way.
func puzzle(numbers ...int) impl.Puzzle { return impl.Puzzle{Clues: clues(numbers...)} }

// puzzleOf makes a puzzle of the clues of a list.
func puzzleOf(list []impl.Clue) impl.Puzzle { return impl.Puzzle{Clues: list} }

// inPuzzle makes a list of the results of a call that returns a puzzle: its clues, so that nil and empty ones are the same value.
func inPuzzle(p impl.Puzzle, ok bool) []any { return all(p.Clues, ok) }

// allClues returns every clue.
func allClues() []impl.Clue {
	list := noClueList
	for kind := range 6 {
		for a := leastOfKinds[kind]; a <= mostOfKinds[kind]; a++ {
			list = append(list, impl.Clue{Kind: kind, A: a})
		}
	}
	for a := range 15 {
		for b := 1; b < 15; b++ {
			list = append(list, impl.Clue{Kind: 4, A: a, B: b})
		}
	}
	return list
}

// noClues returns clues just beyond the bounds of each kind, and with numbers far beyond.
func noClues() []impl.Clue {
	list := clues(-1, 1, 0, -1, 5, 0, 6, 1, 0, 6, 5, 0, 7, 5, 0, 4, -1, 0, 4, 15, 0, 4, 0, -1, 4, 0, 15, 4, -1, 15, 4, 15, -1, 4, -1, -1, 4, 15, 15)
	for kind := range 6 {
		least, most := leastOfKinds[kind], mostOfKinds[kind]
		list = append(list, clues(kind, least-1, 0, kind, most+1, 0, kind, least, -1, kind, most, -1, kind, -least, 0, kind, -most-1, 0)...)
		if kind != 4 {
			list = append(list, clues(kind, least, 1, kind, most, 1, kind, 5, 5, kind, 5, 14)...)
		}
		for _, n := range []int{math.MinInt, math.MaxInt, 1<<32 + 5, 1<<62 + 5} {
			list = append(list, clues(n, 5, 0, n+kind, 5, 0, kind, n, 0, kind, 5, n, kind, n, n, n, n, n)...)
		}
	}
	// Where the least A is 0, its opposite is none of the numbers that are too small.
	return slices.DeleteFunc(list, isPlainClue)
}

// isPlainClue looks for a clue among all.
func isPlainClue(c impl.Clue) bool { return slices.Contains(everyClue(), c) }

// everyClue are all clues, listed once.
var everyClue = sync.OnceValue(allClues)

// noPuzzles returns puzzles that are none: with a clue that is none before, between and behind others, and with too many.
func noPuzzles() []impl.Puzzle {
	var list []impl.Puzzle
	for _, none := range noClues() {
		for _, size := range []int{1, 2, 6} {
			for place := range size {
				with := slices.Repeat(clues(0, 5, 0), size)
				with[place] = none
				list = append(list, puzzleOf(with))
			}
		}
	}
	for _, size := range []int{7, 8, 100, 1 << 16} {
		list = append(list, puzzleOf(slices.Repeat(clues(0, 5, 0), size)), puzzleOf(make([]impl.Clue, size)))
	}
	return append(list, puzzleOf(everyClue()), puzzleOf(everyClue()[:7]))
}

// hiddenStar is a hidden star with what is told of it: a number for each kind of clues but that of lines, and the points to which lines lead.
type hiddenStar struct {
	star impl.Star
	told [6]int
	to   []int
}

// hidden are all hidden stars, found once.
var hidden = sync.OnceValue(func() []hiddenStar {
	var list []hiddenStar
	for _, s := range allStars() {
		if s.Points <= 14 {
			list = append(list, plainHiddenStar(s))
		}
	}
	return list
})

// plainHiddenStar goes along all lines of a star, and counts its strings, the times that one comes by the point 0, and all two chords that cross.
func plainHiddenStar(s impl.Star) hiddenStar {
	h := hiddenStar{star: s}
	count, turns := 0, 0
	for p := range s.Points {
		points := walk(s, p)
		h.to = append(h.to, points[1])
		if slices.Min(points) == p {
			count++
		}
	}
	for p := 0; turns == 0 || p != 0; p = h.to[p] {
		if h.to[p] < p {
			turns++
		}
	}
	list := plainChords(s)
	h.told = [6]int{s.Points, count, turns, len(plainPairs(s.Points, list)), 0, len(list)}
	return h
}

// fitsPlain reports whether a clue tells of a star what it has.
func (h hiddenStar) fitsPlain(c impl.Clue) bool {
	if c.Kind == 4 {
		return c.A < h.star.Points && h.to[c.A] == c.B
	}
	return h.told[c.Kind] == c.A
}

// plainSolutions asks all hidden stars for all clues of a list.
func plainSolutions(list []impl.Clue) []impl.Star {
	found := noStarList
	for _, h := range hidden() {
		fitting := 0
		for _, c := range list {
			if h.fitsPlain(c) {
				fitting++
			}
		}
		if fitting == len(list) {
			found = append(found, h.star)
		}
	}
	return found
}

// plainKept returns the clues of a list that are kept.
func plainKept(list []impl.Clue, kept []bool) []impl.Clue {
	left := noClueList
	for k, c := range list {
		if kept[k] {
			left = append(left, c)
		}
	}
	return left
}

// plainWithout returns the clues of a list but one.
func plainWithout(list []impl.Clue, k int) []impl.Clue {
	kept := slices.Repeat([]bool{true}, len(list))
	kept[k] = false
	return plainKept(list, kept)
}

// plainHarder marks clues as taken out, one after the other, and takes back each mark that leaves more stars than one.
func plainHarder(list []impl.Clue) []impl.Clue {
	kept := slices.Repeat([]bool{true}, len(list))
	for k := range list {
		kept[k] = false
		kept[k] = len(plainSolutions(plainKept(list, kept))) != 1
	}
	return plainKept(list, kept)
}

// plainPuzzleText writes clues in their order.
func plainPuzzleText(list []impl.Clue) string {
	var parts []string
	for _, c := range list {
		parts = append(parts, strconv.Itoa(c.Kind)+"."+strconv.Itoa(c.A)+"."+strconv.Itoa(c.B))
	}
	return strings.Join(parts, ",")
}

// namedPuzzles returns the clues of puzzles that are told one by one.
func namedPuzzles() [][]impl.Clue {
	return [][]impl.Clue{
		nil, clues(0, 5, 0, 4, 0, 2), clues(0, 6, 0, 1, 2, 0), clues(4, 0, 2), clues(1, 2, 0), clues(0, 5, 0, 0, 6, 0), clues(0, 5, 0, 0, 6, 0, 0, 7, 0),
		clues(4, 5, 5), clues(4, 14, 0), clues(4, 0, 14), clues(4, 13, 12), clues(0, 5, 0, 5, 5, 0, 4, 0, 2), clues(0, 4, 0, 1, 2, 0, 3, 1, 0),
		clues(3, 1, 0, 0, 4, 0, 1, 2, 0), clues(0, 5, 0, 0, 5, 0), clues(0, 5, 0, 4, 0, 2, 0, 5, 0, 4, 0, 2, 0, 5, 0, 4, 0, 2), clues(1, 7, 0), clues(2, 13, 0),
		clues(2, 14, 0), clues(3, 100, 0), clues(3, 70, 0), clues(3, 2, 0), clues(5, 14, 0), clues(5, 1, 0), clues(5, 2, 0), slices.Repeat(clues(3, 0, 0), 6),
		clues(4, 0, 2, 0, 5, 0, 0, 5, 0), clues(0, 5, 0, 4, 0, 2, 4, 4, 1), clues(4, 4, 1, 4, 3, 0, 4, 0, 2), clues(4, 2, 0, 0, 14, 0, 5, 7, 0, 1, 2, 0, 2, 6, 0, 3, 42, 0),
		clues(5, 7, 0, 0, 14, 0, 3, 21, 0, 1, 7, 0, 2, 1, 0, 4, 13, 6), clues(0, 3, 0, 2, 1, 0, 3, 0, 0, 1, 1, 0, 5, 3, 0, 4, 2, 0),
	}
}

// pickedClues picks so many clues that a star fits, or any where the number picked says so.
func pickedClues(h hiddenStar, size int, z *uint32) []impl.Clue {
	list, every := noClueList, everyClue()
	for range size {
		*z = *z*1664525 + 1013904223
		kind, p := int(*z>>8)%6, int(*z>>16)%h.star.Points
		switch {
		case *z>>28 == 0:
			list = append(list, every[int(*z>>8)%len(every)])
		case kind == 4:
			list = append(list, impl.Clue{Kind: 4, A: p, B: h.to[p]})
		default:
			list = append(list, impl.Clue{Kind: kind, A: h.told[kind]})
		}
	}
	return list
}

// eachPuzzle calls a check with the clues of many puzzles: those of no clue and of each one, picked ones of all sizes, and those named.
func eachPuzzle(check func(list []impl.Clue)) {
	for _, c := range everyClue() {
		check([]impl.Clue{c})
	}
	z := uint32(9)
	for _, h := range hidden() {
		for size := 2; size <= 6; size++ {
			check(pickedClues(h, size, &z))
			check(pickedClues(h, size, &z))
		}
	}
	for _, list := range namedPuzzles() {
		check(list)
	}
}

// checkNoPuzzle checks that all calls with a puzzle that is none fail with zero results.
func checkNoPuzzle(t *testing.T, p impl.Puzzle) {
	t.Helper()
	want(t, "is", all(impl.IsPuzzle(p)), false)
	want(t, "solutions", all(impl.Solutions(p)), noStarList, false)
	want(t, "count", all(impl.CountSolutions(p)), 0, false)
	want(t, "first", all(impl.FirstSolution(p)), impl.Star{}, false)
	want(t, "sure", all(impl.SureStar(p)), 0, 0, false)
	want(t, "solved", all(impl.IsSolved(p)), false, false)
	want(t, "needless", all(impl.NeedlessClues(p)), noNumbers, false)
	want(t, "left", all(impl.LeftByClues(p)), noNumbers, false)
	want(t, "best", all(impl.BestClue(p)), 0, false)
	want(t, "harder", all(impl.HarderPuzzle(p)), impl.Puzzle{}, false)
	want(t, "text", all(impl.PuzzleText(p)), "", false)
	want(t, "add", all(impl.AddClue(p, impl.Clue{Kind: 0, A: 5})), impl.Puzzle{}, false)
	for _, k := range []int{0, 1, len(p.Clues) - 1} {
		want(t, "drop", all(impl.DropClue(p, k)), impl.Puzzle{}, false)
	}
}

func TestPuzzleExample(t *testing.T) {
	p, ok := impl.ParsePuzzle("0.5.0,4.0.2")
	want(t, "parse", inPuzzle(p, ok), clues(0, 5, 0, 4, 0, 2), true)
	want(t, "solutions", all(impl.Solutions(p)), []impl.Star{{Points: 5, Step: 2}}, true)
	want(t, "left", all(impl.LeftByClues(p)), []int{90, 4, 1}, true)
	q, ok := impl.ParsePuzzle("0.6.0,1.2.0")
	want(t, "parse", inPuzzle(q, ok), clues(0, 6, 0, 1, 2, 0), true)
	want(t, "solutions", all(impl.Solutions(q)), []impl.Star{{Points: 6, Step: 2}, {Points: 6, Step: 4}}, true)
	want(t, "sure", all(impl.SureStar(q)), 6, 0, true)
	want(t, "crossing of 3 points", all(impl.DoesFit(impl.Clue{Kind: 3, A: 0}, impl.Star{Points: 3, Step: 2})), true, true)
	want(t, "step 1", all(impl.DoesFit(impl.Clue{Kind: 3, A: 0}, impl.Star{Points: 14, Step: 1})), true, true)
}

func TestIsClue(t *testing.T) {
	for _, kind := range clueNumbers {
		for _, a := range clueNumbers {
			for _, b := range clueNumbers {
				c := impl.Clue{Kind: kind, A: a, B: b}
				isOne := false
				switch kind {
				case 0:
					isOne = a >= 3 && a <= 14 && b == 0
				case 1:
					isOne = a >= 1 && a <= 7 && b == 0
				case 2, 5:
					isOne = a >= 1 && a <= 14 && b == 0
				case 3:
					isOne = a >= 0 && a <= 100 && b == 0
				case 4:
					isOne = a >= 0 && a <= 14 && b >= 0 && b <= 14
				}
				want(t, "clue", all(impl.IsClue(c)), isOne)
				want(t, "alone", all(impl.IsPuzzle(puzzle(kind, a, b))), isOne)
			}
		}
	}
	for _, c := range everyClue() {
		want(t, "every clue", all(impl.IsClue(c)), true)
	}
	for _, c := range noClues() {
		want(t, "none", all(impl.IsClue(c)), false)
	}
}

func TestIsPuzzle(t *testing.T) {
	want(t, "no clue", all(impl.IsPuzzle(impl.Puzzle{})), true)
	want(t, "an empty list", all(impl.IsPuzzle(impl.Puzzle{Clues: []impl.Clue{}})), true)
	for size := range 10 {
		want(t, "so many", all(impl.IsPuzzle(puzzleOf(everyClue()[:size]))), size <= 6)
		want(t, "so many times one", all(impl.IsPuzzle(puzzleOf(slices.Repeat(clues(4, 14, 14), size)))), size <= 6)
	}
	for _, p := range noPuzzles() {
		checkNoPuzzle(t, p)
	}
}

func TestDoesFit(t *testing.T) {
	want(t, "hidden stars", all(len(hidden())), 90)
	for _, h := range hidden() {
		for _, c := range everyClue() {
			want(t, "fit", all(impl.DoesFit(c, h.star)), h.fitsPlain(c), true)
		}
		for _, c := range noClues() {
			want(t, "no clue", all(impl.DoesFit(c, h.star)), false, false)
		}
	}
	for _, s := range allStars() {
		if s.Points > 14 {
			want(t, "not hidden", all(impl.DoesFit(impl.Clue{Kind: 3, A: 0}, s)), false, false)
			want(t, "a line of a star that is not hidden", all(impl.DoesFit(impl.Clue{Kind: 4, A: 0, B: min(s.Step, 14)}, s)), false, false)
		}
	}
	for _, s := range noStars {
		for _, c := range everyClue() {
			want(t, "no star", all(impl.DoesFit(c, s)), false, false)
		}
	}
}

func TestDoesFitOneByOne(t *testing.T) {
	for _, told := range []struct {
		clue impl.Clue
		star impl.Star
		does bool
	}{
		{impl.Clue{Kind: 0, A: 3}, impl.Star{Points: 3, Step: 1}, true}, {impl.Clue{Kind: 0, A: 14}, impl.Star{Points: 14, Step: 13}, true},
		{impl.Clue{Kind: 1, A: 7}, impl.Star{Points: 14, Step: 7}, true}, {impl.Clue{Kind: 1, A: 2}, impl.Star{Points: 6, Step: 4}, true},
		{impl.Clue{Kind: 2, A: 13}, impl.Star{Points: 14, Step: 13}, true}, {impl.Clue{Kind: 2, A: 2}, impl.Star{Points: 12, Step: 8}, true},
		{impl.Clue{Kind: 2, A: 8}, impl.Star{Points: 12, Step: 8}, false}, {impl.Clue{Kind: 3, A: 5}, impl.Star{Points: 5, Step: 3}, true},
		{impl.Clue{Kind: 3, A: 70}, impl.Star{Points: 14, Step: 8}, true}, {impl.Clue{Kind: 3, A: 21}, impl.Star{Points: 14, Step: 7}, true},
		{impl.Clue{Kind: 3, A: 6}, impl.Star{Points: 6, Step: 2}, true}, {impl.Clue{Kind: 3, A: 3}, impl.Star{Points: 6, Step: 3}, true},
		{impl.Clue{Kind: 4, A: 0, B: 2}, impl.Star{Points: 5, Step: 2}, true}, {impl.Clue{Kind: 4, A: 2, B: 0}, impl.Star{Points: 5, Step: 2}, false},
		{impl.Clue{Kind: 4, A: 2, B: 0}, impl.Star{Points: 5, Step: 3}, true}, {impl.Clue{Kind: 4, A: 4, B: 1}, impl.Star{Points: 5, Step: 2}, true},
		{impl.Clue{Kind: 4, A: 5, B: 2}, impl.Star{Points: 5, Step: 2}, false}, {impl.Clue{Kind: 4, A: 5, B: 0}, impl.Star{Points: 5, Step: 2}, false},
		{impl.Clue{Kind: 4, A: 4, B: 6}, impl.Star{Points: 5, Step: 2}, false}, {impl.Clue{Kind: 4, A: 3, B: 3}, impl.Star{Points: 5, Step: 2}, false},
		{impl.Clue{Kind: 4, A: 3, B: 0}, impl.Star{Points: 3, Step: 1}, false}, {impl.Clue{Kind: 4, A: 14, B: 0}, impl.Star{Points: 14, Step: 1}, false},
		{impl.Clue{Kind: 4, A: 13, B: 14}, impl.Star{Points: 14, Step: 1}, false}, {impl.Clue{Kind: 4, A: 13, B: 0}, impl.Star{Points: 14, Step: 1}, true},
		{impl.Clue{Kind: 5, A: 7}, impl.Star{Points: 14, Step: 7}, true}, {impl.Clue{Kind: 5, A: 14}, impl.Star{Points: 14, Step: 7}, false},
		{impl.Clue{Kind: 5, A: 2}, impl.Star{Points: 4, Step: 2}, true}, {impl.Clue{Kind: 5, A: 12}, impl.Star{Points: 12, Step: 8}, true},
	} {
		want(t, "fit", all(impl.DoesFit(told.clue, told.star)), told.does, true)
	}
	want(t, "one point more", all(impl.DoesFit(impl.Clue{Kind: 1, A: 1}, impl.Star{Points: 15, Step: 1})), false, false)
	want(t, "many points more", all(impl.DoesFit(impl.Clue{Kind: 4, A: 0, B: 1}, impl.Star{Points: 60, Step: 1})), false, false)
}

// checkSolutions checks what is told of the solutions of a puzzle.
func checkSolutions(t *testing.T, list []impl.Clue) {
	t.Helper()
	p, found := puzzleOf(list), plainSolutions(list)
	want(t, "is", all(impl.IsPuzzle(p)), true)
	want(t, "solutions", all(impl.Solutions(p)), found, true)
	want(t, "count", all(impl.CountSolutions(p)), len(found), true)
	want(t, "solved", all(impl.IsSolved(p)), len(found) == 1, true)
	if len(found) == 0 {
		want(t, "no first", all(impl.FirstSolution(p)), impl.Star{}, false)
		want(t, "none sure", all(impl.SureStar(p)), 0, 0, false)
		return
	}
	want(t, "first", all(impl.FirstSolution(p)), found[0], true)
	points, step := found[0].Points, found[0].Step
	for _, s := range found {
		if s.Points != found[0].Points {
			points = 0
		}
		if s.Step != found[0].Step {
			step = 0
		}
		for _, c := range list {
			want(t, "a solution fits", all(impl.DoesFit(c, s)), true, true)
		}
	}
	want(t, "sure", all(impl.SureStar(p)), points, step, true)
}

func TestSolutionsFitAllClues(t *testing.T) {
	eachPuzzle(func(list []impl.Clue) { checkSolutions(t, list) })
	// Also the order in which clues are told does not matter.
	for _, list := range namedPuzzles() {
		back := slices.Clone(list)
		slices.Reverse(back)
		want(t, "back", all(impl.Solutions(puzzleOf(back))), plainSolutions(list), true)
	}
}

func TestSolutionsOneByOne(t *testing.T) {
	every := noStarList
	for points := 3; points <= 14; points++ {
		for step := 1; step < points; step++ {
			every = append(every, impl.Star{Points: points, Step: step})
		}
	}
	want(t, "no clue", all(impl.Solutions(impl.Puzzle{})), every, true)
	want(t, "no clue", all(impl.CountSolutions(impl.Puzzle{})), 90, true)
	want(t, "no clue", all(impl.FirstSolution(impl.Puzzle{})), impl.Star{Points: 3, Step: 1}, true)
	want(t, "no clue", all(impl.SureStar(impl.Puzzle{})), 0, 0, true)
	want(t, "no clue", all(impl.IsSolved(impl.Puzzle{})), false, true)
	want(t, "an empty list", all(impl.CountSolutions(impl.Puzzle{Clues: []impl.Clue{}})), 90, true)
	want(t, "points", all(impl.SureStar(puzzle(0, 14, 0))), 14, 0, true)
	want(t, "step", all(impl.SureStar(puzzle(4, 0, 2))), 0, 2, true)
	want(t, "step", all(impl.CountSolutions(puzzle(4, 0, 2))), 12, true)
	want(t, "none", all(impl.SureStar(puzzle(1, 2, 0))), 0, 0, true)
	want(t, "both", all(impl.SureStar(puzzle(1, 7, 0))), 14, 7, true)
	want(t, "points of three", all(impl.Solutions(puzzle(0, 3, 0))), []impl.Star{{Points: 3, Step: 1}, {Points: 3, Step: 2}}, true)
	want(t, "one crossing", all(impl.Solutions(puzzle(3, 1, 0))), []impl.Star{{Points: 4, Step: 2}}, true)
	want(t, "thirteen turns", all(impl.Solutions(puzzle(2, 13, 0))), []impl.Star{{Points: 14, Step: 13}}, true)
	want(t, "two chords", all(impl.Solutions(puzzle(5, 2, 0))), []impl.Star{{Points: 4, Step: 2}}, true)
	want(t, "five chords", all(impl.Solutions(puzzle(5, 5, 0))), []impl.Star{{Points: 5, Step: 1}, {Points: 5, Step: 2}, {Points: 5, Step: 3}, {Points: 5, Step: 4}, {Points: 10, Step: 5}}, true)
	want(t, "seven strings", all(impl.Solutions(puzzle(1, 7, 0))), []impl.Star{{Points: 14, Step: 7}}, true)
	want(t, "six strings", all(impl.Solutions(puzzle(1, 6, 0))), []impl.Star{{Points: 12, Step: 6}}, true)
	want(t, "twice", all(impl.Solutions(puzzle(0, 3, 0, 0, 3, 0))), []impl.Star{{Points: 3, Step: 1}, {Points: 3, Step: 2}}, true)
	for _, list := range [][]impl.Clue{clues(0, 5, 0, 0, 6, 0), clues(4, 5, 5), clues(4, 14, 0), clues(4, 0, 14), clues(2, 14, 0), clues(3, 100, 0), clues(3, 2, 0), clues(5, 1, 0)} {
		p := puzzleOf(list)
		want(t, "no solution", all(impl.Solutions(p)), noStarList, true)
		want(t, "no solution", all(impl.CountSolutions(p)), 0, true)
		want(t, "no solution", all(impl.FirstSolution(p)), impl.Star{}, false)
		want(t, "no solution", all(impl.SureStar(p)), 0, 0, false)
		want(t, "no solution", all(impl.IsSolved(p)), false, true)
		want(t, "no solution", all(impl.HarderPuzzle(p)), impl.Puzzle{}, false)
	}
}

// checkClues checks what is told of the single clues of a puzzle.
func checkClues(t *testing.T, list []impl.Clue) {
	t.Helper()
	p, count := puzzleOf(list), len(plainSolutions(list))
	needless, left, best, fewest := noNumbers, []int{90}, 0, 91
	for k := range list {
		if len(plainSolutions(plainWithout(list, k))) == count {
			needless = append(needless, k)
		}
		if alone := len(plainSolutions(list[k : k+1])); alone < fewest {
			best, fewest = k, alone
		}
		left = append(left, len(plainSolutions(list[:k+1])))
	}
	want(t, "needless", all(impl.NeedlessClues(p)), needless, true)
	want(t, "left", all(impl.LeftByClues(p)), left, true)
	want(t, "best", all(impl.BestClue(p)), best, len(list) > 0)
}

func TestSingleClues(t *testing.T) {
	eachPuzzle(func(list []impl.Clue) { checkClues(t, list) })
	want(t, "no clue", all(impl.NeedlessClues(impl.Puzzle{})), noNumbers, true)
	want(t, "no clue", all(impl.LeftByClues(impl.Puzzle{})), []int{90}, true)
	want(t, "no clue", all(impl.BestClue(impl.Puzzle{})), 0, false)
	want(t, "an empty list", all(impl.BestClue(impl.Puzzle{Clues: []impl.Clue{}})), 0, false)
	// Each of the first two alone is needless, but not both.
	want(t, "not both", all(impl.NeedlessClues(puzzle(0, 5, 0, 5, 5, 0, 4, 0, 2))), []int{0, 1}, true)
	want(t, "without both", all(impl.CountSolutions(puzzle(4, 0, 2))), 12, true)
	want(t, "twice", all(impl.NeedlessClues(puzzle(0, 5, 0, 4, 0, 2, 0, 5, 0))), []int{0, 2}, true)
	want(t, "none", all(impl.NeedlessClues(puzzle(0, 5, 0, 4, 0, 2))), noNumbers, true)
	want(t, "no two fit", all(impl.NeedlessClues(puzzle(0, 5, 0, 0, 6, 0))), noNumbers, true)
	want(t, "no two of three fit", all(impl.NeedlessClues(puzzle(0, 5, 0, 0, 6, 0, 0, 7, 0))), []int{0, 1, 2}, true)
	want(t, "as few", all(impl.BestClue(puzzle(4, 0, 2, 0, 5, 0, 0, 5, 0))), 1, true)
	want(t, "as few", all(impl.BestClue(puzzle(0, 5, 0, 4, 0, 2, 4, 5, 5, 0, 5, 0, 4, 14, 0))), 2, true)
	want(t, "the last one", all(impl.BestClue(puzzle(1, 1, 0, 4, 0, 2, 0, 5, 0))), 2, true)
	want(t, "one", all(impl.BestClue(puzzle(3, 0, 0))), 0, true)
}

// checkChanged checks puzzles with a clue less and with one more.
func checkChanged(t *testing.T, list []impl.Clue, more impl.Clue) {
	t.Helper()
	p := puzzleOf(list)
	for k := range list {
		want(t, "drop", inPuzzle(impl.DropClue(p, k)), plainWithout(list, k), true)
	}
	for _, k := range []int{math.MinInt, -1, len(list), len(list) + 1, 6, 1 << 32, math.MaxInt} {
		want(t, "drop none", all(impl.DropClue(p, k)), impl.Puzzle{}, false)
	}
	if len(list) == 6 {
		want(t, "add too many", all(impl.AddClue(p, more)), impl.Puzzle{}, false)
		return
	}
	want(t, "add", inPuzzle(impl.AddClue(p, more)), append(slices.Clone(list), more), true)
}

func TestChangedPuzzles(t *testing.T) {
	every, at := everyClue(), 0
	eachPuzzle(func(list []impl.Clue) {
		checkChanged(t, list, every[at%len(every)])
		at++
	})
	for _, c := range noClues() {
		for _, list := range [][]impl.Clue{nil, clues(0, 5, 0), slices.Repeat(clues(0, 5, 0), 5), slices.Repeat(clues(0, 5, 0), 6)} {
			want(t, "add none", all(impl.AddClue(puzzleOf(list), c)), impl.Puzzle{}, false)
		}
	}
	want(t, "the first one", inPuzzle(impl.DropClue(puzzle(0, 5, 0, 4, 0, 2), 0)), clues(4, 0, 2), true)
	want(t, "the last one", inPuzzle(impl.DropClue(puzzle(0, 5, 0, 4, 0, 2), 1)), clues(0, 5, 0), true)
	want(t, "the only one", inPuzzle(impl.DropClue(puzzle(0, 5, 0), 0)), noClueList, true)
	want(t, "of none", all(impl.DropClue(impl.Puzzle{}, 0)), impl.Puzzle{}, false)
	want(t, "to none", inPuzzle(impl.AddClue(impl.Puzzle{}, impl.Clue{Kind: 4, A: 0, B: 2})), clues(4, 0, 2), true)
	want(t, "the same", inPuzzle(impl.AddClue(puzzle(0, 5, 0), impl.Clue{Kind: 0, A: 5})), clues(0, 5, 0, 0, 5, 0), true)
}

// checkHarder checks the harder puzzle of one.
func checkHarder(t *testing.T, list []impl.Clue) {
	t.Helper()
	p, found := puzzleOf(list), plainSolutions(list)
	if len(found) != 1 {
		want(t, "not solved", all(impl.HarderPuzzle(p)), impl.Puzzle{}, false)
		return
	}
	harder, ok := impl.HarderPuzzle(p)
	want(t, "harder", inPuzzle(harder, ok), plainHarder(list), true)
	want(t, "the same star", all(impl.Solutions(harder)), found, true)
	want(t, "nothing needless", all(impl.NeedlessClues(harder)), noNumbers, true)
	want(t, "not harder still", inPuzzle(impl.HarderPuzzle(harder)), harder.Clues, true)
}

func TestHarderPuzzlesAreSolvedByTheSameStar(t *testing.T) {
	eachPuzzle(func(list []impl.Clue) { checkHarder(t, list) })
	want(t, "none goes", inPuzzle(impl.HarderPuzzle(puzzle(0, 5, 0, 4, 0, 2))), clues(0, 5, 0, 4, 0, 2), true)
	want(t, "all but one go", inPuzzle(impl.HarderPuzzle(puzzle(0, 4, 0, 1, 2, 0, 3, 1, 0))), clues(3, 1, 0), true)
	want(t, "the first one goes", inPuzzle(impl.HarderPuzzle(puzzle(3, 1, 0, 0, 4, 0, 1, 2, 0))), clues(0, 4, 0, 1, 2, 0), true)
	want(t, "the first one of two", inPuzzle(impl.HarderPuzzle(puzzle(0, 5, 0, 5, 5, 0, 4, 0, 2))), clues(5, 5, 0, 4, 0, 2), true)
	want(t, "of two the first one", inPuzzle(impl.HarderPuzzle(puzzle(5, 5, 0, 4, 0, 2, 0, 5, 0))), clues(4, 0, 2, 0, 5, 0), true)
	want(t, "all but the last of one", inPuzzle(impl.HarderPuzzle(puzzleOf(slices.Repeat(clues(1, 7, 0), 6)))), clues(1, 7, 0), true)
	want(t, "the only one", inPuzzle(impl.HarderPuzzle(puzzle(1, 7, 0))), clues(1, 7, 0), true)
	want(t, "not solved", all(impl.HarderPuzzle(puzzle(0, 5, 0))), impl.Puzzle{}, false)
	want(t, "no clue", all(impl.HarderPuzzle(impl.Puzzle{})), impl.Puzzle{}, false)
}

// plainMade makes a puzzle from a row of numbers, two for each clue.
func plainMade(h hiddenStar, size int, seed int) []impl.Clue {
	row := []int{seed}
	for i := range 2 * size {
		row = append(row, (row[i]*199+2347)%10007)
	}
	list := noClueList
	for i := range size {
		kind, y := row[2*i+1]%6, row[2*i+2]
		c := impl.Clue{Kind: kind, A: h.told[kind]}
		if kind == 4 {
			c.A = y % h.star.Points
			c.B = h.to[c.A]
		}
		list = append(list, c)
	}
	return list
}

// checkMade checks a puzzle that is made.
func checkMade(t *testing.T, h hiddenStar, size int, seed int) {
	t.Helper()
	p, ok := impl.MakePuzzle(h.star, size, seed)
	want(t, "made", inPuzzle(p, ok), plainMade(h, size, seed), true)
	want(t, "clues", all(impl.IsPuzzle(p)), true)
	for _, c := range p.Clues {
		want(t, "the star fits", all(impl.DoesFit(c, h.star)), true, true)
	}
}

func TestMakePuzzle(t *testing.T) {
	for i, h := range hidden() {
		for size := range 7 {
			for _, seed := range []int{0, 1, 2, 3, 4, 5, 6, 7, 99, 1000, 5000 + i, 9998, 9999} {
				checkMade(t, h, size, seed)
			}
		}
	}
	for seed := range 10000 {
		checkMade(t, hidden()[seed%90], 6, seed)
	}
}

func TestMakePuzzleOneByOne(t *testing.T) {
	for _, told := range []struct {
		star impl.Star
		size int
		seed int
		text string
	}{
		{impl.Star{Points: 5, Step: 2}, 6, 0, "1.1.0,1.1.0,5.5.0,5.5.0,5.5.0,3.5.0"}, {impl.Star{Points: 5, Step: 2}, 6, 9999, "5.5.0,5.5.0,0.5.0,1.1.0,5.5.0,4.3.0"},
		{impl.Star{Points: 14, Step: 7}, 6, 0, "1.7.0,1.7.0,5.7.0,5.7.0,5.7.0,3.21.0"}, {impl.Star{Points: 14, Step: 13}, 6, 9999, "5.14.0,5.14.0,0.14.0,1.1.0,5.14.0,4.4.3"},
		{impl.Star{Points: 3, Step: 1}, 6, 1, "2.1.0,4.1.2,2.1.0,0.3.0,1.1.0,5.3.0"}, {impl.Star{Points: 12, Step: 8}, 6, 4321, "4.7.3,5.12.0,5.12.0,4.4.0,0.12.0,1.4.0"},
		{impl.Star{Points: 12, Step: 8}, 1, 4321, "4.7.3"}, {impl.Star{Points: 3, Step: 2}, 2, 1, "2.2.0,4.1.0"}, {impl.Star{Points: 14, Step: 1}, 0, 9999, ""},
	} {
		p, ok := impl.MakePuzzle(told.star, told.size, told.seed)
		want(t, "made", all(plainPuzzleText(p.Clues), ok), told.text, true)
	}
}

func TestNoPuzzleIsMade(t *testing.T) {
	five := impl.Star{Points: 5, Step: 2}
	for _, n := range clueNumbers {
		want(t, "clues", all(isMade(impl.MakePuzzle(five, n, 0))), n >= 0 && n <= 6)
		want(t, "seed", all(isMade(impl.MakePuzzle(five, 6, n))), n >= 0 && n <= 9999)
		if n < 0 || n > 6 {
			want(t, "no such number of clues", all(impl.MakePuzzle(five, n, 0)), impl.Puzzle{}, false)
		}
	}
	for _, seed := range []int{math.MinInt, -9999, -1, 10000, 10001, 10007, 1 << 32, math.MaxInt} {
		for size := range 7 {
			want(t, "no seed", all(impl.MakePuzzle(five, size, seed)), impl.Puzzle{}, false)
		}
	}
	for size := range 7 {
		for _, s := range append([]impl.Star{{Points: 15, Step: 1}, {Points: 15, Step: 14}, {Points: 28, Step: 7}, {Points: 60, Step: 59}}, noStars...) {
			want(t, "no hidden star", all(impl.MakePuzzle(s, size, 0)), impl.Puzzle{}, false)
		}
	}
}

// isMade reports whether a call succeeds that returns a puzzle.
func isMade(p impl.Puzzle, ok bool) bool { return ok }

func TestPuzzleTexts(t *testing.T) {
	want(t, "no clue", all(impl.PuzzleText(impl.Puzzle{})), "", true)
	want(t, "no clue", inPuzzle(impl.ParsePuzzle("")), noClueList, true)
	want(t, "one", all(impl.PuzzleText(puzzle(4, 14, 0))), "4.14.0", true)
	want(t, "two", all(impl.PuzzleText(puzzle(3, 100, 0, 4, 0, 14))), "3.100.0,4.0.14", true)
	const most = "0.3.0,1.7.0,2.14.0,3.0.0,4.13.12,5.1.0"
	want(t, "most", all(impl.PuzzleText(puzzle(0, 3, 0, 1, 7, 0, 2, 14, 0, 3, 0, 0, 4, 13, 12, 5, 1, 0))), most, true)
	want(t, "most", inPuzzle(impl.ParsePuzzle(most)), clues(0, 3, 0, 1, 7, 0, 2, 14, 0, 3, 0, 0, 4, 13, 12, 5, 1, 0), true)
	eachPuzzle(func(list []impl.Clue) {
		text := plainPuzzleText(list)
		want(t, "text", all(impl.PuzzleText(puzzleOf(list))), text, true)
		want(t, "parse", inPuzzle(impl.ParsePuzzle(text)), list, true)
	})
	for _, text := range noPuzzleTexts() {
		want(t, "no text "+shortened(text), all(impl.ParsePuzzle(text)), impl.Puzzle{}, false)
	}
}

// noPuzzleTexts returns texts that are none: with signs, blanks, zeros ahead, too few or too many parts, commas at ends, and numbers of no clue.
func noPuzzleTexts() []string {
	texts := []string{
		",", "0.5.0,", ",0.5.0", "0.5.0,,4.0.2", ",,", "0.5.0,4.0.2,", "0", "0.5", "0.5.", ".5.0", "0..0", "..", ".", "...", "0.5.0.", ".0.5.0", "0.5.0.0", "0.5.0.4.0.2", "0.5,0",
		"05.5.0", "00.5.0", "0.05.0", "0.5.00", "4.0.02", "4.00.2", "+0.5.0", "-0.5.0", "0.+5.0", "0.-5.0", "0.5.+0", "0.5.-0", "4.-1.0", "4.0.-1", "-1.5.0", " 0.5.0", "0.5.0 ",
		"0. 5.0", "0 .5.0", "0.5 .0", "0.5. 0", "0.5.0, 4.0.2", "0.5.0 ,4.0.2", "0.5.0\n", "\n", " ", "\t", "0.5.0;4.0.2", "0:5:0", "0-5-0", "0/5/0", "0,5,0", "0.5.0.,4.0.2", "{5/2}",
		"a", "0.a.0", "0.5.0x", "0x0.5.0", "3.1_0.0", "3.1e1.0", "0.5.0,4.0", "0.5.0,4.0.2.1", "0.5.0,x", "\x00", "0.5.0\x00", "0.٥.0", "0.５.0", "0．5．0", "0.5.0，4.0.2",
		"0.4294967301.0", "4294967296.5.0", "0.5.4294967296", "0.18446744073709551621.0", "18446744073709551616.5.0", "0.9223372036854775807.0", "9223372036854775807.5.0",
		"0." + strings.Repeat("5", 100000) + ".0", strings.Repeat("0", 100000) + ".5.0", strings.Repeat(",", 100000), strings.Repeat(".", 100000),
		strings.Repeat("0.5.0,", 6), strings.Repeat("0.5.0,", 6) + "0.5.0", strings.Repeat("0.5.0,", 100000) + "0.5.0",
	}
	for _, c := range noClues() {
		none := plainPuzzleText([]impl.Clue{c})
		texts = append(texts, none, "0.5.0,"+none, none+",0.5.0")
	}
	return texts
}
