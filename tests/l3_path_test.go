package tests

import (
	"slices"
	"strconv"
	"strings"
	"testing"

	"loop.example/g01324/impl"
)

// noPoints is what a failed call returns in place of points.
var noPoints [][]int

// grids are all there are.
var grids = []int{4, 6}

// rest returns what is left of a number of turns, which may be less than 0, when whole turns around do not count.
func rest(grid int, turns int) int {
	return (turns%grid + grid) % grid
}

// plainPath goes along a word with a step that is turned itself, and returns the points and the direction at the end.
func plainPath(grid int, w string) ([][]int, int) {
	x, y, dx, dy := 0, 0, 1, 0
	points, turns := [][]int{{0, 0}}, 0
	for _, sign := range w {
		switch {
		case sign == 'F':
			x, y = x+dx, y+dy
			points = append(points, []int{x, y})
		case sign == 'L' && grid == 4:
			dx, dy, turns = -dy, dx, turns+1
		case sign == 'R' && grid == 4:
			dx, dy, turns = dy, -dx, turns-1
		case sign == 'L':
			dx, dy, turns = -dy, dx+dy, turns+1
		case sign == 'R':
			dx, dy, turns = dx+dy, -dx, turns-1
		}
	}
	return points, rest(grid, turns)
}

// plainEnd returns x, y and the direction behind all signs.
func plainEnd(grid int, w string) []int {
	points, direction := plainPath(grid, w)
	last := points[len(points)-1]
	return []int{last[0], last[1], direction}
}

// plainClosed reports whether a word ends where it began.
func plainClosed(grid int, w string) bool {
	return slices.Equal(plainEnd(grid, w), []int{0, 0, 0})
}

// plainCrossed looks at each point that a path may come to, in order, how often it does.
func plainCrossed(points [][]int, reach int) [][]int {
	times := map[[2]int]int{}
	for _, p := range points {
		times[[2]int{p[0], p[1]}]++
	}
	var crossed [][]int
	for x := -reach; x <= reach; x++ {
		for y := -reach; y <= reach; y++ {
			if times[[2]int{x, y}] > 1 {
				crossed = append(crossed, []int{x, y})
			}
		}
	}
	return crossed
}

// plainArea adds up what DoubleArea tells of each step.
func plainArea(points [][]int) int {
	area := 0
	for i := 1; i < len(points); i++ {
		x, y, u, v := points[i-1][0], points[i-1][1], points[i][0], points[i][1]
		area += x*v - u*y
	}
	return area
}

// plainMirror exchanges L and R.
func plainMirror(w string) string {
	return strings.NewReplacer("L", "R", "R", "L").Replace(w)
}

// plainBack tells a word from its last sign on.
func plainBack(w string) string {
	back := ""
	for _, sign := range plainMirror(w) {
		back = string(sign) + back
	}
	return back
}

// plainShort takes signs out one pair after the other, then one whole turn after the other.
func plainShort(grid int, w string) string {
	for _, out := range [][]string{{"LR", "RL"}, {strings.Repeat("L", grid), strings.Repeat("R", grid)}} {
		for before := w + "F"; before != w; {
			before = w
			w = strings.Replace(strings.Replace(w, out[0], "", 1), out[1], "", 1)
		}
	}
	return w
}

// wordsOf returns all words of so many signs.
func wordsOf(length int) []string {
	words := []string{""}
	for range length {
		var longer []string
		for _, w := range words {
			longer = append(longer, w+"F", w+"L", w+"R")
		}
		words = longer
	}
	return words
}

// longWords returns words of up to 120 signs.
func longWords() []string {
	words := []string{
		strings.Repeat("F", 120), strings.Repeat("L", 120), strings.Repeat("R", 120), strings.Repeat("FL", 60), strings.Repeat("FR", 60), strings.Repeat("FLL", 40),
		strings.Repeat("F", 119) + "L", strings.Repeat("F", 119) + "R", strings.Repeat("F", 58) + "LL" + strings.Repeat("F", 58) + "LL",
		strings.Repeat(strings.Repeat("F", 29)+"L", 4), strings.Repeat(strings.Repeat("F", 19)+"R", 6), strings.Repeat("LR", 60), strings.Repeat("L", 119) + "F",
	}
	z := uint32(3)
	for length := 8; length <= 120; length += 4 {
		w := ""
		for range length {
			z = z*1664525 + 1013904223
			w += "FFLR"[z>>16%4 : z>>16%4+1]
		}
		words = append(words, w)
	}
	return words
}

// eachWord calls a check with all short words and with long ones, on both grids.
func eachWord(check func(grid int, w string)) {
	for _, grid := range grids {
		for length := range 8 {
			for _, w := range wordsOf(length) {
				check(grid, w)
			}
		}
		for _, w := range longWords() {
			check(grid, w)
		}
	}
}

// noWords returns texts that are no words on any grid.
func noWords() []string {
	return []string{
		"f", "l", "r", "G", "E", "K", "M", "Q", "S", " ", "F ", " F", "F L", "FL\n", "F,L", "FLf", "fLF", "FLxRF", "FF0", "-", "F\x00", "\x00", "\xff", "F\xc0L", "Ｆ", "ＦＬ", "БFL", "FLЯ",
		strings.Repeat("F", 121), strings.Repeat("L", 121), strings.Repeat("R", 121), strings.Repeat("FLR", 41), strings.Repeat("F", 119) + "f", strings.Repeat("F", 120) + "x",
		"x" + strings.Repeat("F", 119), strings.Repeat("FL", 50000), strings.Repeat("x", 100000),
	}
}

// noGrids returns numbers of no grids.
func noGrids() []int {
	return slices.DeleteFunc(append([]int{8, 12, -4, -6}, edgeNumbers...), func(n int) bool { return n == 4 || n == 6 })
}

func TestPathsExample(t *testing.T) {
	want(t, "closed square", all(impl.IsClosed(4, "FLFLFLFL")), true, true)
	want(t, "square", all(impl.DoubleArea(4, "FLFLFLFL")), 2, true)
	want(t, "repeats", all(impl.RepeatsToClose(4, "FL")), 4, true)
	want(t, "never closed", all(impl.RepeatsToClose(4, "F")), 0, false)
	want(t, "spiral", all(impl.SpiralWord(4, 3, 1)), "FLFFLFFFL", true)
	want(t, "spiral repeats", all(impl.SpiralRepeats(4, 3, 1)), 4, true)
	want(t, "closed triangle", all(impl.IsClosed(6, "FLLFLLFLL")), true, true)
	want(t, "triangle", all(impl.DoubleArea(6, "FLLFLLFLL")), 1, true)
	want(t, "closed words", all(impl.CountClosed(4, 2)), 2, true)
	want(t, "short", all(impl.ShortWord(4, "LLLRFLLLL")), "LLF", true)
}

func TestDirections(t *testing.T) {
	told := map[int][][]int{4: {{1, 0}, {0, 1}, {-1, 0}, {0, -1}}, 6: {{1, 0}, {0, 1}, {-1, 1}, {-1, 0}, {0, -1}, {1, -1}}}
	for _, grid := range grids {
		for turns := range 3 * grid {
			left, right := strings.Repeat("L", turns), strings.Repeat("R", turns)
			direction := turns % grid
			back := (grid - direction) % grid
			want(t, "left", all(impl.PathOf(grid, left+"F")), [][]int{{0, 0}, told[grid][direction]}, true)
			want(t, "right", all(impl.PathOf(grid, right+"F")), [][]int{{0, 0}, told[grid][back]}, true)
			want(t, "end left", all(impl.EndOf(grid, left)), []int{0, 0, direction}, true)
			want(t, "end right", all(impl.EndOf(grid, right)), []int{0, 0, back}, true)
			want(t, "turns left", all(impl.TurnsMade(grid, left)), turns, true)
			want(t, "turns right", all(impl.TurnsMade(grid, right)), -turns, true)
		}
	}
}

func TestEmptyWord(t *testing.T) {
	for _, grid := range grids {
		want(t, "word", all(impl.IsWord(grid, "")), true, true)
		want(t, "path", all(impl.PathOf(grid, "")), [][]int{{0, 0}}, true)
		want(t, "end", all(impl.EndOf(grid, "")), []int{0, 0, 0}, true)
		want(t, "closed", all(impl.IsClosed(grid, "")), true, true)
		want(t, "repeats", all(impl.RepeatsToClose(grid, "")), 1, true)
		for _, times := range edgeNumbers {
			want(t, "repeat", all(impl.RepeatWord(grid, "", times)), "", times >= 1)
			want(t, "shift", all(impl.ShiftWord(grid, "", times)), "", false)
		}
		want(t, "turns", all(impl.TurnsMade(grid, "")), 0, true)
		want(t, "crossed", all(impl.CrossedPoints(grid, "")), noPoints, true)
		want(t, "area", all(impl.DoubleArea(grid, "")), 0, true)
		want(t, "mirror", all(impl.MirrorWord(grid, "")), "", true)
		want(t, "back", all(impl.BackWord(grid, "")), "", true)
		want(t, "least", all(impl.LeastShift(grid, "")), "", true)
		want(t, "short", all(impl.ShortWord(grid, "")), "", true)
		want(t, "count", all(impl.CountClosed(grid, 0)), 1, true)
	}
}

func TestIsWord(t *testing.T) {
	eachWord(func(grid int, w string) {
		want(t, "word "+w, all(impl.IsWord(grid, w)), true, true)
	})
	for _, w := range noWords() {
		for _, grid := range grids {
			want(t, "no word "+strconv.Quote(w[:min(len(w), 130)]), all(impl.IsWord(grid, w)), false, true)
		}
	}
	for _, grid := range noGrids() {
		want(t, "no grid", all(impl.IsWord(grid, "FL")), false, false)
		want(t, "no grid, no signs", all(impl.IsWord(grid, "")), false, false)
		want(t, "neither", all(impl.IsWord(grid, "x")), false, false)
	}
}

func TestPathsGoStepByStep(t *testing.T) {
	eachWord(func(grid int, w string) {
		points, _ := plainPath(grid, w)
		closed := plainClosed(grid, w)
		want(t, "path "+w, all(impl.PathOf(grid, w)), points, true)
		want(t, "end "+w, all(impl.EndOf(grid, w)), plainEnd(grid, w), true)
		want(t, "closed "+w, all(impl.IsClosed(grid, w)), closed, true)
		want(t, "turns "+w, all(impl.TurnsMade(grid, w)), strings.Count(w, "L")-strings.Count(w, "R"), true)
		want(t, "crossed "+w, all(impl.CrossedPoints(grid, w)), plainCrossed(points, len(w)), true)
		area := 0
		if closed {
			area = plainArea(points)
		}
		want(t, "area "+w, all(impl.DoubleArea(grid, w)), area, closed)
	})
}

func TestCrossedPoints(t *testing.T) {
	want(t, "there and back", all(impl.CrossedPoints(4, "FFLLFFLL")), [][]int{{0, 0}, {1, 0}}, true)
	want(t, "around", all(impl.CrossedPoints(4, "FLFLFLF")), [][]int{{0, 0}}, true)
	want(t, "turns alone", all(impl.CrossedPoints(4, "LLLLRR")), noPoints, true)
	want(t, "no first point", all(impl.CrossedPoints(4, "FFLFLFLF")), [][]int{{1, 0}}, true)
	want(t, "three times", all(impl.CrossedPoints(4, "FLLFLLFLLF")), [][]int{{0, 0}, {1, 0}}, true)
	want(t, "less than 0", all(impl.CrossedPoints(4, strings.Repeat("FR", 4)+strings.Repeat("RFRR", 4))), [][]int{{0, -1}, {0, 0}, {1, -1}, {1, 0}}, true)
	want(t, "around often", all(impl.CrossedPoints(6, strings.Repeat("FR", 60))), [][]int{{0, -1}, {0, 0}, {1, -2}, {1, 0}, {2, -2}, {2, -1}}, true)
}

func TestDoubleArea(t *testing.T) {
	for side := range 30 {
		steps := strings.Repeat("F", side)
		want(t, "square", all(impl.DoubleArea(4, strings.Repeat(steps+"L", 4))), 2*side*side, true)
		want(t, "square to the right", all(impl.DoubleArea(4, strings.Repeat(steps+"R", 4))), -2*side*side, true)
		want(t, "triangle", all(impl.DoubleArea(6, strings.Repeat(steps+"LL", 3))), side*side, true)
		want(t, "triangle to the right", all(impl.DoubleArea(6, strings.Repeat(steps+"RR", 3))), -side*side, true)
		if side < 20 {
			want(t, "hexagon", all(impl.DoubleArea(6, strings.Repeat(steps+"L", 6))), 6*side*side, true)
		}
	}
	want(t, "both ways around", all(impl.DoubleArea(4, "FLFLFLFLFRFRFRFR")), 0, true)
	want(t, "twice around", all(impl.DoubleArea(4, "FLFLFLFLFLFLFLFL")), 4, true)
	want(t, "there and back", all(impl.DoubleArea(6, "FFLLLFFLLL")), 0, true)
	want(t, "other direction", all(impl.DoubleArea(4, "FLFLFLF")), 0, false)
	want(t, "other point", all(impl.DoubleArea(4, "FLFLFLFFL")), 0, false)
	want(t, "square on triangles", all(impl.DoubleArea(6, "FLFLFLFL")), 0, false)
}

func TestRepeatsCloseWords(t *testing.T) {
	eachWord(func(grid int, w string) {
		told, found := 0, false
		for times := 1; times <= 3*grid && !found; times++ {
			if plainClosed(grid, strings.Repeat(w, times)) {
				told, found = times, true
			}
		}
		want(t, "repeats "+w, all(impl.RepeatsToClose(grid, w)), told, found)
		for times := 1; found && times <= told && times*len(w) <= 120; times++ {
			repeated, ok := impl.RepeatWord(grid, w, times)
			closed, fine := impl.IsClosed(grid, repeated)
			if !ok || !fine || closed != (times == told) {
				t.Error("repeated", grid, w, times, closed)
			}
		}
	})
	want(t, "longer than a word", all(impl.RepeatsToClose(4, strings.Repeat("F", 119)+"L")), 4, true)
	want(t, "much longer", all(impl.RepeatsToClose(6, strings.Repeat("F", 119)+"R")), 6, true)
	want(t, "turns alone", all(impl.RepeatsToClose(6, "LLLL")), 3, true)
	want(t, "turns that are back", all(impl.RepeatsToClose(4, "FLLLLF")), 0, false)
}

func TestRepeatWord(t *testing.T) {
	for length := 1; length <= 120; length++ {
		w := strings.Repeat("FLRFF", 24)[:length]
		for times := 1; times <= 122; times++ {
			told := ""
			if times*length <= 120 {
				told = strings.Repeat(w, times)
			}
			want(t, "repeat", all(impl.RepeatWord(grids[times%2], w, times)), told, told != "")
		}
		for _, times := range edgeNumbers {
			if times < 1 || times > 120 {
				want(t, "no repeat", all(impl.RepeatWord(4, w, times)), "", false)
			}
		}
	}
	// So many times the length is 0 in 64 bits.
	want(t, "too many times", all(impl.RepeatWord(4, "FLFL", 1<<62)), "", false)
}

func TestMirroredAndBack(t *testing.T) {
	eachWord(func(grid int, w string) {
		mirrored, back := plainMirror(w), plainBack(w)
		want(t, "mirror "+w, all(impl.MirrorWord(grid, w)), mirrored, true)
		want(t, "back "+w, all(impl.BackWord(grid, w)), back, true)
		want(t, "mirrored twice", all(impl.MirrorWord(grid, mirrored)), w, true)
		want(t, "back twice", all(impl.BackWord(grid, back)), w, true)
		points, direction := plainPath(grid, w)
		slices.Reverse(points)
		// The first step back leads against the last direction.
		turned, _ := plainPath(grid, strings.Repeat("L", (direction+grid/2)%grid)+back)
		for i, p := range turned {
			p[0] += points[0][0]
			p[1] += points[0][1]
			if !slices.Equal(p, points[i]) {
				t.Error("the way back", grid, w, p, points[i])
			}
		}
	})
	want(t, "mirror", all(impl.MirrorWord(4, "FLLRF")), "FRRLF", true)
	want(t, "back", all(impl.BackWord(4, "FLLRF")), "FLRRF", true)
	want(t, "back from an end", all(impl.BackWord(4, "FLF")), "FRF", true)
}

func TestShifted(t *testing.T) {
	eachWord(func(grid int, w string) {
		least := w
		for by := range len(w) {
			told := (w + w)[by : by+len(w)]
			want(t, "shift "+w, all(impl.ShiftWord(grid, w, by)), told, true)
			if told < least {
				least = told
			}
		}
		want(t, "least "+w, all(impl.LeastShift(grid, w)), least, true)
		want(t, "shift by all", all(impl.ShiftWord(grid, w, len(w))), "", false)
		want(t, "shift by -1", all(impl.ShiftWord(grid, w, -1)), "", false)
	})
	for _, by := range edgeNumbers {
		if by < 0 || by > 3 {
			want(t, "shift by other numbers", all(impl.ShiftWord(6, "FLRR", by)), "", false)
		}
	}
	want(t, "least", all(impl.LeastShift(4, "RFLF")), "FLFR", true)
	want(t, "last shift", all(impl.ShiftWord(4, strings.Repeat("F", 119)+"L", 119)), "L"+strings.Repeat("F", 119), true)
}

func TestSpirals(t *testing.T) {
	for _, grid := range grids {
		for counts := 1; counts <= 10; counts++ {
			for turns := range grid {
				told := ""
				for steps := 1; steps <= counts; steps++ {
					told += "FFFFFFFFFF"[:steps] + "LLLLL"[:turns]
				}
				want(t, "spiral", all(impl.SpiralWord(grid, counts, turns)), told, true)
				repeats, found := 0, false
				for times := 1; times <= grid && !found; times++ {
					if plainClosed(grid, strings.Repeat(told, times)) {
						repeats, found = times, true
					}
				}
				want(t, "spiral repeats", all(impl.SpiralRepeats(grid, counts, turns)), repeats, found)
			}
		}
		want(t, "no turns", all(impl.SpiralWord(grid, 3, 0)), "FFFFFF", true)
		want(t, "no turns repeated", all(impl.SpiralRepeats(grid, 3, 0)), 0, false)
		want(t, "one count", all(impl.SpiralWord(grid, 1, 1)), "FL", true)
		want(t, "one count repeated", all(impl.SpiralRepeats(grid, 1, 1)), grid, true)
	}
	want(t, "never", all(impl.SpiralRepeats(4, 4, 1)), 0, false)
	want(t, "as many counts as directions", all(impl.SpiralRepeats(6, 6, 1)), 0, false)
	longest, ok := impl.SpiralWord(6, 10, 5)
	want(t, "longest", all(len(longest), ok), 105, true)
	for _, n := range append([]int{11}, edgeNumbers...) {
		for _, grid := range grids {
			if n < 1 || n > 10 {
				want(t, "other counts", all(impl.SpiralWord(grid, n, 1)), "", false)
				want(t, "repeats of other counts", all(impl.SpiralRepeats(grid, n, 1)), 0, false)
			}
			if n < 0 || n >= grid {
				want(t, "other turns", all(impl.SpiralWord(grid, 3, n)), "", false)
				want(t, "repeats of other turns", all(impl.SpiralRepeats(grid, 3, n)), 0, false)
			}
		}
	}
}

func TestCountClosed(t *testing.T) {
	for _, grid := range grids {
		for length := 0; length <= 10; length++ {
			count := 0
			for _, w := range wordsOf(length) {
				if plainClosed(grid, w) {
					count++
				}
			}
			want(t, "closed words", all(impl.CountClosed(grid, length)), count, true)
		}
		for _, length := range append([]int{11}, edgeNumbers...) {
			if length < 0 || length > 10 {
				want(t, "other lengths", all(impl.CountClosed(grid, length)), 0, false)
			}
		}
	}
	want(t, "four signs on squares", all(impl.CountClosed(4, 4)), 8, true)
	want(t, "four signs on triangles", all(impl.CountClosed(6, 4)), 6, true)
	want(t, "no closed words", all(impl.CountClosed(6, 1)), 0, true)
}

func TestShortWord(t *testing.T) {
	eachWord(func(grid int, w string) {
		told := plainShort(grid, w)
		want(t, "short "+w, all(impl.ShortWord(grid, w)), told, true)
		want(t, "short again", all(impl.ShortWord(grid, told)), told, true)
		if !slices.Equal(plainEnd(grid, told), plainEnd(grid, w)) {
			t.Error("another path", grid, w, told)
		}
	})
	want(t, "pairs within pairs", all(impl.ShortWord(4, "FLLRRRLF")), "FF", true)
	want(t, "turns to the right stay so", all(impl.ShortWord(4, "RRRFRRRRR")), "RRRFR", true)
	want(t, "turns to the left stay so", all(impl.ShortWord(6, "LLLLLFLLLLLLL")), "LLLLLFL", true)
	want(t, "pairs go first", all(impl.ShortWord(4, "LLLLR")), "LLL", true)
	want(t, "pairs go first to the right", all(impl.ShortWord(6, "RRRRRRL")), "RRRRR", true)
	want(t, "not over a step", all(impl.ShortWord(4, "LLFLLRFR")), "LLFLFR", true)
	want(t, "turns alone", all(impl.ShortWord(6, strings.Repeat("L", 120))), "", true)
}

// checkNoWord checks that all calls with a grid or word that there is not fail.
func checkNoWord(t *testing.T, grid int, w string) {
	t.Helper()
	want(t, "path", all(impl.PathOf(grid, w)), noPoints, false)
	want(t, "end", all(impl.EndOf(grid, w)), []int(nil), false)
	want(t, "closed", all(impl.IsClosed(grid, w)), false, false)
	want(t, "repeats", all(impl.RepeatsToClose(grid, w)), 0, false)
	want(t, "repeat", all(impl.RepeatWord(grid, w, 1)), "", false)
	want(t, "turns", all(impl.TurnsMade(grid, w)), 0, false)
	want(t, "crossed", all(impl.CrossedPoints(grid, w)), noPoints, false)
	want(t, "area", all(impl.DoubleArea(grid, w)), 0, false)
	want(t, "mirror", all(impl.MirrorWord(grid, w)), "", false)
	want(t, "back", all(impl.BackWord(grid, w)), "", false)
	want(t, "shift", all(impl.ShiftWord(grid, w, 0)), "", false)
	want(t, "least", all(impl.LeastShift(grid, w)), "", false)
	want(t, "short", all(impl.ShortWord(grid, w)), "", false)
}

func TestFailsForNoWord(t *testing.T) {
	for _, grid := range grids {
		for _, w := range noWords() {
			checkNoWord(t, grid, w)
		}
	}
	for _, grid := range noGrids() {
		for _, w := range []string{"", "F", "LR", "FLFLFLFL", "x", strings.Repeat("F", 121)} {
			checkNoWord(t, grid, w)
		}
		want(t, "spiral", all(impl.SpiralWord(grid, 3, 0)), "", false)
		want(t, "spiral repeats", all(impl.SpiralRepeats(grid, 3, 1)), 0, false)
		want(t, "count", all(impl.CountClosed(grid, 0)), 0, false)
		want(t, "count 2", all(impl.CountClosed(grid, 2)), 0, false)
	}
}
