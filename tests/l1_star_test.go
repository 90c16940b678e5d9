package tests

import (
	"math"
	"reflect"
	"slices"
	"strconv"
	"testing"

	"loop.example/g01324/impl"
)

// edgeNumbers are numbers at and beyond every limit of chapter 1.
var edgeNumbers = []int{
	math.MinInt, math.MinInt + 1, -1000001, -61, -60, -2, -1, 0, 1, 2, 3, 4, 5, 6, 7, 30, 31, 58, 59, 60, 61,
	999999, 1000000, 1000001, math.MaxInt32, math.MaxInt - 1, math.MaxInt,
}

// noStars are stars with numbers that are less or greater than those of every star.
var noStars = []impl.Star{
	{}, {Points: 2, Step: 1}, {Points: 3}, {Points: 3, Step: -1}, {Points: 3, Step: 3}, {Points: 5, Step: 5}, {Points: 5, Step: 6},
	{Points: 60, Step: 0}, {Points: 60, Step: 60}, {Points: 61, Step: 1}, {Points: 61, Step: 60}, {Points: -5, Step: 2}, {Points: -5, Step: -7},
	{Points: 0, Step: -1}, {Points: math.MaxInt, Step: 1}, {Points: math.MinInt, Step: math.MinInt}, {Points: 5, Step: math.MaxInt}, {Points: 5, Step: math.MinInt},
}

// noChords returns chords that a circle of so many points has not.
func noChords(points int) []impl.Chord {
	return []impl.Chord{
		{}, {A: 1, B: 1}, {A: 1, B: 0}, {A: 2, B: 1}, {A: -1, B: 1}, {A: -2, B: -1}, {A: 0, B: points}, {A: points, B: points + 1}, {A: 0, B: -1},
		{A: points - 1, B: points - 1}, {A: 0, B: math.MaxInt}, {A: math.MinInt, B: 1}, {A: math.MaxInt, B: math.MinInt}, {A: math.MinInt, B: math.MaxInt},
	}
}

// allStars returns every star.
func allStars() []impl.Star {
	var list []impl.Star
	for points := 3; points <= 60; points++ {
		for step := 1; step < points; step++ {
			list = append(list, impl.Star{Points: points, Step: step})
		}
	}
	return list
}

// allChords returns every chord of so many points.
func allChords(points int) []impl.Chord {
	var list []impl.Chord
	for a := range points {
		for b := a + 1; b < points; b++ {
			list = append(list, impl.Chord{A: a, B: b})
		}
	}
	return list
}

// walk follows single lines from a point until they are back.
func walk(s impl.Star, point int) []int {
	list := []int{point}
	for at := (point + s.Step) % s.Points; at != point; at = (at + s.Step) % s.Points {
		list = append(list, at)
	}
	return list
}

// plainChords finds the chords of a star by asking each pair of points how far they are from each other.
func plainChords(s impl.Star) []impl.Chord {
	var list []impl.Chord
	for _, c := range allChords(s.Points) {
		if gap := c.B - c.A; gap == s.Step || gap == s.Points-s.Step {
			list = append(list, c)
		}
	}
	return list
}

// plainCross goes around all points and sees whether the ends of two chords come in turn.
func plainCross(points int, c impl.Chord, d impl.Chord) bool {
	seen := ""
	for p := range points {
		first, second := p == c.A || p == c.B, p == d.A || p == d.B
		if first && second {
			return false
		}
		if first {
			seen += "c"
		}
		if second {
			seen += "d"
		}
	}
	return seen == "cdcd" || seen == "dcdc"
}

// want checks the results of one call, all of which are given with their values.
func want(t *testing.T, call string, got []any, told ...any) {
	t.Helper()
	if len(got) != len(told) {
		t.Fatalf("%s: %d results, not %d", call, len(got), len(told))
	}
	for i := range got {
		if isEmptySlice(got[i]) && isEmptySlice(told[i]) {
			continue
		}
		if !reflect.DeepEqual(got[i], told[i]) {
			t.Errorf("%s: result %d is %v, not %v", call, i, got[i], told[i])
		}
	}
}

// isEmptySlice reports whether a value is a slice without elements: nil and empty slices are the same value.
func isEmptySlice(v any) bool {
	r := reflect.ValueOf(v)
	return r.Kind() == reflect.Slice && r.Len() == 0
}

// all makes a list of the results of a call.
func all(results ...any) []any { return results }

func TestStarExample(t *testing.T) {
	five, six, three := impl.Star{Points: 5, Step: 2}, impl.Star{Points: 6, Step: 2}, impl.Star{Points: 6, Step: 3}
	want(t, "strings {5/2}", all(impl.StringsOf(five)), [][]int{{0, 2, 4, 1, 3}}, true)
	want(t, "turns {5/2}", all(impl.TurnsOf(five)), 2, true)
	want(t, "chords {5/2}", all(impl.ChordsOf(five)), []impl.Chord{{A: 0, B: 2}, {A: 0, B: 3}, {A: 1, B: 3}, {A: 1, B: 4}, {A: 2, B: 4}}, true)
	for _, c := range plainChords(five) {
		want(t, "crossings on", all(impl.CrossingsOn(five, c)), 2, true)
	}
	want(t, "crossings {5/2}", all(impl.CountCrossings(five)), 5, true)
	want(t, "strings {6/2}", all(impl.StringsOf(six)), [][]int{{0, 2, 4}, {1, 3, 5}}, true)
	want(t, "crossings {6/2}", all(impl.CountCrossings(six)), 6, true)
	want(t, "strings {6/3}", all(impl.StringsOf(three)), [][]int{{0, 3}, {1, 4}, {2, 5}}, true)
	want(t, "chords {6/3}", all(impl.ChordsOf(three)), []impl.Chord{{A: 0, B: 3}, {A: 1, B: 4}, {A: 2, B: 5}}, true)
	want(t, "crossings {6/3}", all(impl.CountCrossings(three)), 3, true)
	want(t, "stars of 6", all(impl.StarsOf(6)), []int{1, 2, 3}, true)
	want(t, "one string 6", all(impl.OneString(6)), []int{1}, true)
	want(t, "steps between", all(impl.StepsBetween(five, 0, 1)), 3, true)
	want(t, "step to", all(impl.StepTo(5, 0, 1, 2)), 3, true)
}

func TestLeastStars(t *testing.T) {
	for step := 1; step <= 2; step++ {
		s := impl.Star{Points: 3, Step: step}
		want(t, "IsStar", all(impl.IsStar(s)), true)
		want(t, "chords", all(impl.ChordsOf(s)), []impl.Chord{{A: 0, B: 1}, {A: 0, B: 2}, {A: 1, B: 2}}, true)
		want(t, "strings", all(impl.StringsOf(s)), [][]int{{0, step, 3 - step}}, true)
		want(t, "crossings", all(impl.CountCrossings(s)), 0, true)
		want(t, "turns", all(impl.TurnsOf(s)), step, true)
		want(t, "small step", all(impl.SmallStep(s)), 1, true)
	}
	want(t, "stars of 3", all(impl.StarsOf(3)), []int{1}, true)
	want(t, "one string 3", all(impl.OneString(3)), []int{1}, true)
	want(t, "text", all(impl.StarText(impl.Star{Points: 3, Step: 1})), "{3/1}", true)
	want(t, "parse", all(impl.ParseStar("{3/2}")), impl.Star{Points: 3, Step: 2}, true)
}

func TestMostPoints(t *testing.T) {
	half := impl.Star{Points: 60, Step: 30}
	want(t, "crossings of half", all(impl.CountCrossings(half)), 30*29/2, true)
	want(t, "strings of half", all(impl.CountStrings(half)), 30, true)
	want(t, "turns of half", all(impl.TurnsOf(half)), 1, true)
	want(t, "string of half", all(impl.StringOf(half, 59)), []int{59, 29}, true)
	last := impl.Star{Points: 60, Step: 59}
	want(t, "turns of 59", all(impl.TurnsOf(last)), 59, true)
	want(t, "crossings of 59", all(impl.CountCrossings(last)), 0, true)
	want(t, "next", all(impl.NextPoint(last, 0)), 59, true)
	want(t, "one string 60", all(impl.OneString(60)), []int{1, 7, 11, 13, 17, 19, 23, 29}, true)
	want(t, "one string 59", all(impl.OneString(59)), upTo(29), true)
	want(t, "text", all(impl.StarText(last)), "{60/59}", true)
}

// upTo returns 1, 2, .. up to a number.
func upTo(n int) []int {
	list := make([]int, n)
	for i := range list {
		list[i] = i + 1
	}
	return list
}

func TestIsStar(t *testing.T) {
	for _, points := range edgeNumbers {
		for _, step := range edgeNumbers {
			told := points >= 3 && points <= 60 && step >= 1 && step < points
			if impl.IsStar(impl.Star{Points: points, Step: step}) != told {
				t.Error("IsStar", points, step)
			}
		}
	}
	for _, s := range noStars {
		if impl.IsStar(s) {
			t.Error("a star", s)
		}
	}
}

func TestStringsHaveEachPointOnce(t *testing.T) {
	for _, s := range allStars() {
		lists, ok := impl.StringsOf(s)
		if !ok {
			t.Fatal("no strings", s)
		}
		times := make([]int, s.Points)
		for i, list := range lists {
			if list[0] != i || !slices.Equal(list, walk(s, i)) || list[0] != slices.Min(list) {
				t.Error("string", s, list)
			}
			for _, p := range list {
				times[p]++
			}
			around := len(list) * s.Step / s.Points
			want(t, "turns", all(impl.TurnsOf(s)), around, true)
		}
		if slices.Max(times) != 1 || slices.Min(times) != 1 {
			t.Error("points", s, times)
		}
		want(t, "count strings", all(impl.CountStrings(s)), len(lists), true)
	}
}

func TestLinesLead(t *testing.T) {
	for _, s := range allStars() {
		for point := range s.Points {
			want(t, "string", all(impl.StringOf(s, point)), walk(s, point), true)
			want(t, "next", all(impl.NextPoint(s, point)), (point+s.Step)%s.Points, true)
			at := point
			for steps := range 3 * s.Points / 2 {
				want(t, "after", all(impl.PointAfter(s, point, steps)), at, true)
				at = (at + s.Step) % s.Points
			}
		}
	}
	s := impl.Star{Points: 59, Step: 58}
	want(t, "no line", all(impl.PointAfter(s, 58, 0)), 58, true)
	// A step of 58 of 59 points leads one point back, and 1000000 is 9 more than a multiple of 59.
	want(t, "most lines", all(impl.PointAfter(s, 58, 1000000)), 49, true)
	want(t, "most lines but one", all(impl.PointAfter(s, 58, 999999)), 50, true)
}

func TestChordsCrossAsTold(t *testing.T) {
	for _, s := range allStars() {
		chords, ok := impl.ChordsOf(s)
		if !ok || !slices.Equal(chords, plainChords(s)) {
			t.Fatal("chords", s, chords)
		}
		step := min(s.Step, s.Points-s.Step)
		pairs := s.Points * (step - 1)
		if 2*step == s.Points {
			pairs = step * (step - 1) / 2
		}
		want(t, "crossings", all(impl.CountCrossings(s)), pairs, true)
		want(t, "small step", all(impl.SmallStep(s)), step, true)
		if s.Points > 13 {
			continue
		}
		for _, c := range allChords(s.Points) {
			count := 0
			for _, d := range chords {
				if plainCross(s.Points, c, d) {
					count++
				}
			}
			want(t, "crossings on", all(impl.CrossingsOn(s, c)), count, true)
		}
	}
}

func TestCrossingsOnAnyChord(t *testing.T) {
	hex := impl.Star{Points: 6, Step: 2}
	want(t, "not of the star", all(impl.CrossingsOn(hex, impl.Chord{A: 0, B: 3})), 2, true)
	want(t, "of the star", all(impl.CrossingsOn(hex, impl.Chord{A: 0, B: 2})), 2, true)
	want(t, "beside the star", all(impl.CrossingsOn(hex, impl.Chord{A: 0, B: 1})), 0, true)
	want(t, "around the corner", all(impl.CrossingsOn(hex, impl.Chord{A: 0, B: 5})), 0, true)
	want(t, "through all", all(impl.CrossingsOn(impl.Star{Points: 60, Step: 30}, impl.Chord{A: 29, B: 59})), 29, true)
}

func TestAreCrossing(t *testing.T) {
	for points := 3; points <= 10; points++ {
		for _, c := range allChords(points) {
			for _, d := range allChords(points) {
				want(t, "cross", all(impl.AreCrossing(points, c, d)), plainCross(points, c, d), true)
			}
		}
	}
	want(t, "greatest", all(impl.AreCrossing(60, impl.Chord{A: 0, B: 58}, impl.Chord{A: 57, B: 59})), true, true)
	want(t, "inside", all(impl.AreCrossing(60, impl.Chord{A: 0, B: 59}, impl.Chord{A: 1, B: 58})), false, true)
	want(t, "common point", all(impl.AreCrossing(60, impl.Chord{A: 0, B: 30}, impl.Chord{A: 30, B: 59})), false, true)
	want(t, "the same", all(impl.AreCrossing(60, impl.Chord{A: 0, B: 30}, impl.Chord{A: 0, B: 30})), false, true)
}

func TestStarsOfPoints(t *testing.T) {
	for points := 3; points <= 60; points++ {
		want(t, "stars of", all(impl.StarsOf(points)), upTo(points/2), true)
		var single []int
		for step := 1; step <= points/2; step++ {
			if len(walk(impl.Star{Points: points, Step: step}, 0)) == points {
				single = append(single, step)
			}
		}
		want(t, "one string", all(impl.OneString(points)), single, true)
	}
}

func TestStepsBetween(t *testing.T) {
	for _, s := range allStars() {
		if s.Points > 20 && s.Points != 60 {
			continue
		}
		for from := range s.Points {
			list := walk(s, from)
			for to := range s.Points {
				steps := slices.Index(list, to)
				want(t, "steps", all(impl.StepsBetween(s, from, to)), max(steps, 0), steps >= 0)
			}
		}
	}
	want(t, "the same point", all(impl.StepsBetween(impl.Star{Points: 6, Step: 2}, 5, 5)), 0, true)
	want(t, "other string", all(impl.StepsBetween(impl.Star{Points: 6, Step: 2}, 0, 1)), 0, false)
}

func TestStepTo(t *testing.T) {
	for _, points := range []int{3, 4, 5, 6, 12, 59, 60} {
		for to := range points {
			for steps := 1; steps <= 60; steps++ {
				told, found := leastStep(points, to, steps)
				for from := 0; from < points; from += max(1, points/4) {
					want(t, "step to", all(impl.StepTo(points, from, (from+to)%points, steps)), told, found)
				}
			}
		}
	}
	want(t, "the same point", all(impl.StepTo(6, 4, 4, 2)), 3, true)
	want(t, "the same point, no step", all(impl.StepTo(5, 4, 4, 2)), 0, false)
	want(t, "no step", all(impl.StepTo(6, 0, 1, 2)), 0, false)
	want(t, "one line back", all(impl.StepTo(60, 1, 0, 1)), 59, true)
	want(t, "most lines", all(impl.StepTo(60, 7, 7, 60)), 1, true)
}

// leastStep walks by each step in turn from the point 0, and returns the first one that ends as told.
func leastStep(points int, to int, steps int) (int, bool) {
	for step := 1; step < points; step++ {
		at := 0
		for range steps {
			at = (at + step) % points
		}
		if at == to {
			return step, true
		}
	}
	return 0, false
}

func TestTurnedStar(t *testing.T) {
	for _, s := range allStars() {
		told := plainChords(s)
		for by := range s.Points {
			chords, ok := impl.TurnedStar(s, by)
			if !ok || !slices.Equal(chords, told) {
				t.Fatal("turned", s, by, chords)
			}
		}
		want(t, "by Points", all(impl.TurnedStar(s, s.Points)), []impl.Chord(nil), false)
		want(t, "by -1", all(impl.TurnedStar(s, -1)), []impl.Chord(nil), false)
	}
}

func TestStarTexts(t *testing.T) {
	for _, s := range allStars() {
		told := "{" + strconv.Itoa(s.Points) + "/" + strconv.Itoa(s.Step) + "}"
		want(t, "text", all(impl.StarText(s)), told, true)
		want(t, "parse", all(impl.ParseStar(told)), s, true)
	}
	for _, s := range []string{
		"", "{", "}", "{}", "{/}", "{5}", "{5/}", "{/2}", "5/2", "{5/2", "5/2}", "{5/2}}", "{{5/2}", "{{5/2}}", "{5//2}", "{5/2/1}", "{5/2/}", "{5-2}",
		" {5/2}", "{5/2} ", "{5/2}\n", "{ 5/2}", "{5 /2}", "{5/ 2}", "{5/2 }", "{05/2}", "{5/02}", "{5/00}", "{+5/2}", "{5/+2}", "{5/-2}", "{-5/2}", "{-5/-2}",
		"{5/0}", "{5/-0}", "{5/5}", "{5/6}", "{2/1}", "{0/0}", "{1/0}", "{61/1}", "{60/60}", "{5/2.0}", "{5.0/2}", "{0x5/2}", "{5_0/2}", "{5/1_0}", "{1e1/2}",
		"{18446744073709551621/2}", "{5/18446744073709551618}", "{99999999999999999999999999/1}", "{5/2}{5/2}", "\x00{5/2}", "{5\x00/2}", "{\xff/2}", "{٥/٢}", "{five/two}", "(5/2)", "}5/2{",
	} {
		want(t, "parse "+strconv.Quote(s), all(impl.ParseStar(s)), impl.Star{}, false)
	}
}

func TestFailsForNoStar(t *testing.T) {
	for _, s := range noStars {
		want(t, "next", all(impl.NextPoint(s, 0)), 0, false)
		want(t, "after", all(impl.PointAfter(s, 0, 0)), 0, false)
		want(t, "string", all(impl.StringOf(s, 0)), []int(nil), false)
		want(t, "strings", all(impl.StringsOf(s)), [][]int(nil), false)
		want(t, "count", all(impl.CountStrings(s)), 0, false)
		want(t, "chords", all(impl.ChordsOf(s)), []impl.Chord(nil), false)
		want(t, "crossings on", all(impl.CrossingsOn(s, impl.Chord{A: 0, B: 1})), 0, false)
		want(t, "crossings", all(impl.CountCrossings(s)), 0, false)
		want(t, "turns", all(impl.TurnsOf(s)), 0, false)
		want(t, "small step", all(impl.SmallStep(s)), 0, false)
		want(t, "steps", all(impl.StepsBetween(s, 0, 0)), 0, false)
		want(t, "turned", all(impl.TurnedStar(s, 0)), []impl.Chord(nil), false)
		want(t, "text", all(impl.StarText(s)), "", false)
	}
}

func TestFailsForNoPoints(t *testing.T) {
	c, d := impl.Chord{A: 0, B: 1}, impl.Chord{A: 1, B: 2}
	for _, points := range edgeNumbers {
		if points >= 3 && points <= 60 {
			continue
		}
		want(t, "stars", all(impl.StarsOf(points)), []int(nil), false)
		want(t, "one string", all(impl.OneString(points)), []int(nil), false)
		want(t, "cross", all(impl.AreCrossing(points, c, d)), false, false)
		want(t, "step to", all(impl.StepTo(points, 0, 0, 1)), 0, false)
		want(t, "step to", all(impl.StepTo(points, 0, 1, 1)), 0, false)
	}
	want(t, "cross 2", all(impl.AreCrossing(61, impl.Chord{A: 0, B: 30}, impl.Chord{A: 10, B: 50})), false, false)
}

func TestFailsForNoPoint(t *testing.T) {
	for _, s := range []impl.Star{{Points: 3, Step: 1}, {Points: 6, Step: 2}, {Points: 6, Step: 3}, {Points: 60, Step: 59}} {
		for _, p := range append([]int{s.Points}, edgeNumbers...) {
			if p >= 0 && p < s.Points {
				continue
			}
			want(t, "next", all(impl.NextPoint(s, p)), 0, false)
			want(t, "after", all(impl.PointAfter(s, p, 0)), 0, false)
			want(t, "string", all(impl.StringOf(s, p)), []int(nil), false)
			want(t, "steps from", all(impl.StepsBetween(s, p, 0)), 0, false)
			want(t, "steps to", all(impl.StepsBetween(s, 0, p)), 0, false)
			want(t, "steps both", all(impl.StepsBetween(s, p, p)), 0, false)
			want(t, "step from", all(impl.StepTo(s.Points, p, 0, 1)), 0, false)
			want(t, "step to", all(impl.StepTo(s.Points, 0, p, 1)), 0, false)
			want(t, "step both", all(impl.StepTo(s.Points, p, p, s.Points)), 0, false)
			want(t, "turned", all(impl.TurnedStar(s, p)), []impl.Chord(nil), false)
		}
	}
}

func TestFailsForNoCount(t *testing.T) {
	s := impl.Star{Points: 5, Step: 2}
	for _, n := range edgeNumbers {
		if n < 0 || n > 1000000 {
			want(t, "after", all(impl.PointAfter(s, 0, n)), 0, false)
		}
		if n < 1 || n > 60 {
			want(t, "step to", all(impl.StepTo(5, 0, 0, n)), 0, false)
			want(t, "step to", all(impl.StepTo(5, 0, 1, n)), 0, false)
		}
	}
}

func TestFailsForNoChord(t *testing.T) {
	for _, points := range []int{3, 4, 5, 59, 60} {
		fine := impl.Chord{A: 0, B: 2}
		for _, c := range noChords(points) {
			want(t, "first", all(impl.AreCrossing(points, c, fine)), false, false)
			want(t, "second", all(impl.AreCrossing(points, fine, c)), false, false)
			want(t, "both", all(impl.AreCrossing(points, c, c)), false, false)
			want(t, "on", all(impl.CrossingsOn(impl.Star{Points: points, Step: 2}, c)), 0, false)
		}
	}
	want(t, "reversed", all(impl.AreCrossing(4, impl.Chord{A: 2, B: 0}, impl.Chord{A: 1, B: 3})), false, false)
}
