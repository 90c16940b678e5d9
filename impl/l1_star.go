package impl

import (
	"cmp"
	"slices"
	"strconv"
	"strings"
)

const MaxPoints = 60

const (
	minPoints = 3
	// maxStepsTaken bounds the lines that PointAfter and TimesAfter follow, and the steps of gears.
	maxStepsTaken = 1000000
)

type Star struct {
	Points int
	Step   int
}

type Chord struct {
	A int
	B int
}

// IsStar reports whether s, whose numbers may be any, is a star.
func IsStar(s Star) bool {
	return isPointCount(s.Points) && s.Step >= 1 && s.Step < s.Points
}

// isPointCount reports whether a circle may have so many points.
func isPointCount(points int) bool {
	return points >= minPoints && points <= MaxPoints
}

// isPoint reports whether a circle of so many points has a point.
func isPoint(points int, point int) bool {
	return point >= 0 && point < points
}

// isChord reports whether a circle of so many points has room for c, the lesser point of which is A.
func isChord(points int, c Chord) bool {
	return c.A >= 0 && c.A < c.B && c.B < points
}

// NextPoint returns the point to which the line from a point leads.
func NextPoint(s Star, point int) (int, bool) {
	return PointAfter(s, point, 1)
}

// PointAfter returns the point behind so many lines, in 0..1000000.
func PointAfter(s Star, point int, steps int) (int, bool) {
	if !IsStar(s) || !isPoint(s.Points, point) || steps < 0 || steps > maxStepsTaken {
		return 0, false
	}
	return (point + steps*s.Step) % s.Points, true
}

// StringOf returns the points of the string of a point, from this one on, as lines lead.
func StringOf(s Star, point int) ([]int, bool) {
	if !IsStar(s) || !isPoint(s.Points, point) {
		return nil, false
	}
	return stringFrom(s, point), true
}

// stringFrom follows the lines of a star from a point that it has until they are back.
func stringFrom(s Star, point int) []int {
	list := make([]int, s.Points/commonDivisor(s.Points, s.Step))
	for i := range list {
		list[i] = (point + i*s.Step) % s.Points
	}
	return list
}

// StringsOf returns all strings, each from its least point on, in the order of these.
func StringsOf(s Star) ([][]int, bool) {
	count, ok := CountStrings(s)
	if !ok {
		return nil, false
	}
	// The points of a string differ by multiples of the number of strings, so that the least ones are 0, 1, .. below it.
	list := make([][]int, count)
	for i := range list {
		list[i] = stringFrom(s, i)
	}
	return list, true
}

// CountStrings returns how many strings there are: the greatest common divisor of Points and Step.
func CountStrings(s Star) (int, bool) {
	if !IsStar(s) {
		return 0, false
	}
	return commonDivisor(s.Points, s.Step), true
}

// commonDivisor returns the greatest common divisor of two numbers that are not less than 0.
func commonDivisor(a int, b int) int {
	for b != 0 {
		a, b = b, a%b
	}
	return a
}

// ChordsOf returns all chords, ordered by A, then by B.
func ChordsOf(s Star) ([]Chord, bool) {
	return TurnedStar(s, 0)
}

// chordBetween returns the chord of two different points, whichever is the lesser one.
func chordBetween(p int, q int) Chord {
	return Chord{A: min(p, q), B: max(p, q)}
}

// emptyInOrder takes all chords out of a set and returns them ordered by A, then by B.
func emptyInOrder(set map[Chord]bool) []Chord {
	list := make([]Chord, 0, len(set))
	for c := range set {
		list = append(list, c)
		delete(set, c)
	}
	slices.SortFunc(list, compareChords)
	return list
}

// compareChords tells the order of two chords: by A, then by B.
func compareChords(c Chord, d Chord) int {
	return cmp.Or(cmp.Compare(c.A, d.A), cmp.Compare(c.B, d.B))
}

// AreCrossing reports whether two chords of so many points, 3..MaxPoints, cross.
func AreCrossing(points int, c Chord, d Chord) (bool, bool) {
	if !isPointCount(points) || !isChord(points, c) || !isChord(points, d) {
		return false, false
	}
	return areInTurn(c, d), true
}

// areInTurn reports whether the points of two chords come in turn, going around.
func areInTurn(c Chord, d Chord) bool {
	if c == d {
		return false
	}
	if compareChords(c, d) > 0 {
		c, d = d, c
	}
	return c.A < d.A && d.A < c.B && c.B < d.B
}

// CrossingsOn returns how many chords of a star cross a chord, which may be one of the star or not.
func CrossingsOn(s Star, c Chord) (int, bool) {
	chords, ok := ChordsOf(s)
	if !ok || !isChord(s.Points, c) {
		return 0, false
	}
	return countCrossing(chords, c), true
}

// countCrossing returns how many chords of a list cross a chord.
func countCrossing(list []Chord, c Chord) int {
	count := 0
	for _, d := range list {
		if areInTurn(c, d) {
			count++
		}
	}
	return count
}

// CountCrossings returns how many pairs of chords of the star cross.
func CountCrossings(s Star) (int, bool) {
	chords, ok := ChordsOf(s)
	if !ok {
		return 0, false
	}
	count := 0
	for i, c := range chords {
		count += countCrossing(chords[:i], c)
	}
	return count, true
}

// TurnsOf returns how often a string goes around until it is back: Step divided by CountStrings.
func TurnsOf(s Star) (int, bool) {
	count, ok := CountStrings(s)
	if !ok {
		return 0, false
	}
	return s.Step / count, true
}

// SmallStep returns the lesser one of Step and Points less Step: by both the chords are the same.
func SmallStep(s Star) (int, bool) {
	if !IsStar(s) {
		return 0, false
	}
	return min(s.Step, s.Points-s.Step), true
}

// StarsOf returns all steps of at most half of so many points, 3..MaxPoints: those of all stars with different chords.
func StarsOf(points int) ([]int, bool) {
	if !isPointCount(points) {
		return nil, false
	}
	list := make([]int, points/2)
	for i := range list {
		list[i] = i + 1
	}
	return list, true
}

// OneString returns those of them by which stars have one string.
func OneString(points int) ([]int, bool) {
	steps, ok := StarsOf(points)
	if !ok {
		return nil, false
	}
	var list []int
	for _, step := range steps {
		if commonDivisor(points, step) == 1 {
			list = append(list, step)
		}
	}
	return list, true
}

// StepsBetween returns the least number of lines, 0 also, that lead from a point to another one.
// It fails if they are in different strings.
func StepsBetween(s Star, from int, to int) (int, bool) {
	points, ok := StringOf(s, from)
	if !ok {
		return 0, false
	}
	steps := slices.Index(points, to)
	if steps < 0 {
		return 0, false
	}
	return steps, true
}

// StepTo returns the least step by which just so many lines, 1..MaxPoints, lead from a point to another one, or the same.
// It fails if there is none.
func StepTo(points int, from int, to int, steps int) (int, bool) {
	if !isPointCount(points) || !isPoint(points, from) || !isPoint(points, to) || steps < 1 || steps > MaxPoints {
		return 0, false
	}
	for step := 1; step < points; step++ {
		if (from+steps*step)%points == to {
			return step, true
		}
	}
	return 0, false
}

// TurnedStar returns the chords of a star with each point told as by farther, around, by in 0 up to Points - 1: the same ones as before.
func TurnedStar(s Star, by int) ([]Chord, bool) {
	if !IsStar(s) || !isPoint(s.Points, by) {
		return nil, false
	}
	// By a step of half the points lines lead there and back, which a set counts once.
	set := map[Chord]bool{}
	for point := range s.Points {
		start := (point + by) % s.Points
		set[chordBetween(start, (start+s.Step)%s.Points)] = true
	}
	return emptyInOrder(set), true
}

// StarText returns {, Points, /, Step and }.
func StarText(s Star) (string, bool) {
	if !IsStar(s) {
		return "", false
	}
	return "{" + strconv.Itoa(s.Points) + "/" + strconv.Itoa(s.Step) + "}", true
}

// ParseStar returns the star with a StarText. It fails if there is none.
func ParseStar(t string) (Star, bool) {
	rest, opened := strings.CutPrefix(t, "{")
	rest, closed := strings.CutSuffix(rest, "}")
	points, step, told := numberPair(rest, "/")
	s := Star{Points: points, Step: step}
	if !opened || !closed || !told || !IsStar(s) {
		return Star{}, false
	}
	return s, true
}

// numberPair reads two plain numbers with a sign between them.
func numberPair(t string, sign string) (int, int, bool) {
	left, right, parted := strings.Cut(t, sign)
	first, firstTold := plainNumber(left)
	second, secondTold := plainNumber(right)
	if !parted || !firstTold || !secondTold {
		return 0, 0, false
	}
	return first, second, true
}

// numberPairs reads pairs of plain numbers with a sign between those of a pair, and a comma between pairs.
func numberPairs(t string, sign string) ([][2]int, bool) {
	var pairs [][2]int
	for _, part := range strings.Split(t, ",") {
		first, second, ok := numberPair(part, sign)
		if !ok {
			return nil, false
		}
		pairs = append(pairs, [2]int{first, second})
	}
	return pairs, true
}

// plainNumber reads a number that is not less than 0.
func plainNumber(t string) (int, bool) {
	n, err := strconv.Atoi(t)
	// Atoi also takes signs and superfluous zeros, which no text of this package has.
	if err != nil || n < 0 || strconv.Itoa(n) != t {
		return 0, false
	}
	return n, true
}
