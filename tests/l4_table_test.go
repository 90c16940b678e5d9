package tests

import (
	"math"
	"slices"
	"testing"

	"loop.example/g01324/impl"
)

// noNumbers is what a failed call returns in place of a list of numbers.
var noNumbers []int

// plainRow adds a point up as often as the factor tells, for each point.
func plainRow(points int, factor int) []int {
	row := make([]int, points)
	for p := range row {
		for range factor {
			row[p] += p
		}
		for row[p] >= points {
			row[p] -= points
		}
	}
	return row
}

// plainOrbit follows lines from a point up to the last one that is new, and tells at which index the cycle begins.
func plainOrbit(row []int, point int) ([]int, int) {
	var orbit []int
	for !slices.Contains(orbit, point) {
		orbit = append(orbit, point)
		point = row[point]
	}
	return orbit, slices.Index(orbit, point)
}

// plainAfter tells where so many lines lead, going around the cycle as little as possible.
func plainAfter(row []int, point int, times int) int {
	orbit, lead := plainOrbit(row, point)
	if times < lead {
		return orbit[times]
	}
	return orbit[lead+(times-lead)%(len(orbit)-lead)]
}

// plainTableChords asks each pair of points whether a line joins it.
func plainTableChords(row []int) []impl.Chord {
	var list []impl.Chord
	for _, c := range allChords(len(row)) {
		if row[c.A] == c.B || row[c.B] == c.A {
			list = append(list, c)
		}
	}
	return list
}

// plainTurn turns chords around by one point after the other until they are as before.
func plainTurn(points int, list []impl.Chord) int {
	turned := list
	for by := 1; ; by++ {
		turned = retold(turned, func(p int) int { return (p + 1) % points })
		if slices.Equal(turned, list) {
			return by
		}
	}
}

// plainCycles returns each orbit that is all cycle and begins with its least point.
func plainCycles(row []int) [][]int {
	var cycles [][]int
	for p := range row {
		if orbit, lead := plainOrbit(row, p); lead == 0 && slices.Min(orbit) == p {
			cycles = append(cycles, orbit)
		}
	}
	return cycles
}

// plainOrder goes along a table until each point is where it was. It is 0 if that never is so.
func plainOrder(row []int) int {
	at := slices.Clone(row)
	for times := 1; times <= len(row); times++ {
		if slices.Equal(at, append([]int{0}, upTo(len(row)-1)...)) {
			return times
		}
		for p := range at {
			at[p] = row[at[p]]
		}
	}
	return 0
}

// plainLinesTo returns the points of a row from which lines lead to a point.
func plainLinesTo(row []int, point int) []int {
	var list []int
	for from, to := range row {
		if to == point {
			list = append(list, from)
		}
	}
	return list
}

// plainFixed returns the points of a row whose lines lead to themselves.
func plainFixed(row []int) []int {
	var list []int
	for from, to := range row {
		if from == to {
			list = append(list, from)
		}
	}
	return list
}

// plainDivisor tries all numbers for the greatest one that divides both.
func plainDivisor(a int, b int) int {
	for d := a; d > 1; d-- {
		if a%d == 0 && b%d == 0 {
			return d
		}
	}
	return 1
}

// eachTable calls a check with every table and its row.
func eachTable(check func(points int, factor int, row []int)) {
	for points := 3; points <= 60; points++ {
		for factor := range points {
			check(points, factor, plainRow(points, factor))
		}
	}
}

func TestTablesExample(t *testing.T) {
	want(t, "row", all(impl.TimesRow(6, 2)), []int{0, 2, 4, 0, 2, 4}, true)
	want(t, "cycles", all(impl.CyclesOfTable(6, 2)), [][]int{{0}, {2, 4}}, true)
	want(t, "depth", all(impl.DepthOfTable(6, 2)), 1, true)
	want(t, "chords", all(impl.TimesChords(6, 2)), chords(0, 3, 1, 2, 2, 4, 4, 5), true)
	want(t, "order", all(impl.OrderOfFactor(7, 3)), 6, true)
	want(t, "undo", all(impl.UndoFactor(7, 3)), 5, true)
	want(t, "fixed", all(impl.FixedPoints(6, 3)), []int{0, 3}, true)
}

func TestLinesOfTables(t *testing.T) {
	eachTable(func(points int, factor int, row []int) {
		want(t, "row", all(impl.TimesRow(points, factor)), row, true)
		var hit []int
		for p := range row {
			want(t, "point", all(impl.TimesPoint(points, factor, p)), row[p], true)
			from := plainLinesTo(row, p)
			want(t, "lines to", all(impl.LinesTo(points, factor, p)), from, true)
			if len(from) > 0 {
				hit = append(hit, p)
			}
		}
		want(t, "hit", all(impl.PointsHit(points, factor)), hit, true)
	})
	want(t, "no line", all(impl.LinesTo(6, 2, 1)), noNumbers, true)
	want(t, "two lines", all(impl.LinesTo(6, 2, 4)), []int{2, 5}, true)
	want(t, "all lines", all(impl.LinesTo(5, 0, 0)), []int{0, 1, 2, 3, 4}, true)
	want(t, "hit", all(impl.PointsHit(6, 2)), []int{0, 2, 4}, true)
	want(t, "greatest", all(impl.TimesPoint(60, 59, 59)), 1, true)
}

func TestFactorsZeroAndOne(t *testing.T) {
	for points := 3; points <= 60; points++ {
		each := append([]int{0}, upTo(points-1)...)
		want(t, "row 0", all(impl.TimesRow(points, 0)), make([]int, points), true)
		want(t, "row 1", all(impl.TimesRow(points, 1)), each, true)
		want(t, "chords 0", all(impl.TimesChords(points, 0)), fan(points-1), true)
		want(t, "chords 1", all(impl.TimesChords(points, 1)), noChordList, true)
		want(t, "fixed 0", all(impl.FixedPoints(points, 0)), []int{0}, true)
		want(t, "fixed 1", all(impl.FixedPoints(points, 1)), each, true)
		want(t, "cycles 0", all(impl.CyclesOfTable(points, 0)), [][]int{{0}}, true)
		want(t, "depth 0", all(impl.DepthOfTable(points, 0)), 1, true)
		want(t, "depth 1", all(impl.DepthOfTable(points, 1)), 0, true)
		want(t, "hit 0", all(impl.PointsHit(points, 0)), []int{0}, true)
		want(t, "undone 0", all(impl.CanBeUndone(points, 0)), false, true)
		want(t, "undone 1", all(impl.CanBeUndone(points, 1)), true, true)
		want(t, "undo 0", all(impl.UndoFactor(points, 0)), 0, false)
		want(t, "undo 1", all(impl.UndoFactor(points, 1)), 1, true)
		want(t, "order 0", all(impl.OrderOfFactor(points, 0)), 0, false)
		want(t, "order 1", all(impl.OrderOfFactor(points, 1)), 1, true)
		want(t, "turn 0", all(impl.LeastTurnOfTable(points, 0)), points, true)
		want(t, "turn 1", all(impl.LeastTurnOfTable(points, 1)), 1, true)
		want(t, "crossings 0", all(impl.TableCrossings(points, 0)), 0, true)
		want(t, "crossings 1", all(impl.TableCrossings(points, 1)), 0, true)
		want(t, "after none", all(impl.TimesAfter(points, 0, points-1, 0)), points-1, true)
		want(t, "after one", all(impl.TimesAfter(points, 0, points-1, 1)), 0, true)
	}
}

func TestLeastTables(t *testing.T) {
	want(t, "row", all(impl.TimesRow(3, 2)), []int{0, 2, 1}, true)
	want(t, "chords", all(impl.TimesChords(3, 2)), chords(1, 2), true)
	want(t, "cycles", all(impl.CyclesOfTable(3, 2)), [][]int{{0}, {1, 2}}, true)
	want(t, "undo", all(impl.UndoFactor(3, 2)), 2, true)
	want(t, "long", all(impl.LongFactors(3)), []int{2}, 2, true)
	want(t, "turn", all(impl.LeastTurnOfTable(3, 2)), 3, true)
	want(t, "with", all(impl.FactorsWith(3, 1)), []int{0, 2}, true)
	want(t, "with all", all(impl.FactorsWith(3, 3)), []int{1}, true)
	want(t, "with none", all(impl.FactorsWith(3, 2)), noNumbers, true)
}

func TestMostTablePoints(t *testing.T) {
	want(t, "far", all(impl.LeadOfPoint(60, 2, 1)), 2, 4, true)
	want(t, "depth", all(impl.DepthOfTable(60, 30)), 2, true)
	want(t, "order", all(impl.OrderOfFactor(60, 59)), 2, true)
	want(t, "undo", all(impl.UndoFactor(60, 7)), 43, true)
	want(t, "with all", all(impl.FactorsWith(60, 60)), []int{1}, true)
	want(t, "with half", all(impl.FactorsWith(60, 30)), []int{31}, true)
	// By 2 each of 60 points but 0 is joined to another one, no two by the same chord but 20 and 40.
	list, ok := impl.TimesChords(60, 2)
	want(t, "more chords than a set has", all(len(list), ok), 58, true)
	want(t, "crossings of so many", all(impl.TableCrossings(60, 2)), len(plainPairs(60, list)), true)
	factors, order, ok := impl.LongFactors(59)
	want(t, "long", all(len(factors), order, ok), 28, 58, true)
}

func TestFixedPoints(t *testing.T) {
	eachTable(func(points int, factor int, row []int) {
		fixed := plainFixed(row)
		want(t, "fixed", all(impl.FixedPoints(points, factor)), fixed, true)
		// The factor 0 less 1 has the same divisors as 1.
		if len(fixed) != plainDivisor(points, max(factor-1, -factor+1)) {
			t.Error("fixed points", points, factor, fixed)
		}
	})
}

func TestLinesLeadIntoCycles(t *testing.T) {
	eachTable(func(points int, factor int, row []int) {
		cycles := plainCycles(row)
		want(t, "cycles", all(impl.CyclesOfTable(points, factor)), cycles, true)
		in := slices.Concat(cycles...)
		depth := 0
		for p := range row {
			orbit, lead := plainOrbit(row, p)
			want(t, "lead", all(impl.LeadOfPoint(points, factor, p)), lead, len(orbit)-lead, true)
			depth = max(depth, lead)
			at, ok := impl.TimesAfter(points, factor, p, lead)
			if !ok || !slices.Contains(in, at) || (lead == 0) != slices.Contains(in, p) {
				t.Error("no cycle", points, factor, p, at)
			}
			want(t, "around", all(impl.TimesAfter(points, factor, at, len(orbit)-lead)), at, true)
		}
		want(t, "depth", all(impl.DepthOfTable(points, factor)), depth, true)
	})
	want(t, "fixed", all(impl.LeadOfPoint(6, 3, 3)), 0, 1, true)
	want(t, "far from a cycle", all(impl.LeadOfPoint(32, 2, 1)), 5, 1, true)
	want(t, "far from a long cycle", all(impl.LeadOfPoint(56, 2, 1)), 3, 3, true)
	want(t, "nearer", all(impl.LeadOfPoint(32, 2, 8)), 2, 1, true)
	want(t, "in a cycle", all(impl.LeadOfPoint(59, 2, 58)), 0, 58, true)
	want(t, "depth", all(impl.DepthOfTable(32, 2)), 5, true)
}

func TestTimesAfter(t *testing.T) {
	eachTable(func(points int, factor int, row []int) {
		for p := range row {
			for _, times := range []int{0, 1, 2, 3, 4, 5, 7, 58, 60, 63, 64, 65, 999999, 1000000} {
				told := plainAfter(row, p, times)
				if at, ok := impl.TimesAfter(points, factor, p, times); at != told || !ok {
					t.Error("after", points, factor, p, times, at, ok)
				}
			}
		}
	})
	for _, table := range [][]int{{3, 2}, {7, 3}, {32, 2}, {59, 2}, {60, 59}} {
		row := plainRow(table[0], table[1])
		at := 1
		for times := range 1000001 {
			if times%99991 == 0 || times == 1000000 {
				want(t, "walked", all(impl.TimesAfter(table[0], table[1], 1, times)), at, true)
			}
			at = row[at]
		}
	}
}

func TestTablesThatCanBeUndone(t *testing.T) {
	eachTable(func(points int, factor int, row []int) {
		order := plainOrder(row)
		can := plainDivisor(points, factor) == 1 && factor > 0
		if can != (order > 0) {
			t.Fatal("order", points, factor, order)
		}
		want(t, "can", all(impl.CanBeUndone(points, factor)), can, true)
		want(t, "order", all(impl.OrderOfFactor(points, factor)), order, can)
		undo, ok := impl.UndoFactor(points, factor)
		if ok != can || !can && undo != 0 || undo < 0 || undo >= points {
			t.Error("undo", points, factor, undo, ok)
		}
		if !can {
			return
		}
		back := plainRow(points, undo)
		for p := range row {
			if back[row[p]] != p || row[back[p]] != p {
				t.Error("not led back", points, factor, undo, p)
			}
			want(t, "called back", all(impl.TimesPoint(points, undo, row[p])), p, true)
		}
	})
	want(t, "cannot", all(impl.CanBeUndone(6, 3)), false, true)
	want(t, "no undo", all(impl.UndoFactor(6, 3)), 0, false)
	want(t, "no order", all(impl.OrderOfFactor(6, 3)), 0, false)
	want(t, "itself", all(impl.UndoFactor(8, 5)), 5, true)
	want(t, "longest", all(impl.OrderOfFactor(59, 2)), 58, true)
}

func TestLongFactors(t *testing.T) {
	for points := 3; points <= 60; points++ {
		longest := 0
		var factors []int
		for factor := range points {
			order := plainOrder(plainRow(points, factor))
			if order > longest {
				longest, factors = order, nil
			}
			if order == longest {
				factors = append(factors, factor)
			}
		}
		want(t, "long", all(impl.LongFactors(points)), factors, longest, true)
	}
	want(t, "long of 7", all(impl.LongFactors(7)), []int{3, 5}, 6, true)
	want(t, "long of 8", all(impl.LongFactors(8)), []int{3, 5, 7}, 2, true)
	want(t, "long of 6", all(impl.LongFactors(6)), []int{5}, 2, true)
}

func TestChordsOfTables(t *testing.T) {
	eachTable(func(points int, factor int, row []int) {
		list := plainTableChords(row)
		want(t, "chords", all(impl.TimesChords(points, factor)), append(noChordList, list...), true)
		want(t, "turn", all(impl.LeastTurnOfTable(points, factor)), plainTurn(points, list), true)
		if points <= 20 || points == 60 {
			want(t, "crossings", all(impl.TableCrossings(points, factor)), len(plainPairs(points, list)), true)
		}
	})
	want(t, "there and back", all(impl.TimesChords(4, 3)), chords(1, 3), true)
	want(t, "half a turn", all(impl.LeastTurnOfTable(4, 3)), 2, true)
	want(t, "a turn by 2", all(impl.LeastTurnOfTable(60, 31)), 2, true)
	want(t, "a whole turn", all(impl.LeastTurnOfTable(5, 2)), 5, true)
	want(t, "a whole turn of 6", all(impl.LeastTurnOfTable(6, 2)), 6, true)
	want(t, "crossing", all(impl.TableCrossings(5, 2)), 1, true)
	want(t, "not crossing", all(impl.TableCrossings(6, 5)), 0, true)
	want(t, "two that cross", all(impl.TableCrossings(8, 5)), 1, true)
}

func TestFactorsWith(t *testing.T) {
	for points := 3; points <= 60; points++ {
		for fixed := 0; fixed <= 60; fixed++ {
			var factors []int
			for factor := range points {
				if len(plainFixed(plainRow(points, factor))) == fixed {
					factors = append(factors, factor)
				}
			}
			want(t, "with", all(impl.FactorsWith(points, fixed)), factors, true)
		}
	}
	want(t, "without fixed points", all(impl.FactorsWith(6, 0)), noNumbers, true)
	want(t, "with four of six", all(impl.FactorsWith(6, 4)), noNumbers, true)
	want(t, "with more than there are", all(impl.FactorsWith(6, 60)), noNumbers, true)
	want(t, "with three of six", all(impl.FactorsWith(6, 3)), []int{4}, true)
}

// checkNoTable checks that all calls with numbers that are none of a table fail.
func checkNoTable(t *testing.T, points int, factor int) {
	t.Helper()
	want(t, "point", all(impl.TimesPoint(points, factor, 0)), 0, false)
	want(t, "row", all(impl.TimesRow(points, factor)), noNumbers, false)
	want(t, "chords", all(impl.TimesChords(points, factor)), noChordList, false)
	want(t, "fixed", all(impl.FixedPoints(points, factor)), noNumbers, false)
	want(t, "after", all(impl.TimesAfter(points, factor, 0, 0)), 0, false)
	want(t, "after 1", all(impl.TimesAfter(points, factor, 1, 1)), 0, false)
	want(t, "cycles", all(impl.CyclesOfTable(points, factor)), noPoints, false)
	want(t, "lead", all(impl.LeadOfPoint(points, factor, 0)), 0, 0, false)
	want(t, "depth", all(impl.DepthOfTable(points, factor)), 0, false)
	want(t, "hit", all(impl.PointsHit(points, factor)), noNumbers, false)
	want(t, "lines to", all(impl.LinesTo(points, factor, 0)), noNumbers, false)
	want(t, "can", all(impl.CanBeUndone(points, factor)), false, false)
	want(t, "undo", all(impl.UndoFactor(points, factor)), 0, false)
	want(t, "order", all(impl.OrderOfFactor(points, factor)), 0, false)
	want(t, "turn", all(impl.LeastTurnOfTable(points, factor)), 0, false)
	want(t, "crossings", all(impl.TableCrossings(points, factor)), 0, false)
}

func TestFailsForNoTable(t *testing.T) {
	for _, points := range edgeNumbers {
		for _, factor := range append([]int{points, points - 1, points + 1, -points}, edgeNumbers...) {
			if points < 3 || points > 60 || factor < 0 || factor >= points {
				checkNoTable(t, points, factor)
			}
		}
		if points < 3 || points > 60 {
			want(t, "long", all(impl.LongFactors(points)), noNumbers, 0, false)
			for _, fixed := range edgeNumbers {
				want(t, "with", all(impl.FactorsWith(points, fixed)), noNumbers, false)
			}
		}
	}
}

func TestFailsForNoTablePoint(t *testing.T) {
	for _, points := range []int{3, 4, 6, 7, 32, 59, 60} {
		for _, factor := range []int{0, 1, 2, points - 1} {
			for _, p := range append([]int{points, points + 1, -points}, edgeNumbers...) {
				if p >= 0 && p < points {
					continue
				}
				want(t, "point", all(impl.TimesPoint(points, factor, p)), 0, false)
				want(t, "after", all(impl.TimesAfter(points, factor, p, 0)), 0, false)
				want(t, "after 1", all(impl.TimesAfter(points, factor, p, 1)), 0, false)
				want(t, "lead", all(impl.LeadOfPoint(points, factor, p)), 0, 0, false)
				want(t, "lines to", all(impl.LinesTo(points, factor, p)), noNumbers, false)
			}
		}
	}
}

func TestFailsForOtherCountsOfTables(t *testing.T) {
	for _, n := range append([]int{math.MaxInt32 + 1, math.MinInt32}, edgeNumbers...) {
		for _, points := range []int{3, 6, 7, 60} {
			if n < 0 || n > 1000000 {
				want(t, "after", all(impl.TimesAfter(points, 2, 1, n)), 0, false)
				want(t, "after by 1", all(impl.TimesAfter(points, 1, 0, n)), 0, false)
			}
			if n < 0 || n > 60 {
				want(t, "with", all(impl.FactorsWith(points, n)), noNumbers, false)
			}
		}
	}
}
