package tests

import (
	"math"
	"reflect"
	"runtime"
	"slices"
	"strings"
	"testing"
	"unsafe"

	"loop.example/g01324/impl"
)

// starCalls returns the results of all calls of chapter 1 with the same numbers.
func starCalls(s impl.Star, p int, q int) []any {
	c, d := impl.Chord{A: p, B: q}, impl.Chord{A: q, B: p}
	calls := [][]any{
		all(impl.IsStar(s)), all(impl.NextPoint(s, p)), all(impl.PointAfter(s, p, q)), all(impl.StringOf(s, p)), all(impl.StringsOf(s)),
		all(impl.CountStrings(s)), all(impl.ChordsOf(s)), all(impl.AreCrossing(s.Points, c, c)), all(impl.AreCrossing(s.Points, c, d)),
		all(impl.CrossingsOn(s, c)), all(impl.CrossingsOn(s, d)), all(impl.CountCrossings(s)), all(impl.TurnsOf(s)), all(impl.SmallStep(s)),
		all(impl.StarsOf(p)), all(impl.OneString(p)), all(impl.StepsBetween(s, p, q)), all(impl.StepTo(s.Points, p, q, s.Step)),
		all(impl.StepTo(p, q, s.Points, s.Step)), all(impl.TurnedStar(s, p)), all(impl.StarText(s)),
	}
	return slices.Concat(calls...)
}

// checkZero checks of results, each group of which ends with a bool, that those of failed calls are zero.
func checkZero(t *testing.T, results []any) {
	t.Helper()
	for i := 1; i < len(results); i++ {
		ok, isBool := results[i].(bool)
		if !isBool || ok {
			continue
		}
		if v := reflect.ValueOf(results[i-1]); v.Kind() != reflect.Bool && !v.IsZero() && !isEmptySlice(results[i-1]) {
			t.Error("a failed call returns", results[i-1])
		}
	}
}

func TestStarsAcceptAllArguments(t *testing.T) {
	few := []int{edgeNumbers[0], -1, 0, 1, 2, 3, 5, 59, 60, 61, 1000000, 1000001, edgeNumbers[len(edgeNumbers)-1]}
	for _, points := range edgeNumbers {
		for _, step := range edgeNumbers {
			for _, p := range few {
				for _, q := range few {
					checkZero(t, starCalls(impl.Star{Points: points, Step: step}, p, q))
				}
			}
		}
	}
}

func TestStarTextsAcceptAllBytes(t *testing.T) {
	for b := range 256 {
		for i := range len("{5/2}") + 1 {
			for _, told := range []string{"{5/2}"[:i] + string([]byte{byte(b)}) + "{5/2}"[i:], "{5/2}"[:max(i-1, 0)] + string([]byte{byte(b)}) + "{5/2}"[i:]} {
				s, ok := impl.ParseStar(told)
				if back, fine := impl.StarText(s); ok != fine || ok && back != told || !ok && s != (impl.Star{}) {
					t.Errorf("%q is %v, %v", told, s, ok)
				}
			}
		}
	}
	want(t, "long", all(impl.ParseStar("{"+strings.Repeat("5", 100000)+"/2}")), impl.Star{}, false)
	want(t, "many braces", all(impl.ParseStar(strings.Repeat("{", 100000)+"5/2}")), impl.Star{}, false)
}

func TestStarResultsAreNew(t *testing.T) {
	s := impl.Star{Points: 12, Step: 8}
	for range 2 {
		// Each result is spoilt after it was checked: a second call must not see that.
		lists, _ := impl.StringsOf(s)
		want(t, "strings", all(lists), [][]int{{0, 8, 4}, {1, 9, 5}, {2, 10, 6}, {3, 11, 7}})
		for i := range lists {
			lists[i] = append(lists[i], -1)
			lists[i][0] = -1
		}
		for _, list := range lists {
			if len(list) != 4 || slices.Contains(list[1:3], -1) {
				t.Error("strings share memory", lists)
			}
		}
		list, _ := impl.StringOf(s, 1)
		want(t, "string", all(list), []int{1, 9, 5})
		list[0] = -1
		steps, _ := impl.StarsOf(12)
		want(t, "steps", all(steps), []int{1, 2, 3, 4, 5, 6})
		steps[0] = -1
		single, _ := impl.OneString(12)
		want(t, "single", all(single), []int{1, 5})
		single[0] = -1
		chords, _ := impl.ChordsOf(s)
		want(t, "chords", all(chords), plainChords(s))
		chords[0] = impl.Chord{}
		turned, _ := impl.TurnedStar(s, 7)
		want(t, "turned", all(turned), plainChords(s))
		turned[0] = impl.Chord{}
	}
}

func TestSameCallsAgree(t *testing.T) {
	s := impl.Star{Points: 60, Step: 26}
	first := starCalls(s, 3, 29)
	for range 50 {
		want(t, "again", starCalls(s, 3, 29), first...)
	}
}

// chordCalls returns the results of all calls of chapter 2 with a list and the same numbers.
func chordCalls(points int, list []impl.Chord, k int) []any {
	calls := [][]any{
		all(impl.AreChords(points, list)), all(impl.CrossingPairs(points, list)), all(impl.CountPairsCrossing(points, list)),
		all(impl.MostCrossed(points, list)), all(impl.IsPlane(points, list)), all(impl.CrossingGroups(points, list)),
		all(impl.SidesOfChords(points, list)), all(impl.FewestDrops(points, list)), all(impl.ChordLengths(points, list)),
		all(impl.TurnChords(points, list, k)), all(impl.MirrorChords(points, list)), all(impl.AddChord(points, list, impl.Chord{A: k, B: points})),
		all(impl.AddChord(points, list, impl.Chord{A: 1, B: k})), all(impl.DropChord(points, list, k)), all(impl.IsPairing(points, list)),
		all(impl.CountPairings(points, k)), all(impl.CountPlanePairings(points)), all(impl.PlanePairingOfRank(points, k)),
		all(impl.RankOfPlanePairing(points, list)), all(impl.ChordsText(list)),
	}
	return slices.Concat(calls...)
}

// anyLists returns lists of chords, sets and others.
func anyLists() [][]impl.Chord {
	lists := append(noSets(), nil, allChords(60)[:40], allChords(60)[:41], allChords(60), halves(30), rowOfChords(12), rowOfChords(13), chords(0, 1, 2, 3))
	for _, a := range edgeNumbers {
		for _, b := range edgeNumbers {
			lists = append(lists, chords(a, b), chords(0, 1, a, b))
		}
	}
	return lists
}

func TestChordsAcceptAllArguments(t *testing.T) {
	for _, points := range []int{edgeNumbers[0], -1, 0, 2, 3, 4, 5, 12, 13, 14, 30, 31, 32, 60, 61, edgeNumbers[len(edgeNumbers)-1]} {
		for _, list := range anyLists() {
			for _, k := range []int{edgeNumbers[0], -1, 0, 1, 3, 59, 60, 100, 101, edgeNumbers[len(edgeNumbers)-1]} {
				checkZero(t, chordCalls(points, list, k))
			}
		}
	}
}

func TestChordsTextsAcceptAllBytes(t *testing.T) {
	const text = "0-2,1-3"
	for b := range 256 {
		for i := range len(text) + 1 {
			for _, told := range []string{text[:i] + string([]byte{byte(b)}) + text[i:], text[:max(i-1, 0)] + string([]byte{byte(b)}) + text[i:]} {
				list, ok := impl.ParseChords(told)
				if back, fine := impl.ChordsText(list); ok && (!fine || back != told) || !ok && len(list) != 0 {
					t.Errorf("%q is %v, %v", told, list, ok)
				}
			}
		}
	}
}

// withRoom returns a list with spare capacity behind it that holds chords, and all of it.
func withRoom(list []impl.Chord) ([]impl.Chord, []impl.Chord) {
	whole := append(slices.Clone(list), chords(7, 8, 8, 9, 3, 1)...)
	return whole[:len(list)], whole
}

func TestChordArgumentsStay(t *testing.T) {
	for _, told := range [][]impl.Chord{nil, chords(0, 2, 1, 3, 2, 5), chords(0, 3, 1, 2, 4, 5), halves(30), rowOfChords(39), rowOfChords(40), chords(0, 2, 0, 1)} {
		list, whole := withRoom(told)
		before := slices.Clone(whole)
		for _, points := range []int{2, 6, 10, 60} {
			for k := -1; k <= 60; k++ {
				want(t, "with room", chordCalls(points, list, k), chordCalls(points, told, k)...)
			}
		}
		if !slices.Equal(whole, before) {
			t.Error("a call changes its list", before, whole)
		}
	}
}

// spoil changes each chord of a list and of its spare capacity.
func spoil(list []impl.Chord, ok bool) {
	list = list[:cap(list)]
	for i := range list {
		list[i] = impl.Chord{A: -1, B: -1}
	}
}

func TestChordResultsAreNew(t *testing.T) {
	told := chords(0, 3, 1, 2, 4, 5)
	list, whole := withRoom(told)
	before := slices.Clone(whole)
	for range 2 {
		want(t, "turn", all(impl.TurnChords(6, list, 0)), told, true)
		spoil(impl.TurnChords(6, list, 0))
		want(t, "mirror", all(impl.MirrorChords(6, list)), chords(0, 3, 1, 2, 4, 5), true)
		spoil(impl.MirrorChords(6, list))
		spoil(impl.AddChord(6, list, impl.Chord{A: 4, B: 5}))
		spoil(impl.AddChord(6, list, impl.Chord{A: 3, B: 5}))
		spoil(impl.AddChord(7, list, impl.Chord{A: 5, B: 6}))
		spoil(impl.DropChord(6, list, 0))
		spoil(impl.DropChord(6, list, 2))
		want(t, "rank", all(impl.PlanePairingOfRank(6, 2)), told, true)
		spoil(impl.PlanePairingOfRank(6, 2))
		want(t, "parse", all(impl.ParseChords("0-3,1-2,4-5")), told, true)
		spoil(impl.ParseChords("0-3,1-2,4-5"))
		if !slices.Equal(whole, before) {
			t.Error("a result shares memory with its list", whole)
		}
	}
}

// checkApart checks that no two lists of a result share memory.
func checkApart(t *testing.T, lists [][]int) {
	t.Helper()
	told := make([][]int, len(lists))
	for i := range lists {
		told[i] = slices.Clone(lists[i])
	}
	for i := range lists {
		whole := lists[i][:cap(lists[i])]
		for k := range whole {
			whole[k] = -1
		}
		for j := i + 1; j < len(lists); j++ {
			if !slices.Equal(lists[j], told[j]) {
				t.Error("lists share memory", told)
			}
		}
	}
}

func TestChordListsAreApart(t *testing.T) {
	list := chords(0, 2, 0, 4, 1, 3, 2, 5, 6, 8, 7, 9)
	for range 2 {
		pairs, ok := impl.CrossingPairs(10, list)
		want(t, "pairs", all(pairs, ok), plainPairs(10, list), true)
		checkApart(t, pairs)
		groups, ok := impl.CrossingGroups(10, list)
		want(t, "groups", all(groups, ok), [][]int{{0, 1, 2, 3}, {4, 5}}, true)
		checkApart(t, groups)
		drops, ok := impl.FewestDrops(10, list)
		want(t, "drops", all(drops, ok), plainDrops(6, plainPairs(10, list)), true)
		drops[0] = -1
		lengths, ok := impl.ChordLengths(10, list)
		want(t, "lengths", all(lengths, ok), []int{2, 4, 2, 3, 2, 2}, true)
		lengths[0] = -1
	}
}

func TestSameChordCallsAgree(t *testing.T) {
	for _, list := range [][]impl.Chord{rowOfChords(12), halves(12), chords(0, 3, 1, 2, 4, 5), allChords(9)} {
		first := chordCalls(60, list, 3)
		for range 20 {
			want(t, "again", chordCalls(60, list, 3), first...)
		}
	}
}

// pathCalls returns the results of all calls of chapter 3 with a word and the same numbers.
func pathCalls(grid int, w string, p int, q int) []any {
	calls := [][]any{
		all(impl.IsWord(grid, w)), all(impl.PathOf(grid, w)), all(impl.EndOf(grid, w)), all(impl.IsClosed(grid, w)), all(impl.RepeatsToClose(grid, w)),
		all(impl.RepeatWord(grid, w, p)), all(impl.TurnsMade(grid, w)), all(impl.CrossedPoints(grid, w)), all(impl.DoubleArea(grid, w)),
		all(impl.MirrorWord(grid, w)), all(impl.BackWord(grid, w)), all(impl.ShiftWord(grid, w, p)), all(impl.LeastShift(grid, w)),
		all(impl.SpiralWord(grid, p, q)), all(impl.SpiralRepeats(grid, p, q)), all(impl.CountClosed(grid, p)), all(impl.ShortWord(grid, w)),
	}
	return slices.Concat(calls...)
}

func TestPathsAcceptAllArguments(t *testing.T) {
	words := append(noWords(), "", "F", "LR", "FL", "FLFLFLFL", strings.Repeat("F", 119)+"L", strings.Repeat("FRL", 40))
	for _, grid := range edgeNumbers {
		for _, w := range words {
			for _, p := range edgeNumbers {
				checkZero(t, pathCalls(grid, w, p, 1))
			}
		}
		for _, p := range edgeNumbers {
			for _, q := range edgeNumbers {
				checkZero(t, pathCalls(grid, "FL", p, q))
			}
		}
	}
}

func TestWordsAcceptAllBytes(t *testing.T) {
	const text = "FLRF"
	for b := range 256 {
		isSign := b == 'F' || b == 'L' || b == 'R'
		for i := range len(text) + 1 {
			for _, told := range []string{text[:i] + string([]byte{byte(b)}) + text[i:], text[:max(i-1, 0)] + string([]byte{byte(b)}) + text[i:]} {
				want(t, "word", all(impl.IsWord(4, told)), isSign, true)
				checkZero(t, pathCalls(6, told, 1, 1))
			}
		}
	}
}

func TestPathResultsAreNew(t *testing.T) {
	const w = "FLFLFLFLFF"
	for range 2 {
		path, ok := impl.PathOf(4, w)
		want(t, "path", all(path, ok), [][]int{{0, 0}, {1, 0}, {1, 1}, {0, 1}, {0, 0}, {1, 0}, {2, 0}}, true)
		checkApart(t, path)
		crossed, ok := impl.CrossedPoints(4, w)
		want(t, "crossed", all(crossed, ok), [][]int{{0, 0}, {1, 0}}, true)
		checkApart(t, crossed)
		end, ok := impl.EndOf(4, w)
		want(t, "end", all(end, ok), []int{2, 0, 0}, true)
		end[0] = -1
	}
}

// shareText reports whether two texts that are not empty begin in the same memory.
func shareText(a string, b string) bool {
	return a != "" && b != "" && unsafe.StringData(a) == unsafe.StringData(b)
}

func TestNewWords(t *testing.T) {
	for _, w := range []string{"F", "L", "FF", "FLFLFFFL", strings.Repeat("F", 120)} {
		repeated, _ := impl.RepeatWord(4, w, 1)
		shifted, _ := impl.ShiftWord(4, w, 0)
		least, _ := impl.LeastShift(4, w)
		mirrored, _ := impl.MirrorWord(4, w)
		back, _ := impl.BackWord(4, w)
		short, _ := impl.ShortWord(4, w)
		want(t, "words", all(repeated, shifted, short), w, w, w)
		// Texts of one sign need no memory of their own: the language keeps one of each.
		for _, told := range []string{repeated, shifted, least, mirrored, back, short} {
			if len(w) > 1 && shareText(w, told) {
				t.Error("a result shares memory with its word", w, told)
			}
		}
	}
}

// TestSendersHaveEnded checks that no goroutine is left over from words that are followed to the end, or just up to a sign that is none.
func TestSendersHaveEnded(t *testing.T) {
	before := runtime.NumGoroutine()
	for range 100 {
		for _, w := range []string{"", "FLFL", "xFLFL", "FLxFL", "FLFLx", strings.Repeat("F", 120), "x" + strings.Repeat("F", 119)} {
			pathCalls(4, w, 1, 1)
		}
	}
	wantNoneLeftOver(t, before)
}

// wantNoneLeftOver checks that there are not more goroutines than before.
func wantNoneLeftOver(t *testing.T, before int) {
	t.Helper()
	// A goroutine that has done its last act is still counted for a moment.
	for range 1000000 {
		if runtime.NumGoroutine() <= before {
			return
		}
		runtime.Gosched()
	}
	t.Error("goroutines are left over", runtime.NumGoroutine()-before)
}

func TestSamePathCallsAgree(t *testing.T) {
	for _, grid := range grids {
		for _, w := range longWords() {
			first := pathCalls(grid, w, 1, 1)
			for range 5 {
				want(t, "again", pathCalls(grid, w, 1, 1), first...)
			}
		}
	}
}

// tableCalls returns the results of all calls of chapter 4 with the same numbers.
func tableCalls(points int, factor int, p int, q int) []any {
	calls := [][]any{
		all(impl.TimesPoint(points, factor, p)), all(impl.TimesRow(points, factor)), all(impl.TimesChords(points, factor)), all(impl.FixedPoints(points, factor)),
		all(impl.TimesAfter(points, factor, p, q)), all(impl.CyclesOfTable(points, factor)), all(impl.DepthOfTable(points, factor)),
		all(impl.PointsHit(points, factor)), all(impl.LinesTo(points, factor, p)), all(impl.CanBeUndone(points, factor)), all(impl.UndoFactor(points, factor)),
		all(impl.OrderOfFactor(points, factor)), all(impl.LeastTurnOfTable(points, factor)), all(impl.TableCrossings(points, factor)), all(impl.FactorsWith(points, p)),
	}
	return slices.Concat(calls...)
}

// longTableCalls returns the results of the calls of chapter 4 that have two results beside the bool.
func longTableCalls(points int, factor int, p int) []any {
	return append(all(impl.LeadOfPoint(points, factor, p)), all(impl.LongFactors(points))...)
}

// checkLongZero checks of such results, each group of which ends with a bool, that those of failed calls are zero.
func checkLongZero(t *testing.T, results []any) {
	t.Helper()
	for i := 0; i+2 < len(results); i += 3 {
		if results[i+2] == true {
			continue
		}
		for _, v := range results[i : i+2] {
			if !reflect.ValueOf(v).IsZero() && !isEmptySlice(v) {
				t.Error("a failed call returns", v)
			}
		}
	}
}

func TestTablesAcceptAllArguments(t *testing.T) {
	few := []int{edgeNumbers[0], -1, 0, 1, 2, 3, 31, 59, 60, 61, 1000000, 1000001, edgeNumbers[len(edgeNumbers)-1]}
	for _, points := range edgeNumbers {
		for _, factor := range edgeNumbers {
			checkZero(t, tableCalls(points, factor, 0, 0))
			for _, p := range few {
				checkLongZero(t, longTableCalls(points, factor, p))
			}
		}
	}
	for _, points := range few {
		for _, factor := range few {
			for _, p := range few {
				for _, q := range edgeNumbers {
					checkZero(t, tableCalls(points, factor, p, q))
				}
			}
		}
	}
}

// spoilNumbers changes each number of a list and of its spare capacity.
func spoilNumbers(list []int) {
	list = list[:cap(list)]
	for i := range list {
		list[i] = -1
	}
}

func TestTableResultsAreNew(t *testing.T) {
	// Each result is spoilt after it was checked: a second call must not see that.
	for range 2 {
		row, ok := impl.TimesRow(6, 2)
		want(t, "row", all(row, ok), []int{0, 2, 4, 0, 2, 4}, true)
		spoilNumbers(row)
		list, ok := impl.TimesChords(6, 2)
		want(t, "chords", all(list, ok), chords(0, 3, 1, 2, 2, 4, 4, 5), true)
		spoil(list, ok)
		fixed, ok := impl.FixedPoints(6, 3)
		want(t, "fixed", all(fixed, ok), []int{0, 3}, true)
		spoilNumbers(fixed)
		cycles, ok := impl.CyclesOfTable(7, 2)
		want(t, "cycles", all(cycles, ok), [][]int{{0}, {1, 2, 4}, {3, 6, 5}}, true)
		checkApart(t, cycles)
		hit, ok := impl.PointsHit(6, 2)
		want(t, "hit", all(hit, ok), []int{0, 2, 4}, true)
		spoilNumbers(hit)
		from, ok := impl.LinesTo(6, 2, 4)
		want(t, "lines to", all(from, ok), []int{2, 5}, true)
		spoilNumbers(from)
		factors, order, ok := impl.LongFactors(7)
		want(t, "long", all(factors, order, ok), []int{3, 5}, 6, true)
		spoilNumbers(factors)
		with, ok := impl.FactorsWith(6, 2)
		want(t, "with", all(with, ok), []int{3, 5}, true)
		spoilNumbers(with)
	}
}

func TestSameTableCallsAgree(t *testing.T) {
	for _, table := range [][]int{{3, 2}, {6, 2}, {7, 3}, {59, 2}, {60, 1}, {60, 7}, {60, 31}} {
		first := append(tableCalls(table[0], table[1], 2, 999999), longTableCalls(table[0], table[1], 2)...)
		for range 20 {
			want(t, "again", append(tableCalls(table[0], table[1], 2, 999999), longTableCalls(table[0], table[1], 2)...), first...)
		}
	}
}

// gearCalls returns the results of all calls of chapter 5 with the same ring, wheel and numbers that have one result beside the bool.
func gearCalls(ring int, wheel int, p int, q int) []any {
	calls := [][]any{
		all(impl.PetalsOf(ring, wheel)), all(impl.RoundsOf(ring, wheel)), all(impl.SpinsOf(ring, wheel, true)), all(impl.SpinsOf(ring, wheel, false)),
		all(impl.DoMeet(ring, wheel, p, q)), all(impl.FirstMeeting(ring, wheel, p, q)), all(impl.MeetingsOf(ring, wheel, p)), all(impl.CuspsOf(ring, wheel)),
		all(impl.SameCusps(ring, wheel, p)), all(impl.SameCusps(ring, p, wheel)), all(impl.WheelsFor(ring, p)), all(impl.StarOfGears(ring, wheel)),
	}
	return slices.Concat(calls...)
}

// trainCalls returns the results of all calls of chapter 5 with a train, a list and a number that have one result beside the bool.
func trainCalls(train []int, at []int, n int) []any {
	calls := [][]any{
		all(impl.TrainTeeth(train, n)), all(impl.TrainPeriod(train)), all(impl.LeastTurns(train)), all(impl.AreInGear(train, at)), all(impl.AreInGear(at, train)),
		all(impl.AreInGear(train, train)),
	}
	return slices.Concat(calls...)
}

func TestGearsAcceptAllArguments(t *testing.T) {
	few := []int{math.MinInt, -1, 0, 1, 2, 60, 299, 300, 1000001, math.MaxInt}
	for _, ring := range gearNumbers {
		for _, wheel := range gearNumbers {
			for _, p := range few {
				for _, q := range few {
					checkZero(t, gearCalls(ring, wheel, p, q))
				}
			}
			for _, step := range gearNumbers {
				checkLongZero(t, all(impl.TeethAt(ring, wheel, step)))
			}
		}
	}
}

// anyTrains returns lists of numbers, trains and others.
func anyTrains() [][]int {
	trains := append(slices.Clone(noTrains), farTrains...)
	trains = append(trains, []int{0, 0}, []int{1, 1}, []int{12, 8, 16}, []int{1, 7, 1}, []int{300, 300}, []int{300, 299, 293, 289, 287, 283}, []int{1, 1, 1, 1, 1, 1})
	for _, a := range gearNumbers {
		for _, b := range gearNumbers {
			trains = append(trains, []int{a, b})
		}
	}
	return trains
}

func TestTrainsAcceptAllArguments(t *testing.T) {
	for _, train := range anyTrains() {
		for _, n := range gearNumbers {
			checkZero(t, trainCalls(train, []int{1, 7, 1}, n))
			checkZero(t, trainCalls(train, []int{n, 1}, n))
			checkLongZero(t, all(impl.TrainTurns(train, n)))
		}
		for _, at := range noTrains {
			checkZero(t, trainCalls(train, at, 0))
		}
	}
}

// numbersWithRoom returns a list with spare capacity behind it that holds numbers, and all of it.
func numbersWithRoom(list []int) ([]int, []int) {
	whole := append(slices.Clone(list), 5, 0, 301, 9, 1)
	return whole[:len(list)], whole
}

func TestTrainArgumentsStay(t *testing.T) {
	for _, told := range [][]int{nil, {12}, {12, 8}, {12, 8, 16}, {1, 7, 1}, {300, 1, 300, 1, 300, 1}, farTrains[0], farTrains[1], {1, 2, 3, 4, 5, 6, 7}} {
		for _, teeth := range [][]int{nil, {0, 0}, {1, 7, 1}, {0, 0, 0, 0, 0, 0}, {7, 0, 7, 0, 7, 0}} {
			train, wholeTrain := numbersWithRoom(told)
			at, wholeAt := numbersWithRoom(teeth)
			before := slices.Concat(wholeTrain, wholeAt)
			for _, n := range []int{-1000, -1, 0, 1, 7, 1000, 1000000} {
				want(t, "with room", trainCalls(train, at, n), trainCalls(told, teeth, n)...)
				want(t, "turns with room", all(impl.TrainTurns(train, n)), all(impl.TrainTurns(told, n))...)
			}
			if !slices.Equal(slices.Concat(wholeTrain, wholeAt), before) {
				t.Error("a call changes a list", before, wholeTrain, wholeAt)
			}
		}
	}
}

func TestGearResultsAreNew(t *testing.T) {
	train, whole := numbersWithRoom([]int{12, 8, 16})
	before := slices.Clone(whole)
	// Each result is spoilt after it was checked: a second call must not see that.
	for range 2 {
		meetings, ok := impl.MeetingsOf(12, 8, 5)
		want(t, "meetings", all(meetings, ok), []int{1, 5}, true)
		spoilNumbers(meetings)
		cusps, ok := impl.CuspsOf(12, 8)
		want(t, "cusps", all(cusps, ok), []int{0, 8, 4}, true)
		spoilNumbers(cusps)
		wheels, ok := impl.WheelsFor(12, 4)
		want(t, "wheels", all(wheels, ok), []int{3, 9}, true)
		spoilNumbers(wheels)
		above, below, ok := impl.TrainTurns(train, 1)
		want(t, "turns", all(above, below, ok), []int{1, -3, 3}, []int{1, 2, 4}, true)
		checkApart(t, [][]int{above, below})
		ones, same, ok := impl.TrainTurns([]int{1, 1}, 1)
		want(t, "turns", all(ones, same, ok), []int{1, -1}, []int{1, 1}, true)
		checkApart(t, [][]int{ones, same})
		at, ok := impl.TrainTeeth(train, 1)
		want(t, "teeth", all(at, ok), []int{1, 7, 1}, true)
		spoilNumbers(at)
		if !slices.Equal(whole, before) {
			t.Error("a result shares memory with its train", whole)
		}
	}
}

func TestSameGearCallsAgree(t *testing.T) {
	for _, gear := range [][]int{{3, 2}, {12, 8}, {60, 59}, {300, 1}, {300, 150}, {300, 299}} {
		first := append(gearCalls(gear[0], gear[1], 2, 1), all(impl.TeethAt(gear[0], gear[1], 999999))...)
		for range 5 {
			want(t, "again", append(gearCalls(gear[0], gear[1], 2, 1), all(impl.TeethAt(gear[0], gear[1], 999999))...), first...)
		}
	}
	for _, train := range append(someTrains()[:10], farTrains...) {
		first := append(trainCalls(train, []int{1, 7, 1}, 999), all(impl.TrainTurns(train, 999))...)
		for range 5 {
			want(t, "again", append(trainCalls(train, []int{1, 7, 1}, 999), all(impl.TrainTurns(train, 999))...), first...)
		}
	}
}

// threadsCalls returns the results of all calls of chapter 6 with a list and the same numbers that have one result beside the bool.
func threadsCalls(list []impl.Thread, p int, q int) []any {
	calls := [][]any{
		all(impl.AreThreads(list)), all(impl.CountMeetings(list)), all(impl.MeetingsOnThread(list, p)), all(impl.EdgeThreads(list)), all(impl.EdgeCorners(list)),
		all(impl.IsUnder(list, p, q)), all(impl.CountUnder(list)), all(impl.ScaleThreads(list, p)), all(impl.ExchangeThreads(list)),
		all(impl.AddThread(list, impl.Thread{A: p, B: q})), all(impl.HiddenThreads(list)), all(impl.ThreadsText(list)), all(impl.ArtThreads(p)),
	}
	return slices.Concat(calls...)
}

// pairCalls returns the results of all calls of chapter 6 with two threads that have one result beside the bool.
func pairCalls(s impl.Thread, other impl.Thread) []any {
	return slices.Concat(all(impl.DoThreadsMeet(s, other)), all(impl.MeetingOf(s, other)), all(impl.DoubleTriangle(s)))
}

// checkOneZero checks of the results of one call, the last one of which is a bool, that they are zero if it failed.
func checkOneZero(t *testing.T, results []any) {
	t.Helper()
	last := len(results) - 1
	for _, v := range results[:last] {
		if results[last] == false && !reflect.ValueOf(v).IsZero() {
			t.Error("a failed call returns", results)
		}
	}
}

// anyThreads returns lists of threads, valid ones and others.
func anyThreads() [][]impl.Thread {
	lists := append(noThreadLists(), throughSix(), tradedThreads(), allThreads(100)[:30], allThreads(100)[9970:], threads(1, 3, 2, 2, 3, 1))
	for _, a := range nailNumbers {
		for _, b := range nailNumbers {
			lists = append(lists, threads(a, b), threads(1, 1, a, b))
		}
	}
	return lists
}

func TestThreadsAcceptAllArguments(t *testing.T) {
	few := []int{math.MinInt, -1, 0, 1, 2, 29, 30, 99, 100, 101, 1<<32 + 1, math.MaxInt}
	for _, list := range anyThreads() {
		for _, p := range few {
			checkOneZero(t, all(impl.HighestAt(list, p)))
			for _, q := range few {
				checkZero(t, threadsCalls(list, p, q))
			}
		}
	}
	for _, a := range nailNumbers {
		for _, b := range nailNumbers {
			s := impl.Thread{A: a, B: b}
			for _, p := range nailNumbers {
				checkOneZero(t, all(impl.HeightOf(s, p)))
				for _, q := range few {
					checkZero(t, pairCalls(s, impl.Thread{A: p, B: q}))
				}
			}
		}
	}
}

func TestThreadsTextsAcceptAllBytes(t *testing.T) {
	const text = "1:3,2:2"
	for b := range 256 {
		for i := range len(text) + 1 {
			for _, told := range []string{text[:i] + string([]byte{byte(b)}) + text[i:], text[:max(i-1, 0)] + string([]byte{byte(b)}) + text[i:]} {
				list, ok := impl.ParseThreads(told)
				if back, fine := impl.ThreadsText(list); ok != fine || ok && back != told || !ok && len(list) != 0 {
					t.Errorf("%q is %v, %v", told, list, ok)
				}
			}
		}
	}
}

// threadsWithRoom returns a list with spare capacity behind it that holds threads, and all of it.
func threadsWithRoom(list []impl.Thread) ([]impl.Thread, []impl.Thread) {
	whole := append(slices.Clone(list), threads(100, 100, 7, 8, 0, 101)...)
	return whole[:len(list)], whole
}

func TestThreadArgumentsStay(t *testing.T) {
	lists := append(namedThreads(), nil, threads(2, 2, 1, 3), threads(1, 3, 1, 3), threads(0, 1), allThreads(6)[:29], allThreads(6)[:30], allThreads(6)[:31])
	for _, told := range lists {
		list, whole := threadsWithRoom(told)
		before := slices.Clone(whole)
		for _, p := range []int{-1, 0, 1, 2, 7, 29, 100, 101} {
			for _, q := range []int{-1, 0, 1, 8, 100} {
				want(t, "with room", threadsCalls(list, p, q), threadsCalls(told, p, q)...)
			}
			want(t, "highest with room", all(impl.HighestAt(list, p)), all(impl.HighestAt(told, p))...)
		}
		if !slices.Equal(whole, before) {
			t.Error("a call changes its list", before, whole)
		}
	}
}

// spoilThreads changes each thread of a list and of its spare capacity.
func spoilThreads(list []impl.Thread, ok bool) {
	list = list[:cap(list)]
	for i := range list {
		list[i] = impl.Thread{A: -1, B: -1}
	}
}

func TestThreadResultsAreNew(t *testing.T) {
	told := threads(1, 3, 2, 2, 3, 1)
	list, whole := threadsWithRoom(told)
	before := slices.Clone(whole)
	// Each result is spoilt after it was checked: a second call must not see that.
	for range 2 {
		want(t, "art", all(impl.ArtThreads(3)), told, true)
		spoilThreads(impl.ArtThreads(3))
		want(t, "scale", all(impl.ScaleThreads(list, 1)), told, true)
		spoilThreads(impl.ScaleThreads(list, 1))
		want(t, "exchange", all(impl.ExchangeThreads(list)), told, true)
		spoilThreads(impl.ExchangeThreads(list))
		spoilThreads(impl.AddThread(list, impl.Thread{A: 1, B: 1}))
		spoilThreads(impl.AddThread(list, impl.Thread{A: 2, B: 9}))
		spoilThreads(impl.AddThread(list, impl.Thread{A: 100, B: 100}))
		want(t, "parse", all(impl.ParseThreads("1:3,2:2,3:1")), told, true)
		spoilThreads(impl.ParseThreads("1:3,2:2,3:1"))
		if !slices.Equal(whole, before) {
			t.Error("a result shares memory with its list", whole)
		}
	}
}

func TestThreadListsAreApart(t *testing.T) {
	list := threads(1, 3, 2, 2, 3, 1)
	for range 2 {
		meeting, ok := impl.MeetingOf(list[0], list[1])
		want(t, "meeting", all(meeting, ok), []int{1, 2, 3, 2}, true)
		spoilNumbers(meeting)
		on, ok := impl.MeetingsOnThread(list, 0)
		want(t, "on a thread", all(on, ok), []int{1, 2}, true)
		spoilNumbers(on)
		edge, ok := impl.EdgeThreads(list)
		want(t, "edge", all(edge, ok), []int{0, 1, 2}, true)
		spoilNumbers(edge)
		corners, ok := impl.EdgeCorners(list)
		want(t, "corners", all(corners, ok), [][]int{{1, 2, 3, 2}, {3, 2, 1, 2}}, true)
		checkApart(t, corners)
		hidden, ok := impl.HiddenThreads(threads(1, 1, 2, 2))
		want(t, "hidden", all(hidden, ok), []int{0}, true)
		spoilNumbers(hidden)
	}
}

func TestSameThreadCallsAgree(t *testing.T) {
	for _, list := range [][]impl.Thread{throughSix(), tradedThreads(), threads(1, 3, 2, 2, 3, 1), allThreads(100)[:30], fewNails(1, 50, 100)} {
		first := append(threadsCalls(list, 2, 1), all(impl.HighestAt(list, 2))...)
		for range 20 {
			want(t, "again", append(threadsCalls(list, 2, 1), all(impl.HighestAt(list, 2))...), first...)
		}
	}
}

// loopCalls returns the results of all calls of chapter 7 with the same texts and numbers.
func loopCalls(w string, a string, b string, p int, q int) []any {
	calls := [][]any{
		all(impl.IsLoop(w)), all(impl.CountLoopCrossings(w)), all(impl.AreInterlaced(w, a, b)), all(impl.InterlacedWith(w, a)), all(impl.IsEvenLoop(w)),
		all(impl.CanBeDrawn(w)), all(impl.TurnLoop(w, p)), all(impl.BackLoop(w)), all(impl.FirstLoop(w)), all(impl.SameLoops(w, a)), all(impl.SameLoops(a, w)),
		all(impl.DropCrossing(w, a)), all(impl.JoinLoops(w, a)), all(impl.JoinLoops(b, w)), all(impl.CurlsOf(w)), all(impl.IsOneLoop(w)), all(impl.CountLoops(p)),
		all(impl.AllLoops(p)), all(impl.CountDrawn(p)), all(impl.LoopOfRank(p, q)), all(impl.RankOfLoop(w)),
	}
	return slices.Concat(calls...)
}

func TestLoopsAcceptAllArguments(t *testing.T) {
	texts := slices.Concat(noLoops(), namedLoops(), noLetters(8), []string{"", "aa", "abab", "abcabc"})
	for _, w := range texts {
		for _, a := range texts {
			checkZero(t, loopCalls(w, a, "a", 0, 0))
			checkZero(t, loopCalls(w, "a", a, 1, 1))
		}
		for _, p := range []int{math.MinInt, -1, 8, 15, 16, math.MaxInt} {
			checkZero(t, loopCalls(w, "a", "b", p, 1))
		}
	}
	for _, p := range loopNumbers {
		for _, q := range loopNumbers {
			checkZero(t, loopCalls("abcabc", "a", "b", p, q))
		}
	}
}

func TestLoopsAcceptAllBytes(t *testing.T) {
	const text = "abcabc"
	others := map[string]string{"a": "bc", "b": "ac", "c": "ab"}
	for b := range 256 {
		sign := string([]byte{byte(b)})
		want(t, "letter", all(impl.InterlacedWith(text, sign)), others[sign], others[sign] != "")
		for i := range len(text) + 1 {
			want(t, "one sign more", all(impl.IsLoop(text[:i]+sign+text[i:])), false)
			// Just the next letter may come, behind those before it.
			want(t, "two signs more", all(impl.IsLoop(text[:i]+sign+sign+text[i:])), b == 'd' && i >= 3)
			checkZero(t, loopCalls(text[:i]+sign+text[i:], sign, "a", 1, 1))
		}
		for i := range text {
			want(t, "another sign", all(impl.IsLoop(text[:i]+sign+text[i+1:])), sign == text[i:i+1])
		}
	}
}

func TestNewLoops(t *testing.T) {
	for _, w := range []string{"aa", "aabb", "abcabc", "aabbccddeeffgghh", "abcdefghabcdefgh"} {
		turned, _ := impl.TurnLoop(w, 0)
		back, _ := impl.BackLoop(w)
		first, _ := impl.FirstLoop(w)
		before, _ := impl.JoinLoops(w, "")
		behind, _ := impl.JoinLoops("", w)
		want(t, "loops", all(turned, back, first, before, behind), w, w, w, w, w)
		for _, told := range []string{turned, back, first, before, behind} {
			if shareText(w, told) {
				t.Error("a result shares memory with its loop", w)
			}
		}
	}
}

func TestLoopListsAreNew(t *testing.T) {
	// Each list is spoilt after it was checked: a second call must not see that.
	for range 2 {
		for crossings := range 5 {
			list, ok := impl.AllLoops(crossings)
			want(t, "loops", all(list, ok), loopsOf(crossings), true)
			for i := range list {
				list[i] = "x"
			}
		}
	}
}

func TestLoopArgumentsStay(t *testing.T) {
	for _, w := range append(noLoops(), namedLoops()...) {
		// The test keeps the memory of these texts itself, so that it sees what a call writes into them or behind them.
		memory := []byte(w + "aabb")
		text := unsafe.String(unsafe.SliceData(memory), len(w))
		letter := unsafe.String(unsafe.SliceData(memory), 1)
		want(t, "with room", loopCalls(text, letter, letter, 1, 1), loopCalls(w, w[:1], w[:1], 1, 1)...)
		if string(memory) != w+"aabb" {
			t.Error("a call changes a text", shortened(w))
		}
	}
}

func TestSameLoopCallsAgree(t *testing.T) {
	for _, w := range append(namedLoops(), "", "aa", "abab", "abcabc", "ba") {
		first := loopCalls(w, "a", "b", 4, 104)
		for range 10 {
			want(t, "again", loopCalls(w, "a", "b", 4, 104), first...)
		}
	}
}

// regionCalls returns the results of all calls of chapter 8 with a list and the same numbers.
func regionCalls(points int, list []impl.Chord, p int, q int) []any {
	calls := [][]any{
		all(impl.RegionsOf(points, list)), all(impl.RegionsOfStar(impl.Star{Points: points, Step: p})), all(impl.MostRegions(points)),
		all(impl.PiecesOfChord(points, list, p)), all(impl.CountPieces(points, list)), all(impl.ArcsParted(points, list, p, q)), all(impl.ShadesOfArcs(points, list)),
		all(impl.PlaneRegions(points, list)), all(impl.RegionSizes(points, list)), all(impl.RegionOfArc(points, list, p)), all(impl.NextRegions(points, list)),
		all(impl.EndRegions(points, list)), all(impl.FanOf(points, p)), all(impl.LeavesTriangles(points, list)), all(impl.CountTriangled(points)),
		all(impl.EarsOf(points, list)), all(impl.FlipDiagonal(points, list, p)),
	}
	return slices.Concat(calls...)
}

func TestRegionsAcceptAllArguments(t *testing.T) {
	few := []int{math.MinInt, -1, 0, 1, 3, 39, 40, 42, 43, 59, 60, 1 << 32, math.MaxInt}
	sets := append(anyLists(), fan(41), plainFan(43, 0), plainFan(44, 0), zigzag(43), arcChords(40), crossedByMany())
	for _, points := range []int{math.MinInt, -1, 0, 2, 3, 4, 5, 20, 21, 40, 43, 44, 60, 61, 1<<32 + 5, math.MaxInt} {
		for _, list := range sets {
			for _, p := range few {
				checkZero(t, regionCalls(points, list, p, 1))
			}
		}
		for _, p := range regionNumbers {
			for _, q := range regionNumbers {
				checkZero(t, regionCalls(points, chords(0, 2, 2, 4), p, q))
			}
		}
	}
}

func TestRegionArgumentsStay(t *testing.T) {
	lists := [][]impl.Chord{nil, chords(0, 2, 1, 3), chords(0, 2, 2, 4), chords(0, 4, 1, 3), plainFan(43, 0), zigzag(43), zigzag(6), halves(30), fan(40), arcChords(40), chords(0, 2, 0, 1)}
	for _, told := range lists {
		list, whole := withRoom(told)
		before := slices.Clone(whole)
		for _, points := range []int{2, 4, 5, 6, 40, 43, 60} {
			for _, p := range []int{-1, 0, 1, 2, 4, 38, 39, 40, 59, 60} {
				want(t, "with room", regionCalls(points, list, p, 1), regionCalls(points, told, p, 1)...)
			}
		}
		if !slices.Equal(whole, before) {
			t.Error("a call changes its list", before, whole)
		}
	}
}

func TestRegionResultsAreNew(t *testing.T) {
	list, whole := withRoom(chords(0, 2, 2, 4))
	before := slices.Clone(whole)
	// Each result is spoilt after it was checked: a second call must not see that.
	for range 2 {
		regions, ok := impl.PlaneRegions(5, list)
		want(t, "regions", all(regions, ok), [][]int{{0, 1, 2}, {0, 2, 4}, {2, 3, 4}}, true)
		checkApart(t, regions)
		sizes, ok := impl.RegionSizes(5, list)
		want(t, "sizes", all(sizes, ok), []int{3, 3, 3}, true)
		spoilNumbers(sizes)
		pairs, ok := impl.NextRegions(5, list)
		want(t, "next", all(pairs, ok), [][]int{{0, 1}, {1, 2}}, true)
		checkApart(t, pairs)
		ends, ok := impl.EndRegions(5, list)
		want(t, "ends", all(ends, ok), []int{0, 2}, true)
		spoilNumbers(ends)
		ears, ok := impl.EarsOf(5, list)
		want(t, "ears", all(ears, ok), []int{1, 3}, true)
		spoilNumbers(ears)
		want(t, "fan", all(impl.FanOf(5, 2)), chords(0, 2, 2, 4), true)
		spoil(impl.FanOf(5, 2))
		want(t, "flip", all(impl.FlipDiagonal(5, list, 1)), chords(0, 2, 0, 3), true)
		spoil(impl.FlipDiagonal(5, list, 1))
		if !slices.Equal(whole, before) {
			t.Error("a result shares memory with its list", whole)
		}
	}
}

func TestRegionListsAreApart(t *testing.T) {
	for _, list := range append(namedPlane(40), nil, plainFan(40, 0), zigzag(40)) {
		regions, _ := impl.PlaneRegions(40, list)
		told, _ := plainRegions(40, list)
		want(t, "regions", all(regions), told)
		checkApart(t, regions)
		pairs, _ := impl.NextRegions(40, list)
		checkApart(t, pairs)
	}
}

func TestSameRegionCallsAgree(t *testing.T) {
	for _, list := range [][]impl.Chord{nil, chords(0, 4, 1, 3), fan(40), plainFan(43, 0), zigzag(43), halves(12), arcChords(40)} {
		first := append(regionCalls(43, list, 3, 29), regionCalls(20, list, 0, 19)...)
		for range 20 {
			want(t, "again", append(regionCalls(43, list, 3, 29), regionCalls(20, list, 0, 19)...), first...)
		}
	}
}

// puzzleCalls returns the results of all calls of chapter 9 with a puzzle, a clue, a star and the same numbers that have one result beside the bool.
func puzzleCalls(p impl.Puzzle, c impl.Clue, s impl.Star, m int, n int) []any {
	calls := [][]any{
		all(impl.IsClue(c)), all(impl.IsPuzzle(p)), all(impl.DoesFit(c, s)), all(impl.Solutions(p)), all(impl.CountSolutions(p)), all(impl.FirstSolution(p)),
		all(impl.IsSolved(p)), all(impl.NeedlessClues(p)), all(impl.DropClue(p, m)), all(impl.AddClue(p, c)), all(impl.LeftByClues(p)), all(impl.BestClue(p)),
		all(impl.HarderPuzzle(p)), all(impl.MakePuzzle(s, m, n)), all(impl.PuzzleText(p)),
	}
	return slices.Concat(calls...)
}

func TestPuzzlesAcceptAllArguments(t *testing.T) {
	few := []int{math.MinInt, -1, 0, 1, 3, 5, 6, 7, 14, 15, 9999, 10000, math.MaxInt}
	five, line := impl.Star{Points: 5, Step: 2}, impl.Clue{Kind: 4, A: 0, B: 2}
	for _, kind := range few {
		for _, a := range few {
			for _, b := range few {
				c := impl.Clue{Kind: kind, A: a, B: b}
				for _, list := range [][]impl.Clue{{c}, {line, c}, {c, c, c, c, c, c}, slices.Repeat([]impl.Clue{c}, 7)} {
					checkZero(t, puzzleCalls(puzzleOf(list), c, five, a, b))
					checkLongZero(t, all(impl.SureStar(puzzleOf(list))))
				}
				checkZero(t, puzzleCalls(impl.Puzzle{}, c, impl.Star{Points: a, Step: b}, kind, a))
				checkZero(t, puzzleCalls(impl.Puzzle{Clues: []impl.Clue{}}, line, impl.Star{Points: kind, Step: a}, b, kind))
			}
		}
	}
	for _, p := range append(noPuzzles(), puzzleOf(make([]impl.Clue, 1<<20)), puzzleOf(slices.Repeat([]impl.Clue{line}, 1<<20))) {
		checkZero(t, puzzleCalls(p, line, five, 0, 0))
		checkLongZero(t, all(impl.SureStar(p)))
	}
}

func TestPuzzleTextsAcceptAllBytes(t *testing.T) {
	const text = "0.5.0,4.0.2"
	for b := range 256 {
		for i := range len(text) + 1 {
			for _, told := range []string{text[:i] + string([]byte{byte(b)}) + text[i:], text[:max(i-1, 0)] + string([]byte{byte(b)}) + text[i:]} {
				p, ok := impl.ParsePuzzle(told)
				if back, fine := impl.PuzzleText(p); ok && (!fine || back != told) || !ok && len(p.Clues) != 0 {
					t.Errorf("%q is %v, %v", told, p, ok)
				}
			}
		}
	}
}

// puzzleWithRoom returns a puzzle with spare capacity behind its clues that holds clues, and all of them.
func puzzleWithRoom(list []impl.Clue) (impl.Puzzle, []impl.Clue) {
	whole := append(slices.Clone(list), clues(0, 6, 0, 9, 9, 9, 1, 1, 0, 4, 2, 4)...)
	return puzzleOf(whole[:len(list)]), whole
}

func TestPuzzleArgumentsStay(t *testing.T) {
	lists := append(namedPuzzles(), clues(0, 2, 0), clues(0, 5, 0, 6, 1, 0), slices.Repeat(clues(0, 5, 0), 7), slices.Repeat(clues(1, 7, 0), 5))
	for _, told := range lists {
		p, whole := puzzleWithRoom(told)
		before := slices.Clone(whole)
		for n := -1; n <= 7; n++ {
			for _, c := range clues(4, 0, 2, 0, 2, 0) {
				s := impl.Star{Points: 5, Step: 2}
				want(t, "with room", puzzleCalls(p, c, s, n, 1), puzzleCalls(puzzleOf(slices.Clone(told)), c, s, n, 1)...)
			}
		}
		want(t, "sure with room", all(impl.SureStar(p)), all(impl.SureStar(puzzleOf(told)))...)
		if !slices.Equal(whole, before) {
			t.Error("a call changes its puzzle", before, whole)
		}
	}
}

// spoilClues changes each clue of a puzzle and of its spare capacity.
func spoilClues(p impl.Puzzle, ok bool) {
	list := p.Clues[:cap(p.Clues)]
	for i := range list {
		list[i] = impl.Clue{Kind: -1, A: -1, B: -1}
	}
}

func TestPuzzleResultsAreNew(t *testing.T) {
	for _, list := range append(namedPuzzles(), clues(0, 5, 0), slices.Repeat(clues(1, 7, 0), 5), clues(1, 7, 0)) {
		p, whole := puzzleWithRoom(list)
		before := slices.Clone(whole)
		// Each result is spoilt: the puzzle and its spare capacity must not show that.
		for k := range list {
			spoilClues(impl.DropClue(p, k))
		}
		spoilClues(impl.AddClue(p, impl.Clue{Kind: 0, A: 7}))
		spoilClues(impl.HarderPuzzle(p))
		if !slices.Equal(whole, before) {
			t.Error("a result shares memory with its puzzle", before, whole)
		}
	}
	p, _ := puzzleWithRoom(clues(0, 5, 0))
	first, _ := impl.AddClue(p, impl.Clue{Kind: 0, A: 7})
	other, _ := impl.AddClue(p, impl.Clue{Kind: 0, A: 8})
	want(t, "added to one puzzle", all(first.Clues, other.Clues), clues(0, 5, 0, 0, 7, 0), clues(0, 5, 0, 0, 8, 0))
	// A second call must not see that the results of the first one are spoilt.
	for range 2 {
		stars, ok := impl.Solutions(puzzle(0, 3, 0))
		want(t, "solutions", all(stars, ok), []impl.Star{{Points: 3, Step: 1}, {Points: 3, Step: 2}}, true)
		stars[0], stars[1] = impl.Star{}, impl.Star{}
		needless, ok := impl.NeedlessClues(puzzle(0, 5, 0, 0, 5, 0))
		want(t, "needless", all(needless, ok), []int{0, 1}, true)
		spoilNumbers(needless)
		left, ok := impl.LeftByClues(puzzle(0, 5, 0, 4, 0, 2))
		want(t, "left", all(left, ok), []int{90, 4, 1}, true)
		spoilNumbers(left)
		made := impl.Star{Points: 3, Step: 1}
		want(t, "made", inPuzzle(impl.MakePuzzle(made, 2, 1)), clues(2, 1, 0, 4, 1, 2), true)
		spoilClues(impl.MakePuzzle(made, 2, 1))
		want(t, "parse", inPuzzle(impl.ParsePuzzle("0.5.0,4.0.2")), clues(0, 5, 0, 4, 0, 2), true)
		spoilClues(impl.ParsePuzzle("0.5.0,4.0.2"))
	}
}

func TestSamePuzzleCallsAgree(t *testing.T) {
	for _, list := range namedPuzzles() {
		p, c, s := puzzleOf(list), impl.Clue{Kind: 4, A: 0, B: 2}, impl.Star{Points: 14, Step: 6}
		first := append(puzzleCalls(p, c, s, 3, 77), all(impl.SureStar(p))...)
		for range 10 {
			want(t, "again", append(puzzleCalls(p, c, s, 3, 77), all(impl.SureStar(p))...), first...)
		}
	}
}

// scriptCalls returns the results of all calls of chapter 10 with a text that is a script, or none.
func scriptCalls(s string) []any {
	return slices.Concat(all(impl.RunScript(s)), all(impl.DeskAfter(s)), all(impl.FailedLines(s)))
}

func TestConsoleAcceptsAllArguments(t *testing.T) {
	lines := append(notLines(), someLines()...)
	lines = append(lines, "\n", "show\n", strings.Repeat("x", 3001), strings.Repeat("\n", 100000), strings.Repeat("word ", 1<<18), "word "+strings.Repeat("F", 1<<20), "step "+strings.Repeat("9", 1<<20))
	for _, d := range append(noDesks(), desk(5, 2, 4, "FL"), desk(60, 30, 6, ""), desk(5, 2, 4, strings.Repeat("x", 1<<20)), desk(5, 2, 6, strings.Repeat("F", 1<<20))) {
		for _, line := range lines {
			checkLongZero(t, all(impl.DeskLine(d, line)))
		}
	}
	for _, line := range lines {
		for _, s := range []string{line, line + "\n", "show\n" + line, "show\n" + line + "\n", strings.Repeat(line+"\n", 50), strings.Repeat(line+"\n", 51)} {
			checkZero(t, scriptCalls(s))
		}
	}
	for _, points := range deskNumbers {
		for _, step := range deskNumbers {
			for _, grid := range deskNumbers {
				d := desk(points, step, grid, "FLFL")
				for _, line := range []string{"tell", "step 3", "times 2", "to 0 1", "strings"} {
					after, reply, ok := impl.DeskLine(d, line)
					checkLongZero(t, all(after, reply, ok))
					want(t, "desk", all(impl.IsDesk(d)), ok)
				}
			}
		}
	}
}

func TestLinesAcceptAllBytes(t *testing.T) {
	for _, line := range []string{"show", "star {5/2}", "step 3", "word FLR", "to 0 1", "draw abab", "loop 2 1"} {
		for b := range 256 {
			for i := range len(line) + 1 {
				for _, told := range []string{line[:i] + string([]byte{byte(b)}) + line[i:], line[:max(i-1, 0)] + string([]byte{byte(b)}) + line[i:]} {
					if b != '\n' {
						checkLine(t, impl.FirstDesk(), told)
						checkScript(t, []string{told, "tell"})
						continue
					}
					want(t, "a newline", all(impl.DeskLine(impl.FirstDesk(), told)), impl.Desk{}, "", false)
					checkNoScript(t, told+"show")
					checkScript(t, strings.Split(told, "\n"))
				}
			}
		}
	}
}

func TestNewDesks(t *testing.T) {
	for _, w := range []string{"FL", "FFLL", "FFRRF", strings.Repeat("FL", 60)} {
		line, script := "word "+w, "word "+w+"\ntell\n"
		for _, asked := range []string{"show", "tell", "fly", "step 0", "step 1", "grid 6", "grid 5", "times 1", "times 0", "shift 0", "short", "end", line} {
			after, reply, ok := impl.DeskLine(desk(5, 2, 4, w), asked)
			want(t, "the same word", all(after.Word, ok), w, true)
			for _, told := range []string{after.Word, reply} {
				if shareText(told, w) || shareText(told, line[5:]) {
					t.Error("a result shares memory with a desk or a line", asked, w)
				}
			}
			if shareText(after.Word, reply) {
				t.Error("a desk and a reply share memory", asked, w)
			}
		}
		d, isDesk := impl.DeskAfter(script)
		replies, areReplies := impl.RunScript(script)
		want(t, "words", all(d.Word, isDesk, replies, areReplies), w, true, []string{w, w}, true)
		for _, told := range append(replies, d.Word) {
			if shareText(told, script[5:]) {
				t.Error("a result shares memory with its script", w)
			}
		}
		if shareText(replies[0], replies[1]) {
			t.Error("replies share memory", w)
		}
	}
}

func TestConsoleResultsAreNew(t *testing.T) {
	const script = "strings\nfly\nstep 3\nstep 5\nfirst abba\n"
	// Each result is spoilt after it was checked: a second call must not see that.
	for range 2 {
		replies, ok := impl.RunScript(script)
		want(t, "replies", all(replies, ok), []string{"0,2,4,1,3", "what", "{5/3}", "no", "aabb"}, true)
		for i := range replies {
			replies[i] = "x"
		}
		failed, ok := impl.FailedLines(script)
		want(t, "failed", all(failed, ok), []int{2, 4}, true)
		spoilNumbers(failed)
		d, ok := impl.DeskAfter("")
		want(t, "desk", all(d, ok), impl.FirstDesk(), true)
		d.Star.Step, d.Grid, d.Word = 4, 6, ""
		want(t, "first", all(impl.FirstDesk()), desk(5, 2, 4, "FL"))
	}
}

func TestConsoleArgumentsStay(t *testing.T) {
	texts := append(someLines(), "", "show\n", "word FLLRF\nmirror\ntell\n", "show\nfly\nstep 0\n", "show\ntell", "word "+strings.Repeat("F", 120), strings.Repeat("\n", 50), strings.Repeat("\n", 51))
	for _, s := range texts {
		for _, w := range []string{"", "FL", "FLx", strings.Repeat("F", 121)} {
			// The test keeps the memory of these texts itself, so that it sees what a call writes into them or behind them.
			memory := []byte(s + "\nshow\n" + w + "FLR")
			text := unsafe.String(unsafe.SliceData(memory), len(s))
			word := unsafe.String(&memory[len(s)+6], len(w))
			want(t, "with room", scriptCalls(text), scriptCalls(s)...)
			want(t, "with room", all(impl.DeskLine(desk(5, 2, 4, word), text)), all(impl.DeskLine(desk(5, 2, 4, w), s))...)
			if string(memory) != s+"\nshow\n"+w+"FLR" {
				t.Error("a call changes a text", shortened(s), shortened(w))
			}
		}
	}
}

func TestScriptsLeaveNoSenders(t *testing.T) {
	before := runtime.NumGoroutine()
	for range 100 {
		for _, line := range []string{"word FLFL", "word FLxFL", "word " + strings.Repeat("F", 121), "times 60", "times 61", "shift 1", "shift 2", "points", "close", "short", "fly"} {
			want(t, "line", all(impl.IsDesk(desk(5, 2, 4, "FLx"))), false)
			checkZero(t, scriptCalls(line+"\n"))
		}
	}
	wantNoneLeftOver(t, before)
}

func TestSameConsoleCallsAgree(t *testing.T) {
	script := strings.Join(someLines()[:50], "\n") + "\n"
	first := scriptCalls(script)
	for range 50 {
		want(t, "again", scriptCalls(script), first...)
	}
	for _, d := range someDesks() {
		for _, line := range someLines() {
			told := all(impl.DeskLine(d, line))
			for range 5 {
				want(t, "again", all(impl.DeskLine(d, line)), told...)
			}
		}
	}
}
