package tests

import (
	"math"
	"slices"
	"strconv"
	"strings"
	"testing"

	"loop.example/g01324/impl"
)

// noChordList is what a failed call returns in place of chords.
var noChordList []impl.Chord

// chords makes a list from A and B of each chord in turn.
func chords(numbers ...int) []impl.Chord {
	var list []impl.Chord
	for i := 0; i < len(numbers); i += 2 {
		list = append(list, impl.Chord{A: numbers[i], B: numbers[i+1]})
	}
	return list
}

// subset returns the chords of a list whose bits are set.
func subset(list []impl.Chord, mask int) []impl.Chord {
	var part []impl.Chord
	for i, c := range list {
		if mask>>i&1 == 1 {
			part = append(part, c)
		}
	}
	return part
}

// someSets returns sets of so many points, which may be all there are or just some of each size.
func someSets(points int) [][]impl.Chord {
	every := allChords(points)
	var sets [][]impl.Chord
	if points <= 5 {
		for mask := range 1 << len(every) {
			sets = append(sets, subset(every, mask))
		}
		return sets
	}
	z := uint32(points)
	for size := 0; size <= min(40, len(every)); size++ {
		for range 6 {
			left := slices.Clone(every)
			for len(left) > size {
				z = z*1664525 + 1013904223
				k := int(z>>8) % len(left)
				left = slices.Delete(left, k, k+1)
			}
			sets = append(sets, left)
		}
	}
	return sets
}

// eachSet calls a check with many sets of few and of many points.
func eachSet(check func(points int, list []impl.Chord)) {
	for _, points := range []int{3, 4, 5, 6, 7, 8, 11, 20, 59, 60} {
		for _, list := range someSets(points) {
			check(points, list)
		}
	}
}

// plainPairs finds the pairs that cross by going around.
func plainPairs(points int, list []impl.Chord) [][]int {
	var pairs [][]int
	for i := range list {
		for j := i + 1; j < len(list); j++ {
			if plainCross(points, list[i], list[j]) {
				pairs = append(pairs, []int{i, j})
			}
		}
	}
	return pairs
}

// halves returns the first chords of 60 points that are 30 points long, which all cross each other.
func halves(count int) []impl.Chord {
	var list []impl.Chord
	for a := range count {
		list = append(list, impl.Chord{A: a, B: a + 30})
	}
	return list
}

// fan returns chords of the point 0 of so many others, none of which cross.
func fan(count int) []impl.Chord {
	var list []impl.Chord
	for b := 1; b <= count; b++ {
		list = append(list, impl.Chord{A: 0, B: b})
	}
	return list
}

func TestChordsExample(t *testing.T) {
	list := chords(0, 2, 1, 3, 2, 5)
	want(t, "parse", all(impl.ParseChords("0-2,1-3,2-5")), list, true)
	want(t, "text", all(impl.ChordsText(list)), "0-2,1-3,2-5", true)
	want(t, "pairs", all(impl.CrossingPairs(6, list)), [][]int{{0, 1}, {1, 2}}, true)
	want(t, "count", all(impl.CountPairsCrossing(6, list)), 2, true)
	want(t, "most crossed", all(impl.MostCrossed(6, list)), 1, true)
	want(t, "plane", all(impl.IsPlane(6, list)), false, true)
	want(t, "groups", all(impl.CrossingGroups(6, list)), [][]int{{0, 1, 2}}, true)
	want(t, "sides", all(impl.SidesOfChords(6, list)), "ioi", true)
	want(t, "drops", all(impl.FewestDrops(6, list)), []int{1}, true)
	for k, told := range []int{5, 6, 3, 1, 0} {
		want(t, "pairings", all(impl.CountPairings(6, k)), told, true)
	}
	want(t, "rank 0", all(impl.PlanePairingOfRank(4, 0)), chords(0, 1, 2, 3), true)
	want(t, "rank 1", all(impl.PlanePairingOfRank(4, 1)), chords(0, 3, 1, 2), true)
}

func TestNoChords(t *testing.T) {
	for _, list := range [][]impl.Chord{nil, {}} {
		for points := 3; points <= 60; points++ {
			want(t, "are chords", all(impl.AreChords(points, list)), true)
			want(t, "pairs", all(impl.CrossingPairs(points, list)), [][]int(nil), true)
			want(t, "count", all(impl.CountPairsCrossing(points, list)), 0, true)
			want(t, "most crossed", all(impl.MostCrossed(points, list)), 0, false)
			want(t, "plane", all(impl.IsPlane(points, list)), true, true)
			want(t, "groups", all(impl.CrossingGroups(points, list)), [][]int(nil), true)
			want(t, "sides", all(impl.SidesOfChords(points, list)), "", true)
			want(t, "drops", all(impl.FewestDrops(points, list)), []int(nil), true)
			want(t, "lengths", all(impl.ChordLengths(points, list)), []int(nil), true)
			want(t, "turn", all(impl.TurnChords(points, list, points-1)), noChordList, true)
			want(t, "mirror", all(impl.MirrorChords(points, list)), noChordList, true)
			want(t, "add", all(impl.AddChord(points, list, impl.Chord{A: 0, B: 1})), chords(0, 1), true)
			want(t, "drop", all(impl.DropChord(points, list, 0)), noChordList, false)
			want(t, "pairing", all(impl.IsPairing(points, list)), false, true)
			want(t, "rank", all(impl.RankOfPlanePairing(points, list)), 0, false)
		}
		want(t, "text", all(impl.ChordsText(list)), "", true)
	}
	want(t, "parse", all(impl.ParseChords("")), noChordList, true)
}

func TestAreChords(t *testing.T) {
	for _, points := range edgeNumbers {
		fits := points >= 3 && points <= 60
		want(t, "none", all(impl.AreChords(points, nil)), fits)
		want(t, "one", all(impl.AreChords(points, chords(0, 1))), fits)
		want(t, "last", all(impl.AreChords(points, chords(58, 59))), points == 60)
		want(t, "many", all(impl.AreChords(points, allChords(60)[:41])), false)
	}
	for _, points := range []int{3, 4, 59, 60} {
		for _, c := range noChords(points) {
			want(t, "no chord", all(impl.AreChords(points, []impl.Chord{c})), false)
			want(t, "no chord behind", all(impl.AreChords(points, []impl.Chord{{A: 0, B: 1}, c})), false)
			want(t, "no chord before", all(impl.AreChords(points, []impl.Chord{c, {A: 1, B: 2}})), false)
		}
	}
	want(t, "most", all(impl.AreChords(60, allChords(60)[:40])), true)
	want(t, "most of 60", all(impl.AreChords(60, allChords(60)[60*59/2-40:])), true)
	want(t, "one too many", all(impl.AreChords(60, allChords(60)[:41])), false)
	want(t, "all of 9", all(impl.AreChords(9, allChords(9))), true)
	want(t, "all of 10", all(impl.AreChords(10, allChords(10))), false)
	for _, list := range noSets() {
		want(t, "no set", all(impl.AreChords(6, list)), false)
	}
}

// noSets returns lists that are no sets of 6 points.
func noSets() [][]impl.Chord {
	return [][]impl.Chord{
		chords(0, 1, 0, 1), chords(0, 2, 0, 1), chords(1, 2, 0, 3), chords(0, 1, 2, 3, 1, 4), chords(0, 1, 1, 2, 1, 2), chords(0, 6), chords(5, 6), chords(0, 1, 4, 60),
		chords(0, 0), chords(1, 0), chords(-1, 3), chords(-2, -1), chords(3, 5, 5, 4), chords(0, math.MaxInt), chords(math.MinInt, 0), chords(math.MinInt, math.MaxInt),
		chords(math.MaxInt, math.MinInt), slices.Repeat(chords(0, 1), 41), slices.Concat(halves(30), halves(30)),
	}
}

func TestPairsAreThoseThatCross(t *testing.T) {
	eachSet(func(points int, list []impl.Chord) {
		pairs := plainPairs(points, list)
		want(t, "are chords", all(impl.AreChords(points, list)), true)
		want(t, "pairs", all(impl.CrossingPairs(points, list)), pairs, true)
		want(t, "count", all(impl.CountPairsCrossing(points, list)), len(pairs), true)
		want(t, "plane", all(impl.IsPlane(points, list)), len(pairs) == 0, true)
		for _, pair := range pairs {
			want(t, "cross", all(impl.AreCrossing(points, list[pair[0]], list[pair[1]])), true, true)
		}
		times := make([]int, len(list))
		for _, pair := range pairs {
			times[pair[0]]++
			times[pair[1]]++
		}
		if len(list) > 0 {
			want(t, "most crossed", all(impl.MostCrossed(points, list)), slices.Index(times, slices.Max(times)), true)
		}
	})
	want(t, "most pairs", all(impl.CountPairsCrossing(60, halves(30))), 30*29/2, true)
	want(t, "none is crossed", all(impl.MostCrossed(60, fan(40))), 0, true)
	want(t, "first of several", all(impl.MostCrossed(60, append(fan(5), chords(10, 20, 15, 25)...))), 5, true)
}

// plainGroups gives each chord a name, and the lesser name to both of two that cross until nothing changes.
func plainGroups(count int, pairs [][]int) [][]int {
	names := upTo(count)
	for range count {
		for _, pair := range pairs {
			names[pair[0]] = min(names[pair[0]], names[pair[1]])
			names[pair[1]] = names[pair[0]]
		}
	}
	var groups [][]int
	for name := 1; name <= count; name++ {
		var group []int
		for i := range names {
			if names[i] == name {
				group = append(group, i)
			}
		}
		if len(group) > 0 {
			groups = append(groups, group)
		}
	}
	return groups
}

// plainSides tries all sides of a few chords by which the first one of each group is inside.
func plainSides(count int, pairs [][]int) (string, bool) {
	groups := plainGroups(count, pairs)
	for mask := range 1 << count {
		side := func(k int) byte { return "io"[mask>>k&1] }
		fine := !slices.ContainsFunc(groups, func(group []int) bool { return side(group[0]) == 'o' })
		fine = fine && !slices.ContainsFunc(pairs, func(pair []int) bool { return side(pair[0]) == side(pair[1]) })
		if !fine {
			continue
		}
		told := make([]byte, count)
		for k := range told {
			told[k] = side(k)
		}
		return string(told), true
	}
	return "", false
}

func TestGroupsAndSides(t *testing.T) {
	eachSet(func(points int, list []impl.Chord) {
		pairs := plainPairs(points, list)
		want(t, "groups", all(impl.CrossingGroups(points, list)), plainGroups(len(list), pairs), true)
		if len(list) > 12 {
			return
		}
		told, can := plainSides(len(list), pairs)
		want(t, "sides", all(impl.SidesOfChords(points, list)), told, can)
	})
	want(t, "two groups", all(impl.CrossingGroups(8, chords(0, 2, 1, 7, 3, 5, 4, 6))), [][]int{{0, 1}, {2, 3}}, true)
	want(t, "group within", all(impl.CrossingGroups(8, chords(0, 6, 1, 4, 2, 5, 3, 7))), [][]int{{0, 1, 2, 3}}, true)
	want(t, "alone", all(impl.CrossingGroups(60, fan(3))), [][]int{{0}, {1}, {2}}, true)
	want(t, "inside", all(impl.SidesOfChords(60, fan(40))), strings.Repeat("i", 40), true)
	want(t, "both sides", all(impl.SidesOfChords(8, chords(0, 2, 1, 7, 3, 5, 4, 6))), "ioio", true)
	want(t, "three that cross", all(impl.SidesOfChords(6, chords(0, 3, 1, 4, 2, 5))), "", false)
	want(t, "a star of five", all(impl.SidesOfChords(5, chords(0, 2, 0, 3, 1, 3, 1, 4, 2, 4))), "", false)
	want(t, "a long row", all(impl.SidesOfChords(60, rowOfChords(40))), strings.Repeat("io", 20), true)
	want(t, "one group", all(impl.CrossingGroups(60, rowOfChords(40))), [][]int{append([]int{0}, upTo(39)...)}, true)
}

// rowOfChords returns so many chords, each of which crosses just the one before and the one behind it.
func rowOfChords(count int) []impl.Chord {
	list := chords(0, 2)
	for len(list) < count {
		a := len(list)
		list = append(list, impl.Chord{A: a, B: a + 2})
	}
	return list
}

// plainDrops tries lists of more and more chords in their order.
func plainDrops(count int, pairs [][]int) []int {
	var best []int
	found := false
	for mask := range 1 << count {
		var drops []int
		for k := range count {
			if mask>>k&1 == 1 {
				drops = append(drops, k)
			}
		}
		leaves := slices.ContainsFunc(pairs, func(pair []int) bool {
			return !slices.Contains(drops, pair[0]) && !slices.Contains(drops, pair[1])
		})
		if !leaves && (!found || len(drops) < len(best) || len(drops) == len(best) && slices.Compare(drops, best) < 0) {
			best, found = drops, true
		}
	}
	return best
}

func TestFewestDrops(t *testing.T) {
	eachSet(func(points int, list []impl.Chord) {
		if len(list) > 12 {
			want(t, "too many", all(impl.FewestDrops(points, list)), []int(nil), false)
			return
		}
		want(t, "drops", all(impl.FewestDrops(points, list)), plainDrops(len(list), plainPairs(points, list)), true)
	})
	want(t, "most", all(impl.FewestDrops(60, halves(12))), append([]int{0}, upTo(10)...), true)
	want(t, "plane", all(impl.FewestDrops(60, fan(12))), []int(nil), true)
	want(t, "plane, too many", all(impl.FewestDrops(60, fan(13))), []int(nil), false)
	want(t, "first of two", all(impl.FewestDrops(4, chords(0, 2, 1, 3))), []int{0}, true)
	want(t, "fewer before first", all(impl.FewestDrops(8, chords(0, 4, 2, 7, 3, 6, 5, 7))), plainDrops(4, plainPairs(8, chords(0, 4, 2, 7, 3, 6, 5, 7))), true)
}

// retold returns a set with points told anew, in order.
func retold(list []impl.Chord, told func(p int) int) []impl.Chord {
	var set []impl.Chord
	for _, c := range list {
		a, b := told(c.A), told(c.B)
		set = append(set, impl.Chord{A: min(a, b), B: max(a, b)})
	}
	slices.SortFunc(set, func(c, d impl.Chord) int { return 100*(c.A-d.A) + c.B - d.B })
	return set
}

func TestTurnedAndMirrored(t *testing.T) {
	eachSet(func(points int, list []impl.Chord) {
		for by := 0; by < points; by += max(1, points/7) {
			turned := retold(list, func(p int) int { return (p + by) % points })
			want(t, "turn", all(impl.TurnChords(points, list, by)), turned, true)
			want(t, "turn back", all(impl.TurnChords(points, turned, (points-by)%points)), append(noChordList, list...), true)
			want(t, "turned pairs", all(impl.CountPairsCrossing(points, turned)), len(plainPairs(points, list)), true)
		}
		mirrored := retold(list, func(p int) int { return (points - p) % points })
		want(t, "mirror", all(impl.MirrorChords(points, list)), mirrored, true)
		want(t, "mirror back", all(impl.MirrorChords(points, mirrored)), append(noChordList, list...), true)
		for _, by := range []int{math.MinInt, -1, points, points + 1, math.MaxInt} {
			want(t, "turn by", all(impl.TurnChords(points, list, by)), noChordList, false)
		}
	})
	want(t, "by 0", all(impl.TurnChords(6, chords(0, 2, 1, 3), 0)), chords(0, 2, 1, 3), true)
	want(t, "by 5", all(impl.TurnChords(6, chords(0, 2, 1, 3), 5)), chords(0, 2, 1, 5), true)
	want(t, "mirrored", all(impl.MirrorChords(6, chords(0, 2, 1, 3))), chords(0, 4, 3, 5), true)
}

func TestChordLengths(t *testing.T) {
	for points := 3; points <= 60; points++ {
		for _, c := range allChords(points) {
			steps := 1
			for (c.A+steps)%points != c.B && (c.B+steps)%points != c.A {
				steps++
			}
			want(t, "length", all(impl.ChordLengths(points, []impl.Chord{c})), []int{steps}, true)
		}
	}
	want(t, "lengths", all(impl.ChordLengths(6, chords(0, 1, 0, 3, 0, 5, 1, 5, 2, 4))), []int{1, 3, 1, 2, 2}, true)
}

func TestAddedAndDropped(t *testing.T) {
	eachSet(func(points int, list []impl.Chord) {
		for k, c := range list {
			less := append(slices.Clone(list[:k]), list[k+1:]...)
			want(t, "drop", all(impl.DropChord(points, list, k)), less, true)
			want(t, "add", all(impl.AddChord(points, less, c)), list, true)
			want(t, "add again", all(impl.AddChord(points, list, c)), noChordList, false)
		}
		for _, k := range []int{math.MinInt, -1, len(list), len(list) + 1, math.MaxInt} {
			want(t, "drop none", all(impl.DropChord(points, list, k)), noChordList, false)
		}
		for _, c := range noChords(points) {
			want(t, "add none", all(impl.AddChord(points, list, c)), noChordList, false)
		}
	})
	want(t, "full", all(impl.AddChord(60, fan(40), impl.Chord{A: 5, B: 6})), noChordList, false)
	want(t, "nearly full", all(impl.AddChord(60, fan(39), impl.Chord{A: 5, B: 6})), append(fan(39), impl.Chord{A: 5, B: 6}), true)
	want(t, "turned round", all(impl.AddChord(6, chords(0, 1), impl.Chord{A: 3, B: 2})), noChordList, false)
}

// allPairings returns all pairings of so many points in their order.
func allPairings(points int) [][]impl.Chord {
	var found [][]impl.Chord
	var join func(made []impl.Chord, free []int)
	join = func(made []impl.Chord, free []int) {
		if len(free) == 0 {
			found = append(found, slices.Clone(made))
			return
		}
		for k := 1; k < len(free); k++ {
			rest := append(slices.Clone(free[1:k]), free[k+1:]...)
			join(append(slices.Clone(made), impl.Chord{A: free[0], B: free[k]}), rest)
		}
	}
	join(nil, append([]int{0}, upTo(points-1)...))
	return found
}

// partners returns the points to which 0, 1, .. are joined.
func partners(points int, list []impl.Chord) []int {
	joined := make([]int, points)
	for _, c := range list {
		joined[c.A], joined[c.B] = c.B, c.A
	}
	return joined
}

func TestPairings(t *testing.T) {
	for points := 4; points <= 12; points += 2 {
		counts := make([]int, 101)
		rank := 0
		var before []int
		for _, list := range allPairings(points) {
			want(t, "pairing", all(impl.IsPairing(points, list)), true, true)
			crossings := len(plainPairs(points, list))
			counts[crossings]++
			if crossings > 0 {
				want(t, "not plane", all(impl.RankOfPlanePairing(points, list)), 0, false)
				continue
			}
			want(t, "rank", all(impl.RankOfPlanePairing(points, list)), rank, true)
			want(t, "of rank", all(impl.PlanePairingOfRank(points, rank)), list, true)
			if joined := partners(points, list); slices.Compare(before, joined) >= 0 {
				t.Error("order", before, joined)
			} else {
				before = joined
			}
			rank++
		}
		for crossings, told := range counts {
			want(t, "count", all(impl.CountPairings(points, crossings)), told, true)
		}
		want(t, "plane ones", all(impl.CountPlanePairings(points)), counts[0], true)
		want(t, "no more ranks", all(impl.PlanePairingOfRank(points, rank)), noChordList, false)
	}
}

func TestIsPairing(t *testing.T) {
	eachSet(func(points int, list []impl.Chord) {
		times := make([]int, points)
		for _, c := range list {
			times[c.A]++
			times[c.B]++
		}
		once := slices.Max(times) == 1 && slices.Min(times) == 1
		want(t, "pairing", all(impl.IsPairing(points, list)), once, true)
	})
	want(t, "of 60", all(impl.IsPairing(60, halves(30))), true, true)
	want(t, "one left out", all(impl.IsPairing(60, halves(29))), false, true)
	want(t, "one too much", all(impl.IsPairing(60, append(halves(30), impl.Chord{A: 58, B: 59}))), false, true)
	want(t, "one twice", all(impl.IsPairing(4, chords(0, 1, 1, 2))), false, true)
	want(t, "all, one twice", all(impl.IsPairing(4, chords(0, 1, 0, 2, 0, 3))), false, true)
	want(t, "odd", all(impl.IsPairing(5, chords(0, 1, 2, 3))), false, true)
	want(t, "odd, all met", all(impl.IsPairing(5, chords(0, 1, 2, 3, 3, 4))), false, true)
	want(t, "nothing to rank", all(impl.RankOfPlanePairing(5, chords(0, 1, 2, 3))), 0, false)
}

func TestCountPairings(t *testing.T) {
	want(t, "of 4", all(impl.CountPairings(4, 0)), 2, true)
	want(t, "of 4", all(impl.CountPairings(4, 1)), 1, true)
	want(t, "of 12", all(impl.CountPairings(12, 0)), 132, true)
	want(t, "all cross", all(impl.CountPairings(12, 15)), 1, true)
	want(t, "too many crossings", all(impl.CountPairings(12, 16)), 0, true)
	want(t, "most asked", all(impl.CountPairings(12, 100)), 0, true)
	sum := 0
	for k := range 16 {
		n, _ := impl.CountPairings(12, k)
		sum += n
	}
	want(t, "all of 12", all(sum), 11*9*7*5*3)
	for _, n := range edgeNumbers {
		if n < 4 || n > 12 || n%2 != 0 {
			want(t, "points", all(impl.CountPairings(n, 0)), 0, false)
		}
	}
	for _, points := range []int{2, 3, 5, 7, 9, 11, 13, 14} {
		want(t, "points", all(impl.CountPairings(points, 0)), 0, false)
	}
	for _, k := range []int{math.MinInt, -1, 101, 102, math.MaxInt} {
		want(t, "crossings", all(impl.CountPairings(4, k)), 0, false)
	}
}

func TestPlanePairingCounts(t *testing.T) {
	told := []int{1, 1, 2, 5, 14, 42, 132, 429, 1430, 4862, 16796, 58786, 208012, 742900, 2674440, 9694845}
	for _, points := range append(upTo(65), edgeNumbers...) {
		if points < 4 || points > 30 || points%2 != 0 {
			want(t, "no count", all(impl.CountPlanePairings(points)), 0, false)
			want(t, "no pairing", all(impl.PlanePairingOfRank(points, 0)), noChordList, false)
			continue
		}
		want(t, "count", all(impl.CountPlanePairings(points)), told[points/2], true)
		checkRanks(t, points, told[points/2])
	}
}

// checkRanks checks ranks of so many points here and there, and those that there are not.
func checkRanks(t *testing.T, points int, count int) {
	t.Helper()
	for _, rank := range []int{math.MinInt, -count, -1, count, count + 1, math.MaxInt} {
		want(t, "no rank", all(impl.PlanePairingOfRank(points, rank)), noChordList, false)
	}
	for start := 0; start < count; start += max(1, count/97) {
		var before []int
		for rank := start; rank < min(count, start+4); rank++ {
			list, ok := impl.PlanePairingOfRank(points, rank)
			want(t, "back", all(impl.RankOfPlanePairing(points, list)), rank, ok)
			want(t, "pairing", all(impl.IsPairing(points, list)), true, true)
			want(t, "plane", all(impl.IsPlane(points, list)), true, true)
			joined := partners(points, list)
			if slices.Compare(before, joined) >= 0 {
				t.Error("order", rank, before, joined)
			}
			before = joined
		}
	}
	first, last := noChordList, noChordList
	for a := range points / 2 {
		first = append(first, impl.Chord{A: 2 * a, B: 2*a + 1})
		last = append(last, impl.Chord{A: a, B: points - 1 - a})
	}
	want(t, "first", all(impl.PlanePairingOfRank(points, 0)), first, true)
	want(t, "last", all(impl.PlanePairingOfRank(points, count-1)), last, true)
	want(t, "rank of last", all(impl.RankOfPlanePairing(points, last)), count-1, true)
}

func TestRankOfOtherSets(t *testing.T) {
	eachSet(func(points int, list []impl.Chord) {
		pairing, _ := impl.IsPairing(points, list)
		if _, ok := impl.RankOfPlanePairing(points, list); ok != (pairing && points <= 30 && len(plainPairs(points, list)) == 0) {
			t.Error("rank of", points, list)
		}
	})
	var wide []impl.Chord
	for a := range 16 {
		wide = append(wide, impl.Chord{A: 2 * a, B: 2*a + 1})
	}
	want(t, "most points", all(impl.RankOfPlanePairing(30, wide[:15])), 0, true)
	want(t, "too many points", all(impl.RankOfPlanePairing(32, wide)), 0, false)
	want(t, "one left out", all(impl.RankOfPlanePairing(6, chords(0, 1, 2, 3))), 0, false)
	want(t, "crossing", all(impl.RankOfPlanePairing(4, chords(0, 2, 1, 3))), 0, false)
}

func TestChordsTexts(t *testing.T) {
	eachSet(func(points int, list []impl.Chord) {
		var parts []string
		for _, c := range list {
			parts = append(parts, strconv.Itoa(c.A)+"-"+strconv.Itoa(c.B))
		}
		told := strings.Join(parts, ",")
		want(t, "text", all(impl.ChordsText(list)), told, true)
		want(t, "parse", all(impl.ParseChords(told)), append(noChordList, list...), true)
	})
	want(t, "last", all(impl.ParseChords("58-59")), chords(58, 59), true)
	for _, list := range append(noSets(), chords(0, 60), chords(59, 60), allChords(60)[:41]) {
		_, ok := impl.ChordsText(list)
		want(t, "text of a set of 60", all(ok), impl.AreChords(60, list))
	}
	want(t, "no text", all(impl.ChordsText(chords(0, 60))), "", false)
	want(t, "no order", all(impl.ChordsText(chords(0, 2, 0, 1))), "", false)
	want(t, "told twice", all(impl.ChordsText(chords(0, 1, 0, 1))), "", false)
	want(t, "no chord", all(impl.ChordsText(chords(1, 0))), "", false)
	want(t, "too many", all(impl.ChordsText(allChords(60)[:41])), "", false)
	for _, s := range noChordsTexts() {
		want(t, "parse "+strconv.Quote(s), all(impl.ParseChords(s)), noChordList, false)
	}
}

// noChordsTexts returns texts of no chords.
func noChordsTexts() []string {
	var many []string
	for _, c := range allChords(60)[:41] {
		many = append(many, strconv.Itoa(c.A)+"-"+strconv.Itoa(c.B))
	}
	return []string{
		",", "-", "0", "0-", "-1", "0-1,", ",0-1", "0-1,,0-2", "0-1 ", " 0-1", "0 -1", "0-1, 0-2", "0-1\n", "0--1", "-0-1", "0-1-2", "0-1;0-2", "0-1.0-2", "0:1",
		"1-0", "0-0", "5-5", "0-60", "59-60", "60-61", "0-1,0-1", "0-2,0-1", "1-2,0-3", "00-1", "0-01", "+0-1", "0-+1", "0x0-1", "0-1_0", "a-b", "0-1,x", "0-b", "-,-",
		"0-18446744073709551617", "18446744073709551616-1", "0-99999999999999999999999", "٠-١", "0–1", "0-1\x00", "\xff", "0-1,\xff-2", "0-1,2", "0,1",
		strings.Join(many, ","), strings.Repeat("0-1,", 100000), strings.Repeat(",", 100000), strings.Repeat("9", 100000),
	}
}

func TestFewestDropsAreFewest(t *testing.T) {
	list := halves(6)
	for mask := range 1 << len(list) {
		part := subset(list, mask)
		drops, ok := impl.FewestDrops(60, part)
		if !ok || len(drops) != max(0, len(part)-1) {
			t.Error("drops", part, drops)
		}
	}
}

func TestFailsForNoSet(t *testing.T) {
	for _, list := range noSets() {
		checkNoSet(t, 6, list)
	}
	for _, points := range edgeNumbers {
		if points < 3 || points > 60 {
			checkNoSet(t, points, nil)
			checkNoSet(t, points, chords(0, 1))
			checkNoSet(t, points, chords(0, 1, 2, 3))
		}
	}
	checkNoSet(t, 60, allChords(60)[:41])
	checkNoSet(t, 10, allChords(10))
}

// checkNoSet checks that all calls with a list that is no set of so many points fail.
func checkNoSet(t *testing.T, points int, list []impl.Chord) {
	t.Helper()
	want(t, "are chords", all(impl.AreChords(points, list)), false)
	want(t, "pairs", all(impl.CrossingPairs(points, list)), [][]int(nil), false)
	want(t, "count", all(impl.CountPairsCrossing(points, list)), 0, false)
	want(t, "most crossed", all(impl.MostCrossed(points, list)), 0, false)
	want(t, "plane", all(impl.IsPlane(points, list)), false, false)
	want(t, "groups", all(impl.CrossingGroups(points, list)), [][]int(nil), false)
	want(t, "sides", all(impl.SidesOfChords(points, list)), "", false)
	want(t, "drops", all(impl.FewestDrops(points, list)), []int(nil), false)
	want(t, "lengths", all(impl.ChordLengths(points, list)), []int(nil), false)
	want(t, "turn", all(impl.TurnChords(points, list, 0)), noChordList, false)
	want(t, "mirror", all(impl.MirrorChords(points, list)), noChordList, false)
	want(t, "add", all(impl.AddChord(points, list, impl.Chord{A: 1, B: 2})), noChordList, false)
	want(t, "drop", all(impl.DropChord(points, list, 0)), noChordList, false)
	want(t, "pairing", all(impl.IsPairing(points, list)), false, false)
	want(t, "rank", all(impl.RankOfPlanePairing(points, list)), 0, false)
}
