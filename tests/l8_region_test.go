package tests

import (
	"maps"
	"math"
	"slices"
	"strings"
	"testing"

	"loop.example/g01324/impl"
)

// noPairs is what a failed call returns in place of regions or neighbours.
var noPairs [][]int

// regionNumbers are numbers at and beyond every limit of chapter 8, and numbers of 32 bits that would be less without the bits above.
var regionNumbers = []int{
	math.MinInt, math.MinInt + 1, math.MinInt32, -60, -3, -2, -1, 0, 1, 2, 3, 4, 5, 19, 20, 21, 22, 39, 40, 41, 42, 43, 44, 45, 59, 60, 61, 62, 255, 256, 259,
	1 << 32, 1<<32 + 3, 1<<32 + 4, 1 << 62, 1<<62 + 3, math.MaxInt - 1, math.MaxInt,
}

// plainIsWithin goes from the lesser point of a chord to the greater one and looks for an arc.
func plainIsWithin(c impl.Chord, arc int) bool {
	for p := c.A; p != c.B; p++ {
		if p == arc {
			return true
		}
	}
	return false
}

// sidesSeen tells for each chord on which side of it one is who stands at a point and looks at an arc:
// of the chords of other points on that of the point, of those of the point itself on that of the arc.
func sidesSeen(list []impl.Chord, p int, arc int) string {
	sides := make([]byte, len(list))
	for i, c := range list {
		seen := p
		if c.A == p || c.B == p {
			seen = arc
		}
		sides[i] = '-'
		if plainIsWithin(c, seen) {
			sides[i] = '+'
		}
	}
	return string(sides)
}

// pointsBySides looks from all points at all arcs, and tells from which points each region is seen, by the sides of chords on which it is.
func pointsBySides(points int, list []impl.Chord) map[string][]int {
	found := map[string][]int{}
	for p := range points {
		for arc := range points {
			sides := sidesSeen(list, p, arc)
			if !slices.Contains(found[sides], p) {
				found[sides] = append(found[sides], p)
			}
		}
	}
	return found
}

// placesOf returns how far along a curve that bends to one side points are, so that no three chords cross at one point.
func placesOf(points int) []int {
	places, z := make([]int, points), uint32(1)
	for p := 1; p < points; p++ {
		z = z*1664525 + 1013904223
		places[p] = places[p-1] + 1 + int(z>>20)
	}
	return places
}

// lineOf returns the sum and the product of the places of a chord: at x on the curve y is the square of x, so that the chord is at y where y is
// x times the sum less the product.
func lineOf(places []int, c impl.Chord) (int, int) {
	return places[c.A] + places[c.B], places[c.A] * places[c.B]
}

// isCrossingWithin reports whether two chords cross on the side of a third one that leads from its lesser point on to the greater one: below it.
func isCrossingWithin(t *testing.T, places []int, c impl.Chord, d impl.Chord, third impl.Chord) bool {
	t.Helper()
	sum, product := lineOf(places, c)
	other, otherProduct := lineOf(places, d)
	thirdSum, thirdProduct := lineOf(places, third)
	// Both chords are equally high at x, the quotient of these.
	above, below := product-otherProduct, sum-other
	if below < 0 {
		above, below = -above, -below
	}
	higher := (sum-thirdSum)*above - (product-thirdProduct)*below
	if higher == 0 {
		t.Fatal("three chords cross at one point", c, d, third)
	}
	return higher < 0
}

// countSeen counts the regions of chords between points on a curve: those that are seen from points, and those around crossings.
func countSeen(t *testing.T, points int, list []impl.Chord) int {
	t.Helper()
	places := placesOf(points)
	seen := map[string]bool{}
	for sides := range pointsBySides(points, list) {
		seen[sides] = true
	}
	for _, pair := range plainPairs(points, list) {
		sides := make([]byte, len(list))
		for i, c := range list {
			sides[i] = '-'
			if !slices.Contains(pair, i) && isCrossingWithin(t, places, list[pair[0]], list[pair[1]], c) {
				sides[i] = '+'
			}
		}
		for _, around := range []string{"--", "-+", "+-", "++"} {
			sides[pair[0]], sides[pair[1]] = around[0], around[1]
			seen[string(sides)] = true
		}
	}
	return len(seen)
}

// plainRegions returns the regions of a plane set in order, and the sides of chords on which they are.
func plainRegions(points int, list []impl.Chord) ([][]int, []string) {
	found := pointsBySides(points, list)
	sides := slices.Collect(maps.Keys(found))
	slices.SortFunc(sides, func(a, b string) int { return slices.Compare(found[a], found[b]) })
	var regions [][]int
	for _, side := range sides {
		regions = append(regions, found[side])
	}
	return regions, sides
}

// plainNext returns the regions of a plane set that are parted by just one chord.
func plainNext(sides []string) [][]int {
	pairs := noPairs
	for i := range sides {
		for j := i + 1; j < len(sides); j++ {
			parted := 0
			for k := range sides[i] {
				if sides[i][k] != sides[j][k] {
					parted++
				}
			}
			if parted == 1 {
				pairs = append(pairs, []int{i, j})
			}
		}
	}
	return pairs
}

// plainEnds returns the indices of the regions that are in just one pair.
func plainEnds(count int, pairs [][]int) []int {
	list := noNumbers
	for k := range count {
		times := 0
		for _, pair := range pairs {
			if slices.Contains(pair, k) {
				times++
			}
		}
		if times == 1 {
			list = append(list, k)
		}
	}
	return list
}

// sizesOf returns how many elements lists have.
func sizesOf(lists [][]int) []int {
	sizes := noNumbers
	for _, list := range lists {
		sizes = append(sizes, len(list))
	}
	return sizes
}

// isPlainPlane reports whether no two chords of a list cross.
func isPlainPlane(points int, list []impl.Chord) bool {
	for i, c := range list {
		if crossesOneOf(points, c, list[:i]) {
			return false
		}
	}
	return true
}

// crossesOneOf reports whether a chord crosses one of a list.
func crossesOneOf(points int, c impl.Chord, list []impl.Chord) bool {
	return slices.ContainsFunc(list, func(d impl.Chord) bool { return plainCross(points, c, d) })
}

// pickedPlane picks up to so many of all chords that do not cross.
func pickedPlane(points int, size int, seed int) []impl.Chord {
	set, left, z := noChordList, allChords(points), uint32(seed)
	for len(set) < size && len(left) > 0 {
		z = z*1664525 + 1013904223
		k := int(z>>8) % len(left)
		if !crossesOneOf(points, left[k], set) {
			set = append(set, left[k])
		}
		left = slices.Delete(left, k, k+1)
	}
	return orderedChords(set)
}

// orderedChords returns chords ordered by A, then by B.
func orderedChords(list []impl.Chord) []impl.Chord {
	return retold(list, func(p int) int { return p })
}

// arcChords returns the chords along the arcs of so many points, that between the last point and 0 among them.
func arcChords(points int) []impl.Chord {
	list := chords(0, points-1)
	for p := range points - 1 {
		list = append(list, impl.Chord{A: p, B: p + 1})
	}
	return orderedChords(list)
}

// namedPlane returns plane sets of the kinds that are told one by one, for so many points, at least 8.
func namedPlane(points int) [][]impl.Chord {
	last := points - 1
	sets := [][]impl.Chord{
		chords(0, 1), chords(0, last), chords(last-1, last), chords(0, 1, 0, last), chords(0, 2), chords(0, last-1), chords(1, last), chords(0, 2, 2, 4),
		chords(0, 2, 0, 4, 2, 4), chords(0, 4, 1, 3), chords(0, last, 1, last-1, 2, last-2), chords(0, 1, 2, 3, 4, 5), chords(1, 2, 1, 3, 2, 3), chords(3, 4),
		chords(0, 3, 3, last), chords(0, 6, 1, 2, 2, 3, 4, 6), chords(2, 7, 3, 7, 4, 6, 5, 6), fan(min(40, last)),
	}
	if points <= 40 {
		sets = append(sets, arcChords(points))
	}
	return sets
}

// eachPlane calls a check with many plane sets of few and of many points.
func eachPlane(check func(points int, list []impl.Chord)) {
	for points := 3; points <= 6; points++ {
		every := allChords(points)
		for mask := range 1 << len(every) {
			if list := subset(every, mask); isPlainPlane(points, list) {
				check(points, list)
			}
		}
	}
	for _, points := range []int{7, 8, 9, 12, 20, 21, 40, 43, 44, 59, 60} {
		for size := 0; size <= min(40, 2*points-3); size++ {
			check(points, pickedPlane(points, size, size))
			check(points, pickedPlane(points, size, 1000+size))
		}
	}
	for _, points := range []int{8, 9, 15, 40, 41, 60} {
		for _, list := range namedPlane(points) {
			check(points, list)
		}
	}
}

func TestRegionsExample(t *testing.T) {
	want(t, "regions", all(impl.RegionsOf(4, chords(0, 2, 1, 3))), 4, true)
	for i, count := range []int{4, 8, 16, 31} {
		want(t, "most", all(impl.MostRegions(i+3)), count, true)
	}
	list := chords(0, 2, 2, 4)
	want(t, "plane", all(impl.PlaneRegions(5, list)), [][]int{{0, 1, 2}, {0, 2, 4}, {2, 3, 4}}, true)
	want(t, "sizes", all(impl.RegionSizes(5, list)), []int{3, 3, 3}, true)
	want(t, "next", all(impl.NextRegions(5, list)), [][]int{{0, 1}, {1, 2}}, true)
	want(t, "ends", all(impl.EndRegions(5, list)), []int{0, 2}, true)
	want(t, "at the arc 3", all(impl.RegionOfArc(5, list, 3)), 2, true)
	want(t, "triangles", all(impl.LeavesTriangles(5, list)), true, true)
	want(t, "ears", all(impl.EarsOf(5, list)), []int{1, 3}, true)
	want(t, "flip", all(impl.FlipDiagonal(5, list, 0)), chords(1, 4, 2, 4), true)
	want(t, "shades", all(impl.ShadesOfArcs(4, chords(0, 2))), "lldd", true)
}

func TestNoChordLeavesOneRegion(t *testing.T) {
	for _, list := range [][]impl.Chord{nil, {}} {
		for points := 3; points <= 60; points++ {
			whole := append([]int{0}, upTo(points-1)...)
			want(t, "regions", all(impl.RegionsOf(points, list)), 1, true)
			want(t, "pieces", all(impl.CountPieces(points, list)), 0, true)
			want(t, "pieces of one", all(impl.PiecesOfChord(points, list, 0)), 0, false)
			want(t, "shades", all(impl.ShadesOfArcs(points, list)), strings.Repeat("l", points), true)
			want(t, "plane", all(impl.PlaneRegions(points, list)), [][]int{whole}, true)
			want(t, "sizes", all(impl.RegionSizes(points, list)), []int{points}, true)
			want(t, "next", all(impl.NextRegions(points, list)), noPairs, true)
			want(t, "ends", all(impl.EndRegions(points, list)), noNumbers, true)
			want(t, "triangles", all(impl.LeavesTriangles(points, list)), points == 3, true)
			want(t, "flip", all(impl.FlipDiagonal(points, list, 0)), noChordList, false)
			for arc := range points {
				want(t, "at an arc", all(impl.RegionOfArc(points, list, arc)), 0, true)
				want(t, "parted", all(impl.ArcsParted(points, list, arc, points-1)), 0, true)
			}
			if points > 3 {
				want(t, "ears", all(impl.EarsOf(points, list)), noNumbers, false)
			}
		}
		want(t, "ears of 3 points", all(impl.EarsOf(3, list)), []int{0, 1, 2}, true)
	}
}

func TestRegionsAreChordsCrossingsAndOne(t *testing.T) {
	eachSet(func(points int, list []impl.Chord) {
		told := 1 + len(list) + len(plainPairs(points, list))
		want(t, "regions", all(impl.RegionsOf(points, list)), told, true)
		if seen := countSeen(t, points, list); seen != told {
			t.Error("seen are", seen, "not", told, points, list)
		}
	})
	want(t, "most that cross", all(impl.RegionsOf(60, halves(30))), 1+30+30*29/2, true)
	want(t, "many that cross", all(impl.RegionsOf(60, crossedByMany())), 1+40+len(plainPairs(60, crossedByMany())), true)
	want(t, "most chords, none of which cross", all(impl.RegionsOf(60, fan(40))), 41, true)
	want(t, "one chord too many", all(impl.RegionsOf(60, fan(41))), 0, false)
	want(t, "in a row", all(impl.RegionsOf(60, rowOfChords(40))), 1+40+39, true)
	want(t, "three that cross", all(impl.RegionsOf(6, chords(0, 3, 1, 4, 2, 5))), 7, true)
	want(t, "along an arc", all(impl.RegionsOf(3, chords(0, 1))), 2, true)
}

// crossedByMany returns the chord from 0 to 30 and 39 others that all cross it.
func crossedByMany() []impl.Chord {
	list := chords(0, 30)
	for b := 31; b < 60; b++ {
		list = append(list, impl.Chord{A: 1, B: b})
	}
	for b := 31; len(list) < 40; b++ {
		list = append(list, impl.Chord{A: 2, B: b})
	}
	return list
}

func TestRegionsOfStars(t *testing.T) {
	for _, s := range allStars() {
		list := plainChords(s)
		told := 1 + len(list) + len(plainPairs(s.Points, list))
		want(t, "star", all(impl.RegionsOfStar(s)), told, true)
		if s.Points <= 40 {
			want(t, "set", all(impl.RegionsOf(s.Points, list)), told, true)
		}
		if s.Points <= 14 && countSeen(t, s.Points, list) != told {
			t.Error("seen are others than", told, s)
		}
	}
	for _, points := range regionNumbers {
		for _, step := range regionNumbers {
			s := impl.Star{Points: points, Step: step}
			if !impl.IsStar(s) {
				want(t, "no star", all(impl.RegionsOfStar(s)), 0, false)
			}
		}
	}
	for _, s := range noStars {
		want(t, "no star", all(impl.RegionsOfStar(s)), 0, false)
	}
	want(t, "{5/2}", all(impl.RegionsOfStar(impl.Star{Points: 5, Step: 2})), 11, true)
	want(t, "{6/3}", all(impl.RegionsOfStar(impl.Star{Points: 6, Step: 3})), 7, true)
	want(t, "{3/1}", all(impl.RegionsOfStar(impl.Star{Points: 3, Step: 1})), 4, true)
	want(t, "{60/30}", all(impl.RegionsOfStar(impl.Star{Points: 60, Step: 30})), 1+30+30*29/2, true)
	want(t, "{60/29}", all(impl.RegionsOfStar(impl.Star{Points: 60, Step: 29})), 1+60+60*28, true)
}

func TestMostRegions(t *testing.T) {
	told := map[int]int{
		3: 4, 4: 8, 5: 16, 6: 31, 7: 57, 8: 99, 9: 163, 10: 256, 11: 386, 12: 562, 13: 794, 14: 1093, 15: 1471, 16: 1941, 17: 2517, 18: 3214, 19: 4048, 20: 5036,
	}
	for _, points := range append(upTo(70), regionNumbers...) {
		want(t, "most", all(impl.MostRegions(points)), told[points], points >= 3 && points <= 20)
	}
	for points, count := range told {
		every := allChords(points)
		if 1+len(every)+len(plainPairs(points, every)) != count {
			t.Error("most", points, count)
		}
		if points <= 12 && countSeen(t, points, every) != count {
			t.Error("seen are others than", count, points)
		}
	}
}

func TestPieces(t *testing.T) {
	eachSet(func(points int, list []impl.Chord) {
		sum := 0
		for k, c := range list {
			pieces := 1
			for _, d := range list {
				if plainCross(points, c, d) {
					pieces++
				}
			}
			want(t, "pieces of one", all(impl.PiecesOfChord(points, list, k)), pieces, true)
			sum += pieces
		}
		want(t, "pieces", all(impl.CountPieces(points, list)), sum, true)
		for _, k := range []int{math.MinInt, -1, len(list), len(list) + 1, 1 << 32, math.MaxInt} {
			want(t, "pieces of none", all(impl.PiecesOfChord(points, list, k)), 0, false)
		}
	})
	want(t, "crossed by many", all(impl.PiecesOfChord(60, crossedByMany(), 0)), 40, true)
	want(t, "crossed by one in a row", all(impl.PiecesOfChord(60, rowOfChords(40), 39)), 2, true)
	want(t, "crossed by none", all(impl.PiecesOfChord(60, fan(40), 39)), 1, true)
	want(t, "all that cross", all(impl.CountPieces(60, halves(30))), 30*30, true)
	want(t, "none that cross", all(impl.CountPieces(60, fan(40))), 40, true)
}

// plainParted goes around from an arc to another one, and counts the chords of which it meets one point alone.
func plainParted(points int, list []impl.Chord, i int, j int) int {
	met := make([]int, points)
	for p := i; p != j; p = (p + 1) % points {
		met[(p+1)%points]++
	}
	count := 0
	for _, c := range list {
		if met[c.A]+met[c.B] == 1 {
			count++
		}
	}
	return count
}

func TestPartedArcsAndShades(t *testing.T) {
	eachSet(func(points int, list []impl.Chord) {
		shades := ""
		for i := range points {
			shades += "ld"[plainParted(points, list, 0, i)%2:][:1]
			for j := range points {
				// Of many points just some arcs are asked, the first and the last one among them.
				if points < 12 || i%9 == 0 && j%7 == 0 || i == points-1 || j == points-1 {
					want(t, "parted", all(impl.ArcsParted(points, list, i, j)), plainParted(points, list, i, j), true)
				}
			}
			want(t, "with itself", all(impl.ArcsParted(points, list, i, i)), 0, true)
		}
		want(t, "shades", all(impl.ShadesOfArcs(points, list)), shades, true)
		for _, arc := range []int{math.MinInt, -1, points, points + 1, 1 << 32, math.MaxInt} {
			want(t, "no first arc", all(impl.ArcsParted(points, list, arc, 0)), 0, false)
			want(t, "no second arc", all(impl.ArcsParted(points, list, 0, arc)), 0, false)
			want(t, "no arcs", all(impl.ArcsParted(points, list, arc, arc)), 0, false)
		}
	})
	want(t, "last arc", all(impl.ArcsParted(5, chords(0, 2), 4, 0)), 1, true)
	want(t, "last arc behind a chord", all(impl.ArcsParted(5, chords(0, 4), 4, 3)), 1, true)
	want(t, "arc with both points", all(impl.ArcsParted(5, chords(1, 2), 1, 2)), 1, true)
	want(t, "arc before", all(impl.ArcsParted(5, chords(1, 2), 0, 2)), 0, true)
	want(t, "all", all(impl.ArcsParted(60, halves(30), 59, 29)), 30, true)
	want(t, "last shade", all(impl.ShadesOfArcs(5, chords(0, 4))), "lllld", true)
	want(t, "first shade alone", all(impl.ShadesOfArcs(5, chords(0, 1))), "ldddd", true)
	want(t, "shade in the middle", all(impl.ShadesOfArcs(5, chords(1, 2))), "ldlll", true)
	want(t, "shades in turn", all(impl.ShadesOfArcs(60, halves(30))), strings.Repeat("ld", 15)+strings.Repeat("ld", 15), true)
	want(t, "shades of a star of three", all(impl.ShadesOfArcs(6, chords(0, 3, 1, 4, 2, 5))), "ldldld", true)
}

func TestPlaneRegions(t *testing.T) {
	eachPlane(func(points int, list []impl.Chord) {
		regions, sides := plainRegions(points, list)
		want(t, "regions", all(impl.PlaneRegions(points, list)), regions, true)
		want(t, "count", all(impl.RegionsOf(points, list)), len(regions), true)
		want(t, "sizes", all(impl.RegionSizes(points, list)), sizesOf(regions), true)
		for arc := range points {
			at := slices.Index(sides, sidesSeen(list, arc, arc))
			want(t, "at an arc", all(impl.RegionOfArc(points, list, arc)), at, true)
		}
		for _, arc := range []int{math.MinInt, -1, points, points + 1, 1 << 32, math.MaxInt} {
			want(t, "at no arc", all(impl.RegionOfArc(points, list, arc)), 0, false)
		}
		pairs := plainNext(sides)
		want(t, "next", all(impl.NextRegions(points, list)), pairs, true)
		want(t, "ends", all(impl.EndRegions(points, list)), plainEnds(len(regions), pairs), true)
	})
}

func TestNamedPlaneRegions(t *testing.T) {
	want(t, "along the first arc", all(impl.PlaneRegions(4, chords(0, 1))), [][]int{{0, 1}, {0, 1, 2, 3}}, true)
	want(t, "along an arc", all(impl.PlaneRegions(4, chords(2, 3))), [][]int{{0, 1, 2, 3}, {2, 3}}, true)
	want(t, "along the last arc", all(impl.PlaneRegions(4, chords(0, 3))), [][]int{{0, 1, 2, 3}, {0, 3}}, true)
	want(t, "all of 3", all(impl.PlaneRegions(3, chords(0, 1, 0, 2, 1, 2))), [][]int{{0, 1}, {0, 1, 2}, {0, 2}, {1, 2}}, true)
	want(t, "sizes of all of 3", all(impl.RegionSizes(3, chords(0, 1, 0, 2, 1, 2))), []int{2, 3, 2, 2}, true)
	for arc, at := range []int{0, 3, 2} {
		want(t, "at an arc with a chord", all(impl.RegionOfArc(3, chords(0, 1, 0, 2, 1, 2), arc)), at, true)
	}
	// The first chord leads along the edge of the first and of the second region, the second one along that of the first and of the third one.
	want(t, "another order", all(impl.PlaneRegions(6, chords(0, 4, 1, 3))), [][]int{{0, 1, 3, 4}, {0, 4, 5}, {1, 2, 3}}, true)
	want(t, "another order next", all(impl.NextRegions(6, chords(0, 4, 1, 3))), [][]int{{0, 1}, {0, 2}}, true)
	want(t, "pairs in another order than chords", all(impl.NextRegions(5, chords(0, 3, 1, 3))), [][]int{{0, 1}, {0, 2}}, true)
	want(t, "a point in common", all(impl.NextRegions(5, chords(0, 2, 2, 4))), [][]int{{0, 1}, {1, 2}}, true)
	want(t, "a point of all", all(impl.NextRegions(6, chords(0, 2, 0, 3, 0, 4))), [][]int{{0, 1}, {1, 2}, {2, 3}}, true)
	want(t, "ends of a row", all(impl.EndRegions(6, chords(0, 2, 0, 3, 0, 4))), []int{0, 3}, true)
	want(t, "three around one", all(impl.NextRegions(6, chords(0, 2, 0, 4, 2, 4))), [][]int{{0, 1}, {1, 2}, {1, 3}}, true)
	want(t, "ends around one", all(impl.EndRegions(6, chords(0, 2, 0, 4, 2, 4))), []int{0, 2, 3}, true)
	want(t, "two regions", all(impl.EndRegions(6, chords(0, 3))), []int{0, 1}, true)
	want(t, "two regions next", all(impl.NextRegions(6, chords(0, 3))), [][]int{{0, 1}}, true)
	want(t, "ends of most chords", all(impl.EndRegions(60, fan(40))), []int{0, 40}, true)
	want(t, "last arc of most chords", all(impl.RegionOfArc(60, fan(40), 59)), 40, true)
}

// TestRegionsAlongAllArcs parts a region of two points off at each arc.
func TestRegionsAlongAllArcs(t *testing.T) {
	for points := 3; points <= 40; points++ {
		list := arcChords(points)
		regions, ok := impl.PlaneRegions(points, list)
		want(t, "count", all(len(regions), ok), points+1, true)
		middle := slices.IndexFunc(regions, func(r []int) bool { return len(r) == points })
		for arc := range points {
			at, ok := impl.RegionOfArc(points, list, arc)
			next := (arc + 1) % points
			want(t, "at an arc", all(regions[at], ok), []int{min(arc, next), max(arc, next)}, true)
		}
		ends, ok := impl.EndRegions(points, list)
		want(t, "ends", all(len(ends), slices.Contains(ends, middle), ok), points, false, true)
	}
}

func TestFailsForNoPlaneSet(t *testing.T) {
	eachSet(func(points int, list []impl.Chord) {
		if !isPlainPlane(points, list) {
			checkNotPlane(t, points, list)
		}
	})
	for _, list := range [][]impl.Chord{chords(0, 2, 1, 3), chords(0, 3, 2, 59), chords(0, 58, 57, 59), append(fan(39), chords(38, 40)...), rowOfChords(2), halves(30)} {
		checkNotPlane(t, 60, list)
	}
}

// checkNotPlane checks that calls that require a plane set fail.
func checkNotPlane(t *testing.T, points int, list []impl.Chord) {
	t.Helper()
	want(t, "regions", all(impl.PlaneRegions(points, list)), noPairs, false)
	want(t, "sizes", all(impl.RegionSizes(points, list)), noNumbers, false)
	want(t, "next", all(impl.NextRegions(points, list)), noPairs, false)
	want(t, "ends", all(impl.EndRegions(points, list)), noNumbers, false)
	want(t, "ears", all(impl.EarsOf(points, list)), noNumbers, false)
	for _, i := range []int{-1, 0, 1, points - 1, points} {
		want(t, "at an arc", all(impl.RegionOfArc(points, list, i)), 0, false)
		want(t, "flip", all(impl.FlipDiagonal(points, list, i)), noChordList, false)
	}
}

// isPlainDiagonal reports whether one has to go around over at least one point from a point of a chord to the other one, either way.
func isPlainDiagonal(points int, c impl.Chord) bool {
	return (c.A+1)%points != c.B && (c.B+1)%points != c.A
}

// plainFan returns the diagonals of a point in order.
func plainFan(points int, point int) []impl.Chord {
	list := noChordList
	for _, c := range allChords(points) {
		if (c.A == point || c.B == point) && isPlainDiagonal(points, c) {
			list = append(list, c)
		}
	}
	return list
}

func TestFans(t *testing.T) {
	for _, points := range append(upTo(65), regionNumbers...) {
		for _, point := range append(upTo(65), regionNumbers...) {
			told := noChordList
			fits := points >= 3 && points <= 43 && point >= 0 && point < points
			if fits {
				told = plainFan(points, point)
			}
			want(t, "fan", all(impl.FanOf(points, point)), told, fits)
			if fits {
				want(t, "triangles", all(impl.LeavesTriangles(points, told)), true, true)
			}
		}
	}
	for point := range 3 {
		want(t, "of 3", all(impl.FanOf(3, point)), noChordList, true)
	}
	want(t, "of 4", all(impl.FanOf(4, 1)), chords(1, 3), true)
	want(t, "of 5", all(impl.FanOf(5, 0)), chords(0, 2, 0, 3), true)
	want(t, "of the last one", all(impl.FanOf(6, 5)), chords(1, 5, 2, 5, 3, 5), true)
	want(t, "of one in the middle", all(impl.FanOf(6, 2)), chords(0, 2, 2, 4, 2, 5), true)
	list, ok := impl.FanOf(43, 42)
	want(t, "most", all(len(list), ok), 40, true)
	want(t, "more", all(impl.FanOf(44, 0)), noChordList, false)
	want(t, "a point more", all(impl.FanOf(43, 43)), noChordList, false)
}

// plainLeaves reports whether a list are diagonals, plane, and as many as points less 3.
func plainLeaves(points int, list []impl.Chord) bool {
	isNone := func(c impl.Chord) bool { return !isPlainDiagonal(points, c) }
	return len(list)+3 == points && !slices.ContainsFunc(list, isNone) && isPlainPlane(points, list)
}

// trianglesBetween returns all ways to part the points from one to a farther one by diagonals into triangles.
func trianglesBetween(from int, to int) [][]impl.Chord {
	if to-from < 2 {
		return [][]impl.Chord{nil}
	}
	var sets [][]impl.Chord
	for corner := from + 1; corner < to; corner++ {
		sides := noChordList
		for _, c := range []impl.Chord{{A: from, B: corner}, {A: corner, B: to}} {
			if c.B-c.A > 1 {
				sides = append(sides, c)
			}
		}
		for _, before := range trianglesBetween(from, corner) {
			for _, behind := range trianglesBetween(corner, to) {
				sets = append(sets, orderedChords(slices.Concat(sides, before, behind)))
			}
		}
	}
	return sets
}

// pickedTriangles returns diagonals of so many points that leave triangles, picked here and there.
func pickedTriangles(points int, seed int) []impl.Chord {
	every := slices.DeleteFunc(allChords(points), func(c impl.Chord) bool { return !isPlainDiagonal(points, c) })
	set, z := noChordList, uint32(seed)
	for len(every) > 0 {
		z = z*1664525 + 1013904223
		k := int(z>>8) % len(every)
		c := every[k]
		set = append(set, c)
		every = slices.DeleteFunc(every, func(d impl.Chord) bool { return d == c || plainCross(points, c, d) })
	}
	return orderedChords(set)
}

// zigzag returns diagonals of so many points that leave triangles, each of them behind the one before on the other side.
func zigzag(points int) []impl.Chord {
	list := noChordList
	for a, b := 1, points-1; len(list) < points-3; {
		list = append(list, impl.Chord{A: a, B: b})
		if len(list)%2 == 1 {
			b--
		} else {
			a++
		}
	}
	return orderedChords(list)
}

// eachTriangled calls a check with all sets of up to 9 points that leave triangles, and with some of more points.
func eachTriangled(check func(points int, list []impl.Chord)) {
	for points := 3; points <= 9; points++ {
		for _, list := range trianglesBetween(0, points-1) {
			check(points, list)
		}
	}
	for _, points := range []int{10, 11, 20, 21, 30, 42, 43} {
		check(points, plainFan(points, 0))
		check(points, plainFan(points, points-1))
		check(points, plainFan(points, points/2))
		check(points, zigzag(points))
		for seed := range 5 {
			check(points, pickedTriangles(points, seed))
		}
	}
}

func TestLeavesTriangles(t *testing.T) {
	for points := 3; points <= 6; points++ {
		every := allChords(points)
		for mask := range 1 << len(every) {
			list := subset(every, mask)
			want(t, "subset", all(impl.LeavesTriangles(points, list)), plainLeaves(points, list), true)
		}
	}
	both := func(points int, list []impl.Chord) {
		want(t, "set", all(impl.LeavesTriangles(points, list)), plainLeaves(points, list), true)
	}
	eachSet(both)
	eachPlane(both)
	eachTriangled(func(points int, list []impl.Chord) {
		want(t, "triangles", all(impl.LeavesTriangles(points, list)), true, true)
		want(t, "sizes", all(impl.RegionSizes(points, list)), slices.Repeat([]int{3}, points-2), true)
	})
}

func TestSetsThatLeaveNoTriangles(t *testing.T) {
	others := map[int][][]impl.Chord{
		3:  {chords(0, 1), chords(0, 2), chords(1, 2)},
		4:  {nil, chords(0, 1), chords(0, 3), chords(0, 2, 1, 3), chords(0, 2, 2, 3)},
		5:  {chords(0, 2), chords(0, 1, 0, 2), chords(0, 4, 1, 3), chords(0, 2, 1, 3), chords(0, 2, 0, 3, 1, 3), chords(0, 2, 0, 3, 0, 4)},
		6:  {chords(0, 2, 0, 3), chords(0, 2, 0, 3, 1, 5), chords(0, 2, 0, 3, 0, 5), chords(0, 2, 0, 3, 3, 4), chords(0, 2, 0, 3, 0, 4, 4, 5), chords(0, 3, 1, 4, 2, 5)},
		43: {fan(39), fan(40), plainFan(43, 0)[1:], append(plainFan(43, 0)[:39], chords(41, 42)...), append(plainFan(43, 0)[:39], chords(39, 41)...)},
		44: {plainFan(44, 0)[:40], plainFan(43, 0), nil},
		60: {plainFan(60, 0)[:40], fan(40), nil},
	}
	for points, sets := range others {
		for _, list := range sets {
			want(t, "others", all(impl.LeavesTriangles(points, list)), false, true)
			want(t, "ears", all(impl.EarsOf(points, list)), noNumbers, false)
			for k := range list {
				want(t, "flip", all(impl.FlipDiagonal(points, list, k)), noChordList, false)
			}
		}
	}
}

func TestCountTriangled(t *testing.T) {
	told := []int{1, 2, 5, 14, 42, 132, 429, 1430, 4862, 16796, 58786, 208012, 742900, 2674440, 9694845, 35357670, 129644790, 477638700}
	for i, count := range told {
		want(t, "count", all(impl.CountTriangled(i+3)), count, true)
		if i <= 7 {
			want(t, "plain count", all(len(trianglesBetween(0, i+2))), count)
		}
	}
	for _, points := range append(upTo(70), regionNumbers...) {
		if points < 3 || points > 20 {
			want(t, "no count", all(impl.CountTriangled(points)), 0, false)
		}
	}
}

func TestEars(t *testing.T) {
	eachTriangled(func(points int, list []impl.Chord) {
		ears := noNumbers
		for p := range points {
			if !slices.ContainsFunc(list, func(c impl.Chord) bool { return c.A == p || c.B == p }) {
				ears = append(ears, p)
			}
		}
		want(t, "ears", all(impl.EarsOf(points, list)), ears, true)
	})
	want(t, "of a fan", all(impl.EarsOf(43, plainFan(43, 0))), []int{1, 42}, true)
	want(t, "of a zigzag", all(impl.EarsOf(6, chords(1, 5, 2, 4, 2, 5))), []int{0, 3}, true)
	want(t, "three", all(impl.EarsOf(6, chords(0, 2, 0, 4, 2, 4))), []int{1, 3, 5}, true)
}

// plainFlip looks among all diagonals for another one that can take the place of one of a set.
func plainFlip(points int, list []impl.Chord, k int) ([]impl.Chord, int) {
	rest := slices.Delete(slices.Clone(list), k, k+1)
	for _, c := range allChords(points) {
		if isPlainDiagonal(points, c) && !slices.Contains(list, c) && !crossesOneOf(points, c, rest) {
			flipped := orderedChords(append(rest, c))
			return flipped, slices.Index(flipped, c)
		}
	}
	return nil, 0
}

func TestFlipsAreTakenBack(t *testing.T) {
	eachTriangled(func(points int, list []impl.Chord) {
		for k := range list {
			flipped, at := plainFlip(points, list, k)
			want(t, "flip", all(impl.FlipDiagonal(points, list, k)), flipped, true)
			want(t, "back", all(impl.FlipDiagonal(points, flipped, at)), list, true)
		}
		for _, k := range []int{math.MinInt, -1, len(list), len(list) + 1, 1 << 32, math.MaxInt} {
			want(t, "flip of none", all(impl.FlipDiagonal(points, list, k)), noChordList, false)
		}
	})
	want(t, "of 4", all(impl.FlipDiagonal(4, chords(0, 2), 0)), chords(1, 3), true)
	want(t, "of 4 back", all(impl.FlipDiagonal(4, chords(1, 3), 0)), chords(0, 2), true)
	want(t, "in another place", all(impl.FlipDiagonal(6, chords(0, 2, 0, 3, 0, 4), 0)), chords(0, 3, 0, 4, 1, 3), true)
	want(t, "last one", all(impl.FlipDiagonal(6, chords(0, 2, 0, 3, 0, 4), 2)), chords(0, 2, 0, 3, 3, 5), true)
	want(t, "middle one", all(impl.FlipDiagonal(6, chords(0, 2, 0, 4, 2, 4), 1)), chords(0, 2, 2, 4, 2, 5), true)
}

// checkNoRegions checks that all calls with a list that is no set of so many points fail.
func checkNoRegions(t *testing.T, points int, list []impl.Chord) {
	t.Helper()
	checkNotPlane(t, points, list)
	want(t, "count", all(impl.RegionsOf(points, list)), 0, false)
	want(t, "pieces", all(impl.CountPieces(points, list)), 0, false)
	want(t, "shades", all(impl.ShadesOfArcs(points, list)), "", false)
	want(t, "triangles", all(impl.LeavesTriangles(points, list)), false, false)
	for _, i := range []int{-1, 0, 1, len(list) - 1, len(list)} {
		want(t, "pieces of one", all(impl.PiecesOfChord(points, list, i)), 0, false)
		want(t, "parted", all(impl.ArcsParted(points, list, i, 0)), 0, false)
		want(t, "parted", all(impl.ArcsParted(points, list, 0, i)), 0, false)
		want(t, "flip", all(impl.FlipDiagonal(points, list, i)), noChordList, false)
	}
}

func TestRegionsFailForNoSet(t *testing.T) {
	for _, list := range noSets() {
		checkNoRegions(t, 6, list)
	}
	for _, points := range regionNumbers {
		if points < 3 || points > 60 {
			checkNoRegions(t, points, nil)
			checkNoRegions(t, points, chords(0, 1))
			checkNoRegions(t, points, chords(0, 2, 2, 4))
		}
	}
	for _, c := range noChords(5) {
		checkNoRegions(t, 5, []impl.Chord{c})
		checkNoRegions(t, 5, []impl.Chord{{A: 0, B: 2}, c})
	}
	checkNoRegions(t, 60, fan(41))
	checkNoRegions(t, 44, plainFan(44, 0))
	checkNoRegions(t, 5, chords(2, 4, 0, 2))
	checkNoRegions(t, 5, chords(0, 2, 0, 2))
	checkNoRegions(t, 5, chords(0, 2, 2, 5))
}
