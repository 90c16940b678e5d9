package tests

import (
	"math"
	"math/big"
	"slices"
	"strconv"
	"strings"
	"testing"

	"loop.example/g01324/impl"
)

// noThreadList is what a failed call returns in place of threads.
var noThreadList []impl.Thread

// nailNumbers are numbers at and beyond every limit of chapter 6, and numbers of 32 bits that would be less without the bits above.
var nailNumbers = []int{
	math.MinInt, math.MinInt + 1, math.MinInt32, -101, -100, -2, -1, 0, 1, 2, 3, 29, 30, 31, 50, 51, 99, 100, 101, 200,
	1 << 32, 1<<32 + 1, 1 << 62, 1<<63 - 100, math.MaxInt - 1, math.MaxInt,
}

// noThreads are threads with nails that a line has not.
var noThreads = threads(
	0, 0, 0, 1, 1, 0, -1, 1, 1, -1, -1, -1, 101, 1, 1, 101, 101, 101, math.MaxInt, 1, 1, math.MaxInt, math.MinInt, 1, 1, math.MinInt,
	math.MaxInt, math.MaxInt, math.MinInt, math.MinInt, math.MaxInt, math.MinInt, 1<<32+1, 1, 1, 1<<32+1, 1<<32, 100,
)

// threads makes a list from A and B of each thread in turn.
func threads(numbers ...int) []impl.Thread {
	var list []impl.Thread
	for i := 0; i < len(numbers); i += 2 {
		list = append(list, impl.Thread{A: numbers[i], B: numbers[i+1]})
	}
	return list
}

// allThreads returns all threads with nails up to a last one, in order.
func allThreads(last int) []impl.Thread {
	var list []impl.Thread
	for _, a := range upTo(last) {
		for _, b := range upTo(last) {
			list = append(list, impl.Thread{A: a, B: b})
		}
	}
	return list
}

// fewNails returns all threads of some nails.
func fewNails(nails ...int) []impl.Thread {
	var list []impl.Thread
	for _, a := range nails {
		for _, b := range nails {
			list = append(list, impl.Thread{A: a, B: b})
		}
	}
	return list
}

// throughSix are all threads through the point 6, 6.
func throughSix() []impl.Thread {
	return threads(7, 42, 8, 24, 9, 18, 10, 15, 12, 12, 15, 10, 18, 9, 24, 8, 42, 7)
}

// tradedThreads are threads each of which alone may be taken out, but not 3:4 and 4:3 both: the point 1, 2 is under just these.
func tradedThreads() []impl.Thread { return threads(1, 4, 3, 4, 4, 1, 4, 3) }

// namedThreads returns threads of the kinds that are told one by one: from one nail, with equal products, through one point, one below the other.
func namedThreads() [][]impl.Thread {
	lists := [][]impl.Thread{
		threads(1, 1), threads(1, 100), threads(100, 1), threads(100, 100), threads(1, 100, 100, 1), threads(1, 100, 100, 100), threads(100, 1, 100, 100),
		threads(99, 100, 100, 99), threads(1, 1, 2, 2), threads(2, 2, 2, 3), threads(2, 2, 3, 2), threads(1, 12, 2, 6, 3, 4, 4, 3, 6, 2, 12, 1),
		threads(3, 6, 4, 4, 6, 3), threads(3, 6, 4, 4), threads(3, 6, 4, 4, 6, 3, 6, 4), threads(2, 100, 3, 6, 4, 4, 6, 3, 100, 2), tradedThreads(), throughSix(),
		fewNails(98, 99, 100), fewNails(1, 2, 99, 100), fewNails(1, 50, 100), fewNails(25, 50, 75, 100),
	}
	for count := 1; count <= 30; count++ {
		var art, below, left, right []impl.Thread
		for _, i := range upTo(count) {
			art = append(art, impl.Thread{A: i, B: count + 1 - i})
			below = append(below, impl.Thread{A: i, B: i})
			left = append(left, impl.Thread{A: i, B: 5})
			right = append(right, impl.Thread{A: 5, B: i})
		}
		lists = append(lists, art, below, left, right)
	}
	return lists
}

// pickedThreads returns so many threads picked from a list, in order.
func pickedThreads(from []impl.Thread, count int, z *uint32) []impl.Thread {
	left, picked := slices.Clone(from), noThreadList
	for range count {
		*z = *z*1664525 + 1013904223
		k := int(*z>>8) % len(left)
		picked = append(picked, left[k])
		left = slices.Delete(left, k, k+1)
	}
	return inOrder(picked)
}

// inOrder returns threads ordered by A, then by B.
func inOrder(list []impl.Thread) []impl.Thread {
	list = slices.Clone(list)
	slices.SortFunc(list, func(s, t impl.Thread) int { return 1000*(s.A-t.A) + s.B - t.B })
	return list
}

// eachThreads calls a check with many lists of threads: all those with nails up to 3, some of all sizes with nails up to greater ones, and those named.
func eachThreads(check func(list []impl.Thread)) {
	small := allThreads(3)
	for mask := 1; mask < 1<<len(small); mask++ {
		var list []impl.Thread
		for i, s := range small {
			if mask>>i&1 == 1 {
				list = append(list, s)
			}
		}
		check(list)
	}
	z := uint32(6)
	for _, last := range []int{4, 6, 12, 30, 100} {
		for size := 1; size <= min(30, last*last); size++ {
			check(pickedThreads(allThreads(last), size, &z))
			check(pickedThreads(allThreads(last), size, &z))
		}
	}
	for _, list := range namedThreads() {
		check(list)
	}
}

// plainMeeting solves the lines of two threads for the point that both have. It fails unless there is one beyond both lines of nails.
func plainMeeting(s impl.Thread, t impl.Thread) (*big.Rat, *big.Rat, bool) {
	falls := new(big.Rat).Sub(big.NewRat(int64(s.B), int64(s.A)), big.NewRat(int64(t.B), int64(t.A)))
	if falls.Sign() == 0 {
		return nil, nil, false
	}
	x := new(big.Rat).Quo(big.NewRat(int64(s.B-t.B), 1), falls)
	y := plainHeight(s, x)
	return x, y, x.Sign() > 0 && y.Sign() > 0
}

// plainHeight returns y of the point of the line of a thread, also beyond its nails.
func plainHeight(s impl.Thread, x *big.Rat) *big.Rat {
	part := new(big.Rat).Quo(x, big.NewRat(int64(s.A), 1))
	return part.Mul(part.Sub(big.NewRat(1, 1), part), big.NewRat(int64(s.B), 1))
}

// told returns numerators and denominators in lowest terms, one behind the other.
func told(fractions ...*big.Rat) []int {
	var list []int
	for _, f := range fractions {
		list = append(list, int(f.Num().Int64()), int(f.Denom().Int64()))
	}
	return list
}

// plainHighest compares a place of all threads that have it.
func plainHighest(list []impl.Thread, x int) (int, *big.Rat, bool) {
	best, most := 0, big.NewRat(-1, 1)
	for i, s := range list {
		if y := plainHeight(s, big.NewRat(int64(x), 1)); y.Cmp(most) > 0 {
			best, most = i, y
		}
	}
	// The height is less than 0 beyond the nail A.
	return best, most, most.Sign() >= 0
}

// edgeChanges returns, in order, the line up, the end of the edge and each x between them at which threads meet.
func edgeChanges(list []impl.Thread) []*big.Rat {
	end := new(big.Rat)
	for _, s := range list {
		if a := big.NewRat(int64(s.A), 1); a.Cmp(end) > 0 {
			end = a
		}
	}
	changes := []*big.Rat{new(big.Rat), end}
	for i, s := range list {
		for _, t := range list[:i] {
			if x, _, meet := plainMeeting(s, t); meet {
				changes = append(changes, x)
			}
		}
	}
	slices.SortFunc(changes, func(x, y *big.Rat) int { return x.Cmp(y) })
	return slices.CompactFunc(changes, func(x, y *big.Rat) bool { return x.Cmp(y) == 0 })
}

// plainEdge looks for the highest thread between each two places at which it may change, and for the points at which it does.
func plainEdge(list []impl.Thread) ([]int, [][]int) {
	var edge []int
	var corners [][]int
	changes := edgeChanges(list)
	for i, to := range changes[1:] {
		middle := new(big.Rat).Add(changes[i], to)
		middle.Mul(middle, big.NewRat(1, 2))
		best := 0
		for k := range list {
			if plainHeight(list[k], middle).Cmp(plainHeight(list[best], middle)) > 0 {
				best = k
			}
		}
		if len(edge) == 0 {
			edge = append(edge, best)
		} else if edge[len(edge)-1] != best {
			edge = append(edge, best)
			corners = append(corners, told(changes[i], plainHeight(list[best], changes[i])))
		}
	}
	return edge, corners
}

// plainOver counts the threads of a list that a point is under, and tells the last one of them.
func plainOver(list []impl.Thread, x int, y int) (int, int) {
	count, last := 0, -1
	for i, s := range list {
		if y*s.A <= s.B*(s.A-x) {
			count++
			last = i
		}
	}
	return count, last
}

// plainHidden takes away from all threads those that alone have a point under them.
func plainHidden(list []impl.Thread) []int {
	needed := make([]bool, len(list))
	for x := range 101 {
		for y := range 101 {
			if count, last := plainOver(list, x, y); count == 1 {
				needed[last] = true
			}
		}
	}
	var hidden []int
	for i := range list {
		if !needed[i] {
			hidden = append(hidden, i)
		}
	}
	return hidden
}

// plainThreadsText writes threads in the order of a list.
func plainThreadsText(list []impl.Thread) string {
	var parts []string
	for _, s := range list {
		parts = append(parts, strconv.Itoa(s.A)+":"+strconv.Itoa(s.B))
	}
	return strings.Join(parts, ",")
}

func TestThreadsExample(t *testing.T) {
	list := threads(1, 3, 2, 2, 3, 1)
	want(t, "art", all(impl.ArtThreads(3)), list, true)
	want(t, "text", all(impl.ThreadsText(list)), "1:3,2:2,3:1", true)
	want(t, "first two", all(impl.MeetingOf(list[0], list[1])), []int{1, 2, 3, 2}, true)
	want(t, "first and last", all(impl.MeetingOf(list[0], list[2])), []int{3, 4, 3, 4}, true)
	want(t, "meetings", all(impl.CountMeetings(list)), 3, true)
	want(t, "on the first", all(impl.MeetingsOnThread(list, 0)), []int{1, 2}, true)
	want(t, "on the middle one", all(impl.MeetingsOnThread(list, 1)), []int{0, 2}, true)
	want(t, "on the last", all(impl.MeetingsOnThread(list, 2)), []int{0, 1}, true)
	want(t, "edge", all(impl.EdgeThreads(list)), []int{0, 1, 2}, true)
	want(t, "corners", all(impl.EdgeCorners(list)), [][]int{{1, 2, 3, 2}, {3, 2, 1, 2}}, true)
	want(t, "highest", all(impl.HighestAt(list, 1)), 1, 1, 1, true)
	want(t, "under", all(impl.CountUnder(list)), 1, true)
	want(t, "the point", all(impl.IsUnder(list, 1, 1)), true, true)
	want(t, "no other point", all(impl.IsUnder(list, 1, 2)), false, true)
	want(t, "nor this one", all(impl.IsUnder(list, 2, 1)), false, true)
}

func TestAreThreads(t *testing.T) {
	for _, a := range nailNumbers {
		for _, b := range nailNumbers {
			isOne := a >= 1 && a <= 100 && b >= 1 && b <= 100
			want(t, "one", all(impl.AreThreads(threads(a, b))), isOne)
			want(t, "behind another", all(impl.AreThreads(threads(1, 1, a, b))), isOne && (a > 1 || b > 1))
			want(t, "before another", all(impl.AreThreads(threads(a, b, 100, 100))), isOne && (a < 100 || b < 100))
		}
	}
	eachThreads(func(list []impl.Thread) { want(t, "threads", all(impl.AreThreads(list)), true) })
	want(t, "most", all(impl.AreThreads(allThreads(30)[:30])), true)
	want(t, "last of all", all(impl.AreThreads(allThreads(100)[9970:])), true)
	for _, list := range noThreadLists() {
		want(t, "none", all(impl.AreThreads(list)), false)
	}
}

// noThreadLists returns lists that are none of threads: too short, too long, out of order, with threads twice, or with threads that are none.
func noThreadLists() [][]impl.Thread {
	lists := [][]impl.Thread{
		nil, {}, make([]impl.Thread, 1), make([]impl.Thread, 30), allThreads(6)[:31], allThreads(100)[9969:], allThreads(100), threads(1, 1, 1, 1), threads(2, 1, 1, 1),
		threads(1, 2, 1, 1), threads(1, 3, 2, 2, 1, 4), threads(1, 3, 1, 2, 3, 1), threads(1, 3, 2, 2, 2, 2), threads(2, 2, 1, 3, 3, 1), slices.Repeat(threads(2, 2), 31),
	}
	for _, s := range noThreads {
		lists = append(lists, []impl.Thread{s}, []impl.Thread{{A: 1, B: 1}, s}, []impl.Thread{s, {A: 100, B: 100}}, []impl.Thread{{A: 1, B: 1}, s, {A: 100, B: 100}})
	}
	return lists
}

func TestArtThreads(t *testing.T) {
	for count := 1; count <= 30; count++ {
		var list []impl.Thread
		for i := 1; i <= count; i++ {
			list = append(list, impl.Thread{A: i, B: count - i + 1})
		}
		want(t, "art", all(impl.ArtThreads(count)), list, true)
		// Each two of them meet, and all of them touch one curve, along which the edge goes.
		want(t, "meetings", all(impl.CountMeetings(list)), count*(count-1)/2, true)
		want(t, "edge", all(impl.EdgeThreads(list)), append([]int{0}, upTo(count-1)...), true)
	}
	want(t, "one", all(impl.ArtThreads(1)), threads(1, 1), true)
	want(t, "two", all(impl.ArtThreads(2)), threads(1, 2, 2, 1), true)
	for _, nails := range nailNumbers {
		if nails < 1 || nails > 30 {
			want(t, "no art", all(impl.ArtThreads(nails)), noThreadList, false)
		}
	}
}

// checkMeeting checks where two threads meet.
func checkMeeting(t *testing.T, s impl.Thread, other impl.Thread) {
	t.Helper()
	x, y, meet := plainMeeting(s, other)
	want(t, "meet", all(impl.DoThreadsMeet(s, other)), meet, true)
	if !meet {
		want(t, "no meeting", all(impl.MeetingOf(s, other)), noNumbers, false)
		return
	}
	want(t, "meeting", all(impl.MeetingOf(s, other)), told(x, y), true)
	if plainHeight(s, x).Cmp(y) != 0 || plainHeight(other, x).Cmp(y) != 0 {
		t.Error("the meeting of", s, other, "is no point of both")
	}
}

func TestMeetingsArePointsOfBothThreads(t *testing.T) {
	for _, every := range [][]impl.Thread{allThreads(12), fewNails(1, 2, 3, 7, 50, 97, 98, 99, 100)} {
		for _, s := range every {
			for _, other := range every {
				checkMeeting(t, s, other)
			}
		}
	}
	want(t, "itself", all(impl.DoThreadsMeet(impl.Thread{A: 2, B: 3}, impl.Thread{A: 2, B: 3})), false, true)
	want(t, "at the nail A", all(impl.DoThreadsMeet(impl.Thread{A: 2, B: 3}, impl.Thread{A: 2, B: 1})), false, true)
	want(t, "at the nail B", all(impl.DoThreadsMeet(impl.Thread{A: 1, B: 3}, impl.Thread{A: 2, B: 3})), false, true)
	want(t, "not at all", all(impl.DoThreadsMeet(impl.Thread{A: 1, B: 3}, impl.Thread{A: 2, B: 4})), false, true)
	want(t, "beside each other", all(impl.DoThreadsMeet(impl.Thread{A: 1, B: 2}, impl.Thread{A: 2, B: 4})), false, true)
	want(t, "no meeting at a nail", all(impl.MeetingOf(impl.Thread{A: 100, B: 1}, impl.Thread{A: 100, B: 100})), noNumbers, false)
	want(t, "equal products", all(impl.MeetingOf(impl.Thread{A: 2, B: 6}, impl.Thread{A: 3, B: 4})), []int{6, 5, 12, 5}, true)
	want(t, "far nails", all(impl.MeetingOf(impl.Thread{A: 100, B: 99}, impl.Thread{A: 99, B: 100})), []int{9900, 199, 9900, 199}, true)
	want(t, "farthest nails", all(impl.MeetingOf(impl.Thread{A: 1, B: 100}, impl.Thread{A: 100, B: 1})), []int{100, 101, 100, 101}, true)
	want(t, "whole numbers", all(impl.MeetingOf(impl.Thread{A: 3, B: 6}, impl.Thread{A: 6, B: 3})), []int{2, 1, 2, 1}, true)
}

func TestMeetingsOnThreads(t *testing.T) {
	eachThreads(func(list []impl.Thread) {
		count := 0
		for k, s := range list {
			var indices []int
			at := map[int]*big.Rat{}
			for i, other := range list {
				if x, _, meet := plainMeeting(s, other); meet {
					indices = append(indices, i)
					at[i] = x
				}
			}
			count += len(indices)
			slices.SortFunc(indices, func(i, j int) int {
				if order := at[i].Cmp(at[j]); order != 0 {
					return order
				}
				return i - j
			})
			want(t, "on a thread", all(impl.MeetingsOnThread(list, k)), indices, true)
		}
		want(t, "meetings", all(impl.CountMeetings(list)), count/2, true)
		for _, k := range []int{math.MinInt, -1, len(list), len(list) + 1, 30, math.MaxInt} {
			want(t, "on none", all(impl.MeetingsOnThread(list, k)), noNumbers, false)
		}
	})
	want(t, "one thread", all(impl.CountMeetings(threads(7, 9))), 0, true)
	want(t, "on one thread", all(impl.MeetingsOnThread(threads(7, 9), 0)), noNumbers, true)
	want(t, "from one nail", all(impl.CountMeetings(fewNails(1, 2)[:2])), 0, true)
	want(t, "at one point", all(impl.MeetingsOnThread(throughSix(), 4)), []int{0, 1, 2, 3, 5, 6, 7, 8}, true)
	want(t, "back along it", all(impl.MeetingsOnThread(threads(1, 9, 2, 4, 3, 8, 9, 2), 3)), []int{0, 1, 2}, true)
	want(t, "the last one first", all(impl.MeetingsOnThread(threads(4, 20, 5, 5, 100, 4), 1)), []int{2, 0}, true)
	want(t, "at one point behind another one", all(impl.MeetingsOnThread(threads(3, 6, 4, 4, 6, 3, 100, 3), 1)), []int{3, 0, 2}, true)
}

func TestHeights(t *testing.T) {
	for _, a := range upTo(100) {
		for _, b := range []int{1, 2, 3, 7, 12, 50, 97, 99, 100} {
			for x := range 101 {
				s := impl.Thread{A: a, B: b}
				if x > a {
					want(t, "beyond the nail", all(impl.HeightOf(s, x)), 0, 0, false)
					continue
				}
				y := told(plainHeight(s, big.NewRat(int64(x), 1)))
				want(t, "height", all(impl.HeightOf(s, x)), y[0], y[1], true)
			}
		}
	}
	want(t, "place 0", all(impl.HeightOf(impl.Thread{A: 7, B: 100}, 0)), 100, 1, true)
	want(t, "the nail A", all(impl.HeightOf(impl.Thread{A: 7, B: 100}, 7)), 0, 1, true)
	want(t, "beyond the nail", all(impl.HeightOf(impl.Thread{A: 7, B: 100}, 8)), 0, 0, false)
	want(t, "last place", all(impl.HeightOf(impl.Thread{A: 100, B: 7}, 100)), 0, 1, true)
	want(t, "last place beyond", all(impl.HeightOf(impl.Thread{A: 99, B: 7}, 100)), 0, 0, false)
	want(t, "lowest terms", all(impl.HeightOf(impl.Thread{A: 6, B: 4}, 3)), 2, 1, true)
	want(t, "no whole number", all(impl.HeightOf(impl.Thread{A: 100, B: 99}, 1)), 9801, 100, true)
}

func TestHighest(t *testing.T) {
	eachThreads(func(list []impl.Thread) {
		for x := range 101 {
			k, y, has := plainHighest(list, x)
			if !has {
				want(t, "none has it", all(impl.HighestAt(list, x)), 0, 0, 0, false)
				continue
			}
			parts := told(y)
			want(t, "highest", all(impl.HighestAt(list, x)), k, parts[0], parts[1], true)
		}
	})
	want(t, "first of several", all(impl.HighestAt(throughSix(), 6)), 0, 6, 1, true)
	want(t, "first from one nail", all(impl.HighestAt(threads(1, 5, 2, 5, 3, 5), 0)), 0, 5, 1, true)
	want(t, "first to one nail", all(impl.HighestAt(threads(99, 100, 100, 1, 100, 2), 100)), 1, 0, 1, true)
	want(t, "first behind lesser ones", all(impl.HighestAt(threads(1, 2, 3, 6, 4, 4, 6, 3), 2)), 1, 2, 1, true)
	want(t, "beyond all nails", all(impl.HighestAt(threads(1, 100, 99, 100), 100)), 0, 0, 0, false)
}

// TestNearHeights compares, of all threads with a place, each two whose heights there are equal or next to each other.
func TestNearHeights(t *testing.T) {
	for _, x := range []int{0, 1, 2, 3, 7, 33, 50, 97, 98, 99, 100} {
		every := slices.DeleteFunc(allThreads(100), func(s impl.Thread) bool { return s.A < x })
		order := func(s, other impl.Thread) int { return s.B*(s.A-x)*other.A - other.B*(other.A-x)*s.A }
		slices.SortStableFunc(every, order)
		for i, high := range every[1:] {
			low := every[i]
			list := inOrder([]impl.Thread{low, high})
			index := slices.Index(list, high)
			if order(low, high) == 0 {
				index = 0
			}
			if k, _, _, ok := impl.HighestAt(list, x); k != index || !ok {
				t.Error("highest at", x, "of", list, "is", k, ok)
			}
		}
	}
}

func TestEdgesGoAlongTheHighestThreads(t *testing.T) {
	eachThreads(func(list []impl.Thread) {
		edge, corners := plainEdge(list)
		want(t, "edge of "+plainThreadsText(list), all(impl.EdgeThreads(list)), edge, true)
		want(t, "corners of "+plainThreadsText(list), all(impl.EdgeCorners(list)), corners, true)
		for i, next := range edge[1:] {
			want(t, "corner", all(impl.MeetingOf(list[edge[i]], list[next])), corners[i], true)
		}
	})
	for _, named := range []struct {
		list    []impl.Thread
		edge    []int
		corners [][]int
	}{
		{threads(7, 9), []int{0}, nil},
		{threads(1, 1, 100, 100), []int{1}, nil},
		{threads(1, 5, 2, 5, 3, 5), []int{2}, nil},
		{threads(5, 1, 5, 2, 5, 3), []int{2}, nil},
		{threads(1, 5, 2, 4, 4, 5), []int{2}, nil},
		{threads(3, 6, 4, 4, 6, 3), []int{0, 2}, [][]int{{2, 1, 2, 1}}},
		{throughSix(), []int{0, 8}, [][]int{{6, 1, 6, 1}}},
		{threads(2, 4, 3, 4, 4, 2, 4, 3), []int{1, 3}, [][]int{{12, 7, 12, 7}}},
		{threads(1, 100, 100, 1), []int{0, 1}, [][]int{{100, 101, 100, 101}}},
		{threads(1, 12, 2, 6, 3, 4, 4, 3, 6, 2, 12, 1), []int{0, 1, 2, 3, 4, 5}, [][]int{{2, 3, 4, 1}, {6, 5, 12, 5}, {12, 7, 12, 7}, {12, 5, 6, 5}, {4, 1, 2, 3}}},
	} {
		want(t, "named edge", all(impl.EdgeThreads(named.list)), named.edge, true)
		want(t, "named corners", all(impl.EdgeCorners(named.list)), named.corners, true)
	}
}

// placesUpTo returns places a bit farther than the nails of threads, and the last ones.
func placesUpTo(list []impl.Thread) []int {
	last := 0
	for _, s := range list {
		last = max(last, s.A, s.B)
	}
	return append([]int{0, 99, 100}, upTo(min(100, last+2))...)
}

func TestUnder(t *testing.T) {
	eachThreads(func(list []impl.Thread) {
		places := placesUpTo(list)
		for _, x := range places {
			for _, y := range places {
				count, _ := plainOver(list, x, y)
				if under, ok := impl.IsUnder(list, x, y); under != (count > 0) || !ok {
					t.Error("under", list, x, y, under, ok)
				}
			}
		}
		under := 0
		for _, x := range upTo(100) {
			for _, y := range upTo(100) {
				if count, _ := plainOver(list, x, y); count > 0 {
					under++
				}
			}
		}
		want(t, "count", all(impl.CountUnder(list)), under, true)
	})
	want(t, "on a thread", all(impl.IsUnder(threads(4, 6), 2, 3)), true, true)
	want(t, "just beyond it", all(impl.IsUnder(threads(4, 6), 2, 4)), false, true)
	want(t, "beside it", all(impl.IsUnder(threads(4, 6), 3, 3)), false, true)
	want(t, "just beyond a far one", all(impl.IsUnder(threads(99, 100), 98, 2)), false, true)
	want(t, "just under a far one", all(impl.IsUnder(threads(99, 100), 98, 1)), true, true)
	want(t, "the corner", all(impl.IsUnder(threads(1, 1), 0, 0)), true, true)
	want(t, "the nail A", all(impl.IsUnder(threads(100, 1), 100, 0)), true, true)
	want(t, "the nail B", all(impl.IsUnder(threads(1, 100), 0, 100)), true, true)
	want(t, "beyond the nail A", all(impl.IsUnder(threads(99, 100), 100, 0)), false, true)
	want(t, "beyond the nail B", all(impl.IsUnder(threads(100, 99), 0, 100)), false, true)
	want(t, "far from all", all(impl.IsUnder(threads(100, 100), 100, 100)), false, true)
	want(t, "none", all(impl.CountUnder(threads(1, 100))), 0, true)
	want(t, "none along both lines", all(impl.CountUnder(threads(1, 100, 100, 1))), 0, true)
	want(t, "just one", all(impl.CountUnder(threads(2, 2))), 1, true)
	want(t, "most", all(impl.CountUnder(threads(100, 100))), 99*100/2, true)
}

func TestDoubleTriangle(t *testing.T) {
	for _, s := range allThreads(100) {
		want(t, "triangle", all(impl.DoubleTriangle(s)), s.A*s.B, true)
	}
	want(t, "least", all(impl.DoubleTriangle(impl.Thread{A: 1, B: 1})), 1, true)
	want(t, "greatest", all(impl.DoubleTriangle(impl.Thread{A: 100, B: 100})), 10000, true)
}

// times returns a list of k times as great threads, and whether they have nails.
func times(list []impl.Thread, k int) ([]impl.Thread, bool) {
	var scaled []impl.Thread
	for _, s := range list {
		if k > 100 || k*s.A > 100 || k*s.B > 100 {
			return nil, false
		}
		scaled = append(scaled, impl.Thread{A: k * s.A, B: k * s.B})
	}
	return scaled, true
}

func TestScaled(t *testing.T) {
	eachThreads(func(list []impl.Thread) {
		for _, k := range append([]int{4, 5, 8, 10, 25, 33, 34}, nailNumbers...) {
			if k < 1 {
				want(t, "no factor", all(impl.ScaleThreads(list, k)), noThreadList, false)
				continue
			}
			scaled, fits := times(list, k)
			want(t, "scaled", all(impl.ScaleThreads(list, k)), scaled, fits)
		}
	})
	want(t, "to the last nail A", all(impl.ScaleThreads(threads(1, 1, 25, 7), 4)), threads(4, 4, 100, 28), true)
	want(t, "to the last nail B", all(impl.ScaleThreads(threads(1, 25, 2, 1), 4)), threads(4, 100, 8, 4), true)
	want(t, "above it", all(impl.ScaleThreads(threads(1, 1, 26, 7), 4)), noThreadList, false)
	want(t, "above it, B", all(impl.ScaleThreads(threads(1, 26, 2, 1), 4)), noThreadList, false)
	want(t, "just above it", all(impl.ScaleThreads(threads(1, 1), 101)), noThreadList, false)
	want(t, "a hundred times", all(impl.ScaleThreads(threads(1, 1), 100)), threads(100, 100), true)
	want(t, "twice above it", all(impl.ScaleThreads(threads(100, 100), 2)), noThreadList, false)
	// Products of these, cut to 64 bits, are nails again.
	want(t, "too great a product", all(impl.ScaleThreads(threads(4, 4), 1<<62+1)), noThreadList, false)
	want(t, "too great products", all(impl.ScaleThreads(threads(16, 32), 1<<60+1)), noThreadList, false)
	want(t, "too great nails", all(impl.ScaleThreads(threads(1<<62+1, 1<<62+1), 4)), noThreadList, false)
}

func TestExchanged(t *testing.T) {
	eachThreads(func(list []impl.Thread) {
		var exchanged []impl.Thread
		for _, s := range list {
			exchanged = append(exchanged, impl.Thread{A: s.B, B: s.A})
		}
		want(t, "exchanged", all(impl.ExchangeThreads(list)), inOrder(exchanged), true)
		want(t, "exchanged back", all(impl.ExchangeThreads(inOrder(exchanged))), list, true)
		edge, _ := impl.EdgeThreads(list)
		other, ok := impl.EdgeThreads(inOrder(exchanged))
		want(t, "edge", all(len(other), ok), len(edge), true)
	})
	want(t, "one line up", all(impl.ExchangeThreads(threads(1, 3, 2, 2, 3, 1))), threads(1, 3, 2, 2, 3, 1), true)
	want(t, "equal A", all(impl.ExchangeThreads(threads(5, 1, 5, 2, 5, 9))), threads(1, 5, 2, 5, 9, 5), true)
	want(t, "equal B", all(impl.ExchangeThreads(threads(1, 5, 2, 5, 9, 5))), threads(5, 1, 5, 2, 5, 9), true)
	want(t, "new order", all(impl.ExchangeThreads(threads(1, 9, 2, 4, 3, 9, 4, 1))), threads(1, 4, 4, 2, 9, 1, 9, 3), true)
	want(t, "one", all(impl.ExchangeThreads(threads(1, 100))), threads(100, 1), true)
}

func TestAddedThreads(t *testing.T) {
	eachThreads(func(list []impl.Thread) {
		for k, s := range list {
			want(t, "add again", all(impl.AddThread(list, s)), noThreadList, false)
			if less := append(slices.Clone(list[:k]), list[k+1:]...); len(less) > 0 {
				want(t, "add", all(impl.AddThread(less, s)), list, true)
			}
		}
		for _, s := range noThreads {
			want(t, "add none", all(impl.AddThread(list, s)), noThreadList, false)
		}
	})
	list := threads(1, 3, 2, 2, 3, 1)
	want(t, "first", all(impl.AddThread(list, impl.Thread{A: 1, B: 2})), threads(1, 2, 1, 3, 2, 2, 3, 1), true)
	want(t, "second", all(impl.AddThread(list, impl.Thread{A: 1, B: 4})), threads(1, 3, 1, 4, 2, 2, 3, 1), true)
	want(t, "last", all(impl.AddThread(list, impl.Thread{A: 3, B: 2})), threads(1, 3, 2, 2, 3, 1, 3, 2), true)
	want(t, "twice", all(impl.AddThread(list, impl.Thread{A: 2, B: 2})), noThreadList, false)
	full := allThreads(100)[:30]
	want(t, "full", all(impl.AddThread(full, impl.Thread{A: 5, B: 6})), noThreadList, false)
	want(t, "nearly full", all(impl.AddThread(full[:29], impl.Thread{A: 5, B: 6})), append(slices.Clone(full[:29]), impl.Thread{A: 5, B: 6}), true)
	want(t, "nearly full, first", all(impl.AddThread(full[1:], full[0])), full, true)
}

func TestHidden(t *testing.T) {
	eachThreads(func(list []impl.Thread) {
		if len(list) == 1 {
			want(t, "alone", all(impl.HiddenThreads(list)), noNumbers, false)
			return
		}
		want(t, "hidden in "+plainThreadsText(list), all(impl.HiddenThreads(list)), plainHidden(list), true)
	})
	want(t, "one below", all(impl.HiddenThreads(threads(1, 1, 2, 2))), []int{0}, true)
	want(t, "just for its nail A", all(impl.HiddenThreads(threads(99, 100, 100, 1))), noNumbers, true)
	want(t, "just for its nail B", all(impl.HiddenThreads(threads(1, 100, 100, 99))), noNumbers, true)
	want(t, "none of two that cross", all(impl.HiddenThreads(threads(1, 2, 2, 1))), noNumbers, true)
	want(t, "one for the other", all(impl.HiddenThreads(tradedThreads())), []int{0, 1, 2, 3}, true)
	want(t, "neither without the other", all(impl.HiddenThreads(threads(1, 4, 3, 4, 4, 1))), []int{0}, true)
	want(t, "the point of both", all(impl.IsUnder(tradedThreads(), 1, 2)), true, true)
	want(t, "is beyond the others", all(impl.IsUnder(threads(1, 4, 4, 1), 1, 2)), false, true)
	want(t, "alone", all(impl.HiddenThreads(threads(100, 100))), noNumbers, false)
}

func TestThreadsTexts(t *testing.T) {
	eachThreads(func(list []impl.Thread) {
		want(t, "text", all(impl.ThreadsText(list)), plainThreadsText(list), true)
		want(t, "parse", all(impl.ParseThreads(plainThreadsText(list))), list, true)
	})
	want(t, "last", all(impl.ParseThreads("100:100")), threads(100, 100), true)
	want(t, "first", all(impl.ParseThreads("1:1")), threads(1, 1), true)
	for _, s := range noThreadsTexts() {
		want(t, "parse "+strconv.Quote(s[:min(40, len(s))]), all(impl.ParseThreads(s)), noThreadList, false)
	}
	for _, list := range noThreadLists() {
		want(t, "no text", all(impl.ThreadsText(list)), "", false)
		want(t, "no threads", all(impl.ParseThreads(plainThreadsText(list))), noThreadList, false)
	}
}

// noThreadsTexts returns texts of no threads.
func noThreadsTexts() []string {
	return []string{
		"", " ", ",", ":", "1", "1:", ":1", "1:2,", ",1:2", "1:2,,2:1", ",,", ":,:", "1:2 ", " 1:2", "1 :2", "1: 2", "1:2, 2:1", "1:2\n", "\t1:2", "1::2", "1:2:3",
		":1:2", "1:2:", "1-2", "1;2", "1.2", "1,2", "1/2", "1:2;2:1", "1:2.2:1", "1:2 2:1", "1:2-2:1", "0:1", "1:0", "0:0", "101:1", "1:101", "100:101", "1:2,2:101",
		"1:2,1:2", "2:1,1:2", "1:2,1:1", "1:3,2:2,1:4", "01:2", "1:02", "1:2,02:1", "00:1", "+1:2", "1:+2", "-1:2", "1:-2", "-1:-2", "1:2,+2:1", "1:2,2:-1",
		"0x1:2", "1:0x2", "1:1_0", "1e1:2", "1.0:2", "a:b", "1:b", "1:2,x", "1:2,x:1", "18446744073709551617:2", "1:18446744073709551617", "4294967297:1",
		"1:99999999999999999999999", "٠:١", "１:２", "1∶2", "1:2\x00", "\x001:2", "\xff", "1:2,\xff", "{1:2}", "1:2,2:1,3", plainThreadsText(allThreads(6)[:31]),
		strings.Repeat("1:2,", 100000), strings.Repeat(",", 100000), strings.Repeat(":", 100000), strings.Repeat("9", 100000), strings.Repeat("0", 100000) + "1:2",
	}
}

// checkNoThreads checks that all calls with a list that is none of threads fail.
func checkNoThreads(t *testing.T, list []impl.Thread) {
	t.Helper()
	want(t, "are threads", all(impl.AreThreads(list)), false)
	want(t, "count", all(impl.CountMeetings(list)), 0, false)
	want(t, "on thread", all(impl.MeetingsOnThread(list, 0)), noNumbers, false)
	want(t, "highest", all(impl.HighestAt(list, 0)), 0, 0, 0, false)
	want(t, "highest at 1", all(impl.HighestAt(list, 1)), 0, 0, 0, false)
	want(t, "edge", all(impl.EdgeThreads(list)), noNumbers, false)
	want(t, "corners", all(impl.EdgeCorners(list)), noPoints, false)
	want(t, "under", all(impl.IsUnder(list, 0, 0)), false, false)
	want(t, "count under", all(impl.CountUnder(list)), 0, false)
	want(t, "scale", all(impl.ScaleThreads(list, 1)), noThreadList, false)
	want(t, "exchange", all(impl.ExchangeThreads(list)), noThreadList, false)
	want(t, "add", all(impl.AddThread(list, impl.Thread{A: 1, B: 2})), noThreadList, false)
	want(t, "add last", all(impl.AddThread(list, impl.Thread{A: 100, B: 99})), noThreadList, false)
	want(t, "hidden", all(impl.HiddenThreads(list)), noNumbers, false)
	want(t, "text", all(impl.ThreadsText(list)), "", false)
}

func TestFailsForNoThreads(t *testing.T) {
	for _, list := range noThreadLists() {
		checkNoThreads(t, list)
	}
}

func TestFailsForNoThread(t *testing.T) {
	for _, s := range noThreads {
		for _, other := range append(threads(1, 1, 1, 100, 100, 1, 2, 2, 100, 100), noThreads...) {
			want(t, "meet", all(impl.DoThreadsMeet(s, other)), false, false)
			want(t, "meet the other way", all(impl.DoThreadsMeet(other, s)), false, false)
			want(t, "meeting", all(impl.MeetingOf(s, other)), noNumbers, false)
			want(t, "meeting the other way", all(impl.MeetingOf(other, s)), noNumbers, false)
		}
		for _, x := range nailNumbers {
			want(t, "height", all(impl.HeightOf(s, x)), 0, 0, false)
		}
		want(t, "triangle", all(impl.DoubleTriangle(s)), 0, false)
	}
}

func TestFailsForNoPlace(t *testing.T) {
	for _, n := range nailNumbers {
		if n >= 0 && n <= 100 {
			continue
		}
		for _, s := range threads(1, 1, 1, 100, 100, 1, 7, 9, 100, 100) {
			want(t, "height", all(impl.HeightOf(s, n)), 0, 0, false)
		}
		for _, list := range namedThreads() {
			want(t, "highest", all(impl.HighestAt(list, n)), 0, 0, 0, false)
			for _, m := range nailNumbers {
				want(t, "no x", all(impl.IsUnder(list, n, m)), false, false)
				want(t, "no y", all(impl.IsUnder(list, m, n)), false, false)
			}
		}
	}
}
