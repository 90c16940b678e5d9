package tests

import (
	"math"
	"slices"
	"testing"

	"loop.example/g01324/impl"
)

// gearNumbers are numbers at and beyond every limit of chapter 5, and numbers of 32 bits that would be less without the bits above.
var gearNumbers = []int{
	math.MinInt, math.MinInt + 1, math.MinInt32, -1000001, -1000, -301, -300, -3, -2, -1, 0, 1, 2, 3, 4, 12, 60, 61, 299, 300, 301, 302,
	1000, 1001, 999999, 1000000, 1000001, 1 << 32, 1<<32 + 12, math.MaxInt - 1, math.MaxInt,
}

// noTrains are lists that are too short or too long for a train, or have wheels that no train has.
var noTrains = [][]int{
	nil, {}, {12}, {300}, {1, 2, 3, 4, 5, 6, 7}, {1, 1, 1, 1, 1, 1, 1}, make([]int, 2), make([]int, 6), make([]int, 1000), {0, 12}, {12, 0}, {-1, 12}, {12, -12},
	{301, 12}, {12, 301}, {12, 8, 301}, {12, 8, 0}, {12, 8, 16, 0, 4, 6}, {12, 8, 16, 4, 6, 301}, {math.MaxInt, 12}, {12, math.MaxInt}, {math.MinInt, 12},
	{12, math.MinInt}, {math.MinInt, math.MinInt}, {math.MaxInt, math.MaxInt, math.MaxInt}, {12, 8, 1<<32 + 16},
}

// farTrains are the trains whose periods are the greatest one that is told, and the least one that is not.
var farTrains = [][]int{{169, 103, 97, 73, 61, 133}, {199, 173, 139, 107, 279, 7}}

// roll rolls a wheel on until it is as at first, and tells of each step the teeth of the ring and of the wheel that meet.
func roll(ring int, wheel int) [][2]int {
	var met [][2]int
	for a, b := 0, 0; len(met) == 0 || a != 0 || b != 0; {
		met = append(met, [2]int{a, b})
		if a++; a == ring {
			a = 0
		}
		if b++; b == wheel {
			b = 0
		}
	}
	return met
}

// plainCusps tells which teeth of the ring the tooth 0 of the wheel meets, in turn.
func plainCusps(met [][2]int) []int {
	var cusps []int
	for _, pair := range met {
		if pair[1] == 0 {
			cusps = append(cusps, pair[0])
		}
	}
	return cusps
}

// plainRounds counts the steps at which the wheel is at the tooth 0 of the ring.
func plainRounds(met [][2]int) int {
	rounds := 0
	for _, pair := range met {
		if pair[0] == 0 {
			rounds++
		}
	}
	return rounds
}

// sorted returns the numbers of a list in order.
func sorted(list []int) []int {
	list = slices.Clone(list)
	slices.Sort(list)
	return list
}

// eachGear calls a check with rings and all their wheels, and the teeth that meet.
func eachGear(rings []int, check func(ring int, wheel int, met [][2]int)) {
	for _, ring := range rings {
		for wheel := 1; wheel < ring; wheel++ {
			check(ring, wheel, roll(ring, wheel))
		}
	}
}

// ringsUpTo returns the numbers of teeth of rings up to a greatest one.
func ringsUpTo(most int) []int { return upTo(most)[2:] }

func TestGearsExample(t *testing.T) {
	want(t, "petals", all(impl.PetalsOf(12, 8)), 3, true)
	want(t, "rounds", all(impl.RoundsOf(12, 8)), 2, true)
	want(t, "spins", all(impl.SpinsOf(12, 8, true)), 1, true)
	want(t, "spins outside", all(impl.SpinsOf(12, 8, false)), 5, true)
	want(t, "cusps", all(impl.CuspsOf(12, 8)), []int{0, 8, 4}, true)
	want(t, "star", all(impl.StarOfGears(12, 8)), impl.Star{Points: 3, Step: 2}, true)
	want(t, "step 1", all(impl.FirstMeeting(12, 8, 1, 1)), 1, true)
	want(t, "step 12", all(impl.FirstMeeting(12, 8, 0, 4)), 12, true)
	want(t, "never", all(impl.FirstMeeting(12, 8, 1, 2)), 0, false)
	want(t, "never meet", all(impl.DoMeet(12, 8, 1, 2)), false, true)
	want(t, "wheels", all(impl.WheelsFor(12, 4)), []int{3, 9}, true)
	want(t, "same", all(impl.SameCusps(12, 3, 9)), true, true)
	want(t, "turns", all(impl.TrainTurns([]int{12, 8, 16}, 1)), []int{1, -3, 3}, []int{1, 2, 4}, true)
	want(t, "period", all(impl.TrainPeriod([]int{12, 8, 16})), 48, true)
	want(t, "least turns", all(impl.LeastTurns([]int{12, 8, 16})), 4, true)
}

func TestPetalsAndRoundsAreThoseOfTeethThatMeet(t *testing.T) {
	eachGear(append(ringsUpTo(40), 60, 61, 64, 120, 299, 300), func(ring int, wheel int, met [][2]int) {
		petals, rounds := len(plainCusps(met)), plainRounds(met)
		want(t, "petals", all(impl.PetalsOf(ring, wheel)), petals, true)
		want(t, "rounds", all(impl.RoundsOf(ring, wheel)), rounds, true)
		want(t, "spins inside", all(impl.SpinsOf(ring, wheel, true)), petals-rounds, true)
		want(t, "spins outside", all(impl.SpinsOf(ring, wheel, false)), petals+rounds, true)
	})
	want(t, "wheel of a tooth", all(impl.PetalsOf(300, 1)), 300, true)
	want(t, "rounds of a tooth", all(impl.RoundsOf(300, 1)), 1, true)
	want(t, "spins of a tooth", all(impl.SpinsOf(300, 1, true)), 299, true)
	want(t, "greatest wheel", all(impl.PetalsOf(300, 299)), 300, true)
	want(t, "its rounds", all(impl.RoundsOf(300, 299)), 299, true)
	want(t, "its spins", all(impl.SpinsOf(300, 299, true)), 1, true)
	want(t, "its spins outside", all(impl.SpinsOf(300, 299, false)), 599, true)
	want(t, "half a ring", all(impl.PetalsOf(300, 150)), 2, true)
	want(t, "least ring", all(impl.PetalsOf(3, 2)), 3, true)
	want(t, "its rounds", all(impl.RoundsOf(3, 2)), 2, true)
}

func TestTeethAt(t *testing.T) {
	eachGear(append(ringsUpTo(13), 60), func(ring int, wheel int, met [][2]int) {
		for step := range len(met) + 3 {
			pair := met[step%len(met)]
			want(t, "teeth", all(impl.TeethAt(ring, wheel, step)), pair[0], pair[1], true)
		}
	})
	eachGear([]int{3, 4, 7, 12, 61, 299, 300}, func(ring int, wheel int, met [][2]int) {
		for _, step := range []int{0, 299, 300, 89700, 999999, 1000000} {
			pair := met[step%len(met)]
			want(t, "teeth", all(impl.TeethAt(ring, wheel, step)), pair[0], pair[1], true)
		}
	})
	want(t, "step 0", all(impl.TeethAt(300, 299, 0)), 0, 0, true)
	want(t, "last step", all(impl.TeethAt(300, 299, 1000000)), 100, 144, true)
	want(t, "wheel of a tooth", all(impl.TeethAt(3, 1, 1000000)), 1, 0, true)
}

// checkMeetings checks the teeth of the wheel that meet one of the ring.
func checkMeetings(t *testing.T, ring int, wheel int, a int, met [][2]int) {
	t.Helper()
	var teeth []int
	for b := range wheel {
		first := slices.IndexFunc(met, func(pair [2]int) bool { return pair[0] == a && pair[1] == b })
		want(t, "meet", all(impl.DoMeet(ring, wheel, a, b)), first >= 0, true)
		want(t, "first", all(impl.FirstMeeting(ring, wheel, a, b)), max(first, 0), first >= 0)
		if first >= 0 {
			teeth = append(teeth, b)
		}
	}
	want(t, "meetings", all(impl.MeetingsOf(ring, wheel, a)), teeth, true)
}

func TestMeetings(t *testing.T) {
	eachGear(ringsUpTo(24), func(ring int, wheel int, met [][2]int) {
		for a := range ring {
			checkMeetings(t, ring, wheel, a, met)
		}
	})
	for _, wheel := range []int{1, 2, 120, 150, 200, 299} {
		for _, a := range []int{0, 1, 298, 299} {
			checkMeetings(t, 300, wheel, a, roll(300, wheel))
		}
	}
	want(t, "at once", all(impl.FirstMeeting(300, 299, 0, 0)), 0, true)
	want(t, "last of all", all(impl.FirstMeeting(300, 299, 299, 298)), 89699, true)
	want(t, "wheel of a tooth", all(impl.MeetingsOf(300, 1, 299)), []int{0}, true)
	want(t, "odd teeth", all(impl.MeetingsOf(12, 8, 5)), []int{1, 5}, true)
	want(t, "never", all(impl.DoMeet(300, 150, 0, 149)), false, true)
}

func TestCusps(t *testing.T) {
	eachGear(append(ringsUpTo(30), 60, 61, 120, 299, 300), func(ring int, wheel int, met [][2]int) {
		want(t, "cusps", all(impl.CuspsOf(ring, wheel)), plainCusps(met), true)
	})
	want(t, "wheel of a tooth", all(impl.CuspsOf(4, 1)), []int{0, 1, 2, 3}, true)
	want(t, "greatest wheel", all(impl.CuspsOf(4, 3)), []int{0, 3, 2, 1}, true)
	want(t, "half a ring", all(impl.CuspsOf(300, 150)), []int{0, 150}, true)
	want(t, "least ring", all(impl.CuspsOf(3, 2)), []int{0, 2, 1}, true)
}

func TestSameCusps(t *testing.T) {
	for _, ring := range append(ringsUpTo(30), 120, 299, 300) {
		byWheel := make([][]int, ring)
		eachGear([]int{ring}, func(ring int, wheel int, met [][2]int) { byWheel[wheel] = sorted(plainCusps(met)) })
		for wheel := 1; wheel < ring; wheel++ {
			for other := 1; other < ring; other += 1 + ring/30 {
				want(t, "same", all(impl.SameCusps(ring, wheel, other)), slices.Equal(byWheel[wheel], byWheel[other]), true)
			}
		}
	}
	want(t, "itself", all(impl.SameCusps(300, 7, 7)), true, true)
	want(t, "all teeth", all(impl.SameCusps(300, 1, 299)), true, true)
	want(t, "last tooth", all(impl.SameCusps(300, 150, 299)), false, true)
	want(t, "least ring", all(impl.SameCusps(3, 1, 2)), true, true)
}

func TestWheelsFor(t *testing.T) {
	for _, ring := range append(ringsUpTo(30), 60, 120, 299, 300) {
		byPetals := map[int][]int{}
		eachGear([]int{ring}, func(ring int, wheel int, met [][2]int) {
			petals := len(plainCusps(met))
			byPetals[petals] = append(byPetals[petals], wheel)
		})
		for petals := 1; petals <= 300; petals++ {
			want(t, "wheels", all(impl.WheelsFor(ring, petals)), byPetals[petals], true)
		}
	}
	want(t, "one petal", all(impl.WheelsFor(12, 1)), noNumbers, true)
	want(t, "two petals", all(impl.WheelsFor(12, 2)), []int{6}, true)
	want(t, "all petals", all(impl.WheelsFor(12, 12)), []int{1, 5, 7, 11}, true)
	want(t, "more petals than teeth", all(impl.WheelsFor(12, 300)), noNumbers, true)
}

func TestStarOfGears(t *testing.T) {
	eachGear(append(ringsUpTo(70), 120, 180, 299, 300), func(ring int, wheel int, met [][2]int) {
		cusps := plainCusps(met)
		s, ok := impl.StarOfGears(ring, wheel)
		if len(cusps) < 3 || len(cusps) > 60 {
			want(t, "no star", all(s, ok), impl.Star{}, false)
			return
		}
		points := make([]int, len(cusps))
		for i, cusp := range cusps {
			points[i] = slices.Index(sorted(cusps), cusp)
		}
		want(t, "star", all(s.Points, ok), len(cusps), true)
		want(t, "string", all(impl.StringOf(s, 0)), points, true)
	})
	want(t, "two petals", all(impl.StarOfGears(4, 2)), impl.Star{}, false)
	want(t, "three petals", all(impl.StarOfGears(300, 100)), impl.Star{Points: 3, Step: 1}, true)
	want(t, "60 petals", all(impl.StarOfGears(300, 295)), impl.Star{Points: 60, Step: 59}, true)
	want(t, "61 petals", all(impl.StarOfGears(61, 60)), impl.Star{}, false)
	want(t, "300 petals", all(impl.StarOfGears(300, 1)), impl.Star{}, false)
	want(t, "least ring", all(impl.StarOfGears(3, 1)), impl.Star{Points: 3, Step: 1}, true)
}

// someTrains returns trains whose periods are short: all those with few teeth of two and three wheels, and others.
func someTrains() [][]int {
	trains := [][]int{
		{1, 1}, {300, 300}, {300, 1}, {1, 300}, {12, 8, 16}, {2, 3, 5, 7}, {12, 12, 12, 12, 12, 12}, {1, 1, 1, 1, 1, 1}, {300, 150, 100, 75, 60, 50},
		{2, 4, 8, 16, 32, 64}, {1, 2, 3, 4, 5, 6}, {6, 5, 4, 3, 2, 1}, {299, 23, 13}, {4, 6, 9, 12, 18, 36}, {7, 7, 1, 7}, {10, 15, 6, 10, 15},
	}
	for a := 1; a <= 9; a++ {
		for b := 1; b <= 9; b++ {
			trains = append(trains, []int{a, b})
			for c := 1; c <= 4; c++ {
				trains = append(trains, []int{a, b, c})
			}
		}
	}
	return trains
}

// plainTrain moves a train on tooth by tooth until all wheels are as at first, and tells of each step the teeth that are where the teeth 0 were.
func plainTrain(train []int) [][]int {
	var steps [][]int
	at := make([]int, len(train))
	for len(steps) == 0 || slices.Max(at) > 0 {
		steps = append(steps, slices.Clone(at))
		for i, teeth := range train {
			if i == 0 || i == 2 || i == 4 {
				at[i] = (at[i] + 1) % teeth
			} else if at[i]--; at[i] < 0 {
				at[i] = teeth - 1
			}
		}
	}
	return steps
}

func TestTrainsComeBackBehindTheirPeriod(t *testing.T) {
	for _, train := range someTrains() {
		steps := plainTrain(train)
		want(t, "period", all(impl.TrainPeriod(train)), len(steps), true)
		want(t, "least turns", all(impl.LeastTurns(train)), len(steps)/train[0], true)
		for step := range len(steps) + 2 {
			want(t, "teeth", all(impl.TrainTeeth(train, step)), steps[step%len(steps)], true)
		}
		for _, step := range []int{299, 300, 999999, 1000000} {
			want(t, "teeth", all(impl.TrainTeeth(train, step)), steps[step%len(steps)], true)
		}
	}
	want(t, "other way", all(impl.TrainTeeth([]int{12, 8, 16, 300}, 1)), []int{1, 7, 1, 299}, true)
	want(t, "step 0", all(impl.TrainTeeth([]int{12, 8, 16, 300}, 0)), []int{0, 0, 0, 0}, true)
	want(t, "last step", all(impl.TrainTeeth([]int{300, 299, 299, 1, 7, 7}, 1000000)), []int{100, 155, 144, 0, 1, 6}, true)
}

// plainPeriod tells by the greatest powers of numbers without divisors that divide wheels when these are as at first.
func plainPeriod(train []int) int {
	period := 1
	for p := 2; p <= 300; p++ {
		if slices.ContainsFunc(upTo(p - 1)[1:], func(d int) bool { return p%d == 0 }) {
			continue
		}
		most := 1
		for power := p; power <= 300; power *= p {
			if slices.ContainsFunc(train, func(teeth int) bool { return teeth%power == 0 }) {
				most = power
			}
		}
		period *= most
	}
	return period
}

func TestLongPeriods(t *testing.T) {
	want(t, "below", all(impl.TrainPeriod(farTrains[0])), 999999999271, true)
	want(t, "turns below", all(impl.LeastTurns(farTrains[0])), 999999999271/169, true)
	want(t, "above", all(impl.TrainPeriod(farTrains[1])), 0, false)
	want(t, "turns above", all(impl.LeastTurns(farTrains[1])), 0, false)
	if plainPeriod(farTrains[1]) != 1000000001763 {
		t.Error("the period is", plainPeriod(farTrains[1]))
	}
	longest := []int{300, 299, 293, 289, 287, 283}
	want(t, "longest", all(impl.TrainPeriod(longest)), 0, false)
	want(t, "longest turns", all(impl.LeastTurns(longest)), 0, false)
	for first := 1; first <= 300; first++ {
		for _, train := range [][]int{{first, 300}, {first, 299, 300}, {first, 97, 101, 300 - first + 1}, {first, first, first, first, first, first}, {60, first, 49, 121, 13, 17}, {first, 289, 293, 277, 256, 3}} {
			period, fits := plainPeriod(train), true
			if period > 1000000000000 {
				period, fits = 0, false
			}
			want(t, "period", all(impl.TrainPeriod(train)), period, fits)
			want(t, "turns", all(impl.LeastTurns(train)), period/train[0], fits)
		}
	}
}

func TestTrainTurns(t *testing.T) {
	for _, train := range append(someTrains(), farTrains...) {
		for _, turns := range []int{-1000, -999, -7, -2, -1, 0, 1, 2, 3, 60, 999, 1000} {
			above, below, ok := impl.TrainTurns(train, turns)
			want(t, "told", all(len(above), len(below), ok), len(train), len(train), true)
			way := 1
			for i, teeth := range train {
				// Each wheel moves on by as many teeth as the first one, the next one the other way around.
				if below[i] < 1 || above[i]*teeth != way*turns*train[0]*below[i] || plainDivisor(below[i], above[i]) != 1 {
					t.Error("train", train, turns, "turns", above, below)
				}
				way = -way
			}
		}
	}
	want(t, "no turn", all(impl.TrainTurns([]int{12, 8, 16}, 0)), []int{0, 0, 0}, []int{1, 1, 1}, true)
	want(t, "back", all(impl.TrainTurns([]int{12, 8, 16}, -1)), []int{-1, 3, -3}, []int{1, 2, 4}, true)
	want(t, "most turns", all(impl.TrainTurns([]int{300, 1, 299}, 1000)), []int{1000, -300000, 300000}, []int{1, 1, 299}, true)
	want(t, "most back", all(impl.TrainTurns([]int{300, 1, 299}, -1000)), []int{-1000, 300000, -300000}, []int{1, 1, 299}, true)
	want(t, "equal", all(impl.TrainTurns([]int{7, 7, 7, 7, 7, 7}, 3)), []int{3, -3, 3, -3, 3, -3}, []int{1, 1, 1, 1, 1, 1}, true)
	want(t, "a tooth each", all(impl.TrainTurns([]int{1, 1}, 1)), []int{1, -1}, []int{1, 1}, true)
	want(t, "no whole number", all(impl.TrainTurns([]int{1, 300}, 100)), []int{100, -1}, []int{1, 3}, true)
}

// eachTeeth calls a check with each list of teeth of a train.
func eachTeeth(train []int, check func(at []int)) {
	at := make([]int, len(train))
	for i := 0; i < len(train); {
		if i == 0 {
			check(at)
		}
		if at[i]++; at[i] < train[i] {
			i = 0
			continue
		}
		at[i] = 0
		i++
	}
}

func TestAreInGear(t *testing.T) {
	for _, train := range append(someTrains(), []int{6, 10, 15}, []int{4, 6, 9, 12}, []int{3, 3, 3, 3, 3, 3}) {
		room := 1
		for _, teeth := range train {
			room *= teeth
		}
		if room > 10000 {
			continue
		}
		steps := plainTrain(train)
		eachTeeth(train, func(at []int) {
			isReached := slices.ContainsFunc(steps, func(step []int) bool { return slices.Equal(step, at) })
			want(t, "in gear", all(impl.AreInGear(train, at)), isReached, true)
		})
	}
	want(t, "at first", all(impl.AreInGear([]int{300, 300}, []int{0, 0})), true, true)
	want(t, "other way", all(impl.AreInGear([]int{300, 300}, []int{1, 299})), true, true)
	want(t, "same way", all(impl.AreInGear([]int{300, 300}, []int{1, 1})), false, true)
	want(t, "third the first way", all(impl.AreInGear([]int{12, 8, 12}, []int{1, 7, 1})), true, true)
	want(t, "third the other way", all(impl.AreInGear([]int{12, 8, 12}, []int{1, 7, 11})), false, true)
}

func TestFarStepsAreInGear(t *testing.T) {
	for _, train := range [][]int{{300, 299, 293, 289, 287, 283}, {300, 300, 300, 300, 300, 300}, {300, 150, 100, 75, 60, 50}, {256, 243, 250, 289, 242, 169}, farTrains[0], farTrains[1]} {
		for _, steps := range []int{0, 1, 1000001, 123456789012345, 728999999999999} {
			at := make([]int, len(train))
			for i, teeth := range train {
				at[i] = steps % teeth
				if i == 1 || i == 3 || i == 5 {
					at[i] = (teeth - at[i]) % teeth
				}
			}
			want(t, "far", all(impl.AreInGear(train, at)), true, true)
			// Just wheels that have no common divisor with the others may be moved on their own.
			for i, teeth := range train {
				moved := slices.Clone(at)
				moved[i] = (moved[i] + 1) % teeth
				alone := true
				for k, other := range train {
					alone = alone && (k == i || plainDivisor(teeth, other) == 1)
				}
				want(t, "moved", all(impl.AreInGear(train, moved)), alone, true)
			}
		}
	}
}

// checkNoGear checks that all calls with numbers that are none of a ring and a wheel fail.
func checkNoGear(t *testing.T, ring int, wheel int) {
	t.Helper()
	want(t, "petals", all(impl.PetalsOf(ring, wheel)), 0, false)
	want(t, "rounds", all(impl.RoundsOf(ring, wheel)), 0, false)
	want(t, "inside", all(impl.SpinsOf(ring, wheel, true)), 0, false)
	want(t, "outside", all(impl.SpinsOf(ring, wheel, false)), 0, false)
	want(t, "teeth", all(impl.TeethAt(ring, wheel, 0)), 0, 0, false)
	want(t, "teeth 1", all(impl.TeethAt(ring, wheel, 1)), 0, 0, false)
	want(t, "meet", all(impl.DoMeet(ring, wheel, 0, 0)), false, false)
	want(t, "first", all(impl.FirstMeeting(ring, wheel, 0, 0)), 0, false)
	want(t, "first 1", all(impl.FirstMeeting(ring, wheel, 1, 1)), 0, false)
	want(t, "meetings", all(impl.MeetingsOf(ring, wheel, 0)), noNumbers, false)
	want(t, "cusps", all(impl.CuspsOf(ring, wheel)), noNumbers, false)
	want(t, "star", all(impl.StarOfGears(ring, wheel)), impl.Star{}, false)
	want(t, "same", all(impl.SameCusps(ring, wheel, 1)), false, false)
	want(t, "same other", all(impl.SameCusps(ring, 1, wheel)), false, false)
	want(t, "same twice", all(impl.SameCusps(ring, wheel, wheel)), false, false)
}

func TestFailsForNoGear(t *testing.T) {
	for _, ring := range gearNumbers {
		for _, wheel := range append([]int{ring, ring - 1, ring + 1, -ring}, gearNumbers...) {
			if ring < 3 || ring > 300 || wheel < 1 || wheel >= ring {
				checkNoGear(t, ring, wheel)
			}
		}
		for _, petals := range gearNumbers {
			if ring < 3 || ring > 300 || petals < 1 || petals > 300 {
				want(t, "wheels", all(impl.WheelsFor(ring, petals)), noNumbers, false)
			}
		}
	}
}

func TestFailsForNoToothOrStep(t *testing.T) {
	for _, gear := range [][]int{{3, 1}, {3, 2}, {12, 8}, {12, 1}, {300, 1}, {300, 150}, {300, 299}} {
		ring, wheel := gear[0], gear[1]
		for _, n := range append([]int{ring, ring + 1, -ring, wheel, wheel + 1}, gearNumbers...) {
			if n < 0 || n >= ring {
				want(t, "no tooth a", all(impl.DoMeet(ring, wheel, n, 0)), false, false)
				want(t, "no first a", all(impl.FirstMeeting(ring, wheel, n, 0)), 0, false)
				want(t, "no meetings", all(impl.MeetingsOf(ring, wheel, n)), noNumbers, false)
			}
			if n < 0 || n >= wheel {
				want(t, "no tooth b", all(impl.DoMeet(ring, wheel, 0, n)), false, false)
				want(t, "no first b", all(impl.FirstMeeting(ring, wheel, 0, n)), 0, false)
			}
			if n < 0 || n > 1000000 {
				want(t, "no step", all(impl.TeethAt(ring, wheel, n)), 0, 0, false)
			}
		}
	}
}

func TestFailsForNoTrain(t *testing.T) {
	for _, train := range noTrains {
		for _, n := range []int{-1, 0, 1, 1000} {
			want(t, "turns", all(impl.TrainTurns(train, n)), noNumbers, noNumbers, false)
			want(t, "teeth", all(impl.TrainTeeth(train, n)), noNumbers, false)
		}
		want(t, "period", all(impl.TrainPeriod(train)), 0, false)
		want(t, "least", all(impl.LeastTurns(train)), 0, false)
		want(t, "in gear", all(impl.AreInGear(train, make([]int, len(train)))), false, false)
		want(t, "in gear with two", all(impl.AreInGear(train, []int{0, 0})), false, false)
	}
}

func TestFailsForOtherCountsOfTrains(t *testing.T) {
	for _, train := range [][]int{{1, 1}, {12, 8, 16}, {300, 299, 298, 297, 296, 295}, farTrains[1]} {
		for _, n := range gearNumbers {
			if n < -1000 || n > 1000 {
				want(t, "turns", all(impl.TrainTurns(train, n)), noNumbers, noNumbers, false)
			}
			if n < 0 || n > 1000000 {
				want(t, "teeth", all(impl.TrainTeeth(train, n)), noNumbers, false)
			}
			for i, teeth := range train {
				at := make([]int, len(train))
				at[i] = n
				if n < 0 || n >= teeth {
					want(t, "in gear", all(impl.AreInGear(train, at)), false, false)
				}
				at[i] = teeth
				want(t, "in gear", all(impl.AreInGear(train, at)), false, false)
			}
		}
		for _, count := range []int{0, 1, len(train) - 1, len(train) + 1, 7, 1000} {
			want(t, "too short or too long", all(impl.AreInGear(train, make([]int, count))), false, false)
		}
	}
}
