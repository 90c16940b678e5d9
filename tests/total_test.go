package tests

import (
	"reflect"
	"slices"
	"strings"
	"testing"

	"loop.example/g01324/impl"
)

// starCalls returns the results of all calls of chapter 1 with the same numbers.
func starCalls(s impl.Star, p int, q int) []any {
	c, d := impl.Chord{A: p, B: q}, impl.Chord{A: q, B: p}
	calls := [][]any{
		all(impl.IsStar(s)), all(impl.NextPoint(s, p)), all(impl.PointAfter(s, p, q)), all(impl.StringOf(s, p)), all(impl.StringsOf(s)),
		all(impl.CountStrings(s)), all(impl.ChordsOf(s)), all(impl.AreCrossing(s.Points, c, c)), all(impl.AreCrossing(s.Points, c, d)),
		all(impl.CrossingsOn(s, c)), all(impl.CrossingsOn(s, d)), all(impl.CountCrossings(s)), all(impl.TurnsOf(s)), all(impl.SmallStep(s)),
		all(impl.StarsOf(p)), all(impl.OneString(p)), all(impl.StepsBetween(s, p, q)), all(impl.StepTo(s.Points, p, q, s.Step)),
		all(impl.StepTo(p, q, s.Points, s.Step)), all(impl.TurnedStar(s, p)), all(impl.StarText(s)),
	}
	return slices.Concat(calls...)
}

// checkZero checks of results, each group of which ends with a bool, that those of failed calls are zero.
func checkZero(t *testing.T, results []any) {
	t.Helper()
	for i := 1; i < len(results); i++ {
		ok, isBool := results[i].(bool)
		if !isBool || ok {
			continue
		}
		if v := reflect.ValueOf(results[i-1]); v.Kind() != reflect.Bool && !v.IsZero() && !isEmptySlice(results[i-1]) {
			t.Error("a failed call returns", results[i-1])
		}
	}
}

func TestStarsAcceptAllArguments(t *testing.T) {
	few := []int{edgeNumbers[0], -1, 0, 1, 2, 3, 5, 59, 60, 61, 1000000, 1000001, edgeNumbers[len(edgeNumbers)-1]}
	for _, points := range edgeNumbers {
		for _, step := range edgeNumbers {
			for _, p := range few {
				for _, q := range few {
					checkZero(t, starCalls(impl.Star{Points: points, Step: step}, p, q))
				}
			}
		}
	}
}

func TestStarTextsAcceptAllBytes(t *testing.T) {
	for b := range 256 {
		for i := range len("{5/2}") + 1 {
			for _, told := range []string{"{5/2}"[:i] + string([]byte{byte(b)}) + "{5/2}"[i:], "{5/2}"[:max(i-1, 0)] + string([]byte{byte(b)}) + "{5/2}"[i:]} {
				s, ok := impl.ParseStar(told)
				if back, fine := impl.StarText(s); ok != fine || ok && back != told || !ok && s != (impl.Star{}) {
					t.Errorf("%q is %v, %v", told, s, ok)
				}
			}
		}
	}
	want(t, "long", all(impl.ParseStar("{"+strings.Repeat("5", 100000)+"/2}")), impl.Star{}, false)
	want(t, "many braces", all(impl.ParseStar(strings.Repeat("{", 100000)+"5/2}")), impl.Star{}, false)
}

func TestStarResultsAreNew(t *testing.T) {
	s := impl.Star{Points: 12, Step: 8}
	for range 2 {
		// Each result is spoilt after it was checked: a second call must not see that.
		lists, _ := impl.StringsOf(s)
		want(t, "strings", all(lists), [][]int{{0, 8, 4}, {1, 9, 5}, {2, 10, 6}, {3, 11, 7}})
		for i := range lists {
			lists[i] = append(lists[i], -1)
			lists[i][0] = -1
		}
		for _, list := range lists {
			if len(list) != 4 || slices.Contains(list[1:3], -1) {
				t.Error("strings share memory", lists)
			}
		}
		list, _ := impl.StringOf(s, 1)
		want(t, "string", all(list), []int{1, 9, 5})
		list[0] = -1
		steps, _ := impl.StarsOf(12)
		want(t, "steps", all(steps), []int{1, 2, 3, 4, 5, 6})
		steps[0] = -1
		single, _ := impl.OneString(12)
		want(t, "single", all(single), []int{1, 5})
		single[0] = -1
		chords, _ := impl.ChordsOf(s)
		want(t, "chords", all(chords), plainChords(s))
		chords[0] = impl.Chord{}
		turned, _ := impl.TurnedStar(s, 7)
		want(t, "turned", all(turned), plainChords(s))
		turned[0] = impl.Chord{}
	}
}

func TestSameCallsAgree(t *testing.T) {
	s := impl.Star{Points: 60, Step: 26}
	first := starCalls(s, 3, 29)
	for range 50 {
		want(t, "again", starCalls(s, 3, 29), first...)
	}
}
