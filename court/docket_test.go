package court_test

import (
	"math"
	"math/rand/v2"
	"slices"
	"testing"

	"merestone/api"
	"merestone/court"
	"merestone/expect"
)

// states fails unless a case has the states on the days.
func states(t *testing.T, name string, l []api.Step, id int, want map[int]uint8) {
	t.Helper()
	check(t, name, wide(), l, 0, api.OK)
	for day, state := range want {
		if got := court.Case(l, id, day); got != state {
			t.Errorf("%s: Case on the day %d: %d, want %d", name, day, got, state)
		}
	}
}

// H7: each state from its day on.
func TestCase(t *testing.T) {
	l := inState(api.CaseFinal)
	states(t, "a case", l, 3, map[int]uint8{
		math.MinInt: api.CaseNone, -1: api.CaseNone, 0: api.CaseNone, 1: api.CaseNone, 2: api.CaseOpen, 29: api.CaseOpen, 30: api.CaseTold, 59: api.CaseTold, 60: api.CaseFought, 89: api.CaseFought,
		90: api.CaseViewed, 99: api.CaseViewed, 100: api.CaseRuled, 160: api.CaseRuled, 161: api.CaseFinal, 100000: api.CaseFinal, math.MaxInt: api.CaseFinal,
	})
	for _, id := range []int{math.MinInt, -1, 0, 1, 2, 4, 5, 6, 7, 9, math.MaxInt} {
		states(t, "no case", l, id, map[int]uint8{100: api.CaseNone, 200: api.CaseNone})
	}
	states(t, "another case", l, 8, map[int]uint8{160: api.CaseNone, 161: api.CaseOpen, 300: api.CaseOpen})
	states(t, "told for long", inState(api.CaseTold), 3, map[int]uint8{30: api.CaseTold, 61: api.CaseTold, 1000: api.CaseTold})
	states(t, "an appeal", inState(api.CaseAppealed), 3, map[int]uint8{99: api.CaseViewed, 100: api.CaseAppealed, 161: api.CaseAppealed})
	states(t, "a fallen one", inState(api.CaseFallen), 3, map[int]uint8{99: api.CaseViewed, 100: api.CaseFallen, 161: api.CaseFallen})
}

// H7, P8.5: a final case becomes a fallen one, one that is ruled anew, and final again.
func TestFinalAndFallen(t *testing.T) {
	l := followed(inState(api.CaseFinal), withdraw(170, 1), rule(180, 3, api.AwardOpen))
	states(t, "a case", l, 3, map[int]uint8{161: api.CaseFinal, 169: api.CaseFinal, 170: api.CaseFallen, 179: api.CaseFallen, 180: api.CaseRuled, 240: api.CaseRuled, 241: api.CaseFinal})
	for day, want := range map[int]int{0: 0, 99: 0, 100: 7, 160: 7, 170: 7, 179: 7, 180: 10, 500: 10} {
		got, is := court.Ruling(l, 3, day)
		expect.Equal(t, "Ruling", got, want)
		expect.Equal(t, "Ruling", is, want > 0)
	}
	for day, want := range map[int][]int{160: nil, 161: {7}, 169: {7}, 170: nil, 240: nil, 241: {10}} {
		expect.List(t, "Awards", court.Awards(l, day), want...)
	}
	l = followed(l, withdraw(300, 2))
	states(t, "nothing rests on it", l, 3, map[int]uint8{300: api.CaseFinal})
	appealed := followed(inState(api.CaseAppealed), withdraw(110, 1), of(api.StepView, 120, 3), rule(121, 3, api.AwardOpen))
	states(t, "an appealed one whose ruling falls", appealed, 3, map[int]uint8{110: api.CaseAppealed, 120: api.CaseViewed, 121: api.CaseRuled, 182: api.CaseFinal})
}

// H7: the cases that there are, and those of other steps.
func TestCases(t *testing.T) {
	l := followed(heard(), claim(40, 5, 6), record(40, "stone dyke elm 5 0"), claim(50, 5, 6))
	for day, want := range map[int][]int{-1: nil, 1: nil, 2: {3}, 39: {3}, 40: {3, 6}, 49: {3, 6}, 50: {3, 6, 8}, 100000: {3, 6, 8}} {
		expect.List(t, "Cases", court.Cases(l, day), want...)
	}
	for _, id := range []int{math.MinInt, -1, 0, 1, 4, 5, 6, 7, 8, 9, math.MaxInt} {
		got, is := court.Ruling(l, id, 60)
		expect.Equal(t, "no Ruling", got == 0 && !is, true)
	}
}

// deadline fails unless Deadline says what it should; 0 is none.
func deadline(t *testing.T, l []api.Step, id, day, want int) {
	t.Helper()
	got, is := court.Deadline(l, id, day)
	if got != want || is != (want > 0) {
		t.Errorf("Deadline of %d on the day %d: %d, %v; want %d", id, day, got, is, want)
	}
}

// H8: deadlines while the case is told or ruled, and none otherwise.
func TestDeadline(t *testing.T) {
	l := inState(api.CaseFinal)
	for day, want := range map[int]int{1: 0, 2: 0, 29: 0, 30: 60, 59: 60, 60: 0, 90: 0, 99: 0, 100: 160, 160: 160, 161: 0, math.MinInt: 0, math.MaxInt: 0} {
		deadline(t, l, 3, day, want)
	}
	for _, id := range []int{-1, 0, 1, 4, 7, 8, 9} {
		deadline(t, l, id, 100, 0)
	}
	deadline(t, inState(api.CaseTold), 3, 61, 60)
	deadline(t, inState(api.CaseTold), 3, 1000, 60)
	deadline(t, inState(api.CaseFallen), 3, 100, 0)
	deadline(t, inState(api.CaseAppealed), 3, 100, 0)
	late := numbered(claim(99990, 5, 6), of(api.StepNotice, 99990, 1))
	deadline(t, late, 1, 100000, 100020)
}

// H8: cases that were viewed, that have fallen, and that were told long enough.
func TestDue(t *testing.T) {
	l := inState(api.CaseFinal)
	for day, want := range map[int][]int{2: nil, 30: nil, 59: nil, 60: nil, 89: nil, 90: {3}, 99: {3}, 100: nil, 161: nil, 1000: nil} {
		expect.List(t, "Due", court.Due(l, day), want...)
	}
	for day, want := range map[int][]int{29: nil, 30: nil, 60: nil, 61: {3}, 1000: {3}, math.MaxInt: {3}} {
		expect.List(t, "Due of one that is told", court.Due(inState(api.CaseTold), day), want...)
	}
	for _, day := range []int{100, 160, 161, 1000} {
		expect.List(t, "Due of a fallen one", court.Due(inState(api.CaseFallen), day), 3)
		expect.List(t, "Due of one with an appeal", court.Due(inState(api.CaseAppealed), day))
		expect.List(t, "Due of an open one", court.Due(inState(api.CaseOpen), day))
		expect.List(t, "Due of one that is fought", court.Due(inState(api.CaseFought), day))
	}
	both := followed(inState(api.CaseTold), claim(31, 5, 6), of(api.StepNotice, 32, 5))
	for day, want := range map[int][]int{60: nil, 61: {3}, 62: {3}, 63: {3, 5}} {
		expect.List(t, "Due of two", court.Due(both, day), want...)
	}
}

// H9: the last rulings are in their own order, not in that of the cases.
func TestAwards(t *testing.T) {
	l := followed(inState(api.CaseTold), claim(31, 5, 6), of(api.StepNotice, 31, 5), of(api.StepNotice, 31, 5))[:6]
	l = followed(l, rule(70, 5, api.AwardSouth, 1, 2), rule(80, 3, api.AwardNorth, 1, 2))
	check(t, "two rulings", wide(), l, 0, api.OK)
	for day, want := range map[int][]int{80: nil, 130: nil, 131: {7}, 140: {7}, 141: {7, 8}} {
		expect.List(t, "Awards", court.Awards(l, day), want...)
	}
}

// H7, H8, H9, P8.8: cases as the chapter's words have it.
func TestWhatBecomesOfCases(t *testing.T) {
	seen := map[uint8]int{}
	eachDocket(t, 90, 40, func(r *rand.Rand, f api.Field, l []api.Step) {
		for _, day := range days(r, l) {
			m := upTo(l, day)
			cases := idsWhere(m, func(m []api.Step, id int) bool { return m[id-1].Kind == api.StepClaim })
			expect.List(t, "Cases", court.Cases(l, day), cases...)
			var due, awards []int
			for _, id := range cases {
				state := stateOf(m, id, day)
				seen[state]++
				expect.Equal(t, "Case", court.Case(l, id, day), state)
				expect.Equal(t, "Case of a beginning", court.Case(m, id, day), state)
				last := lastOf(m, id, api.StepRule).Id
				ruling, is := court.Ruling(l, id, day)
				expect.Equal(t, "Ruling", ruling, last)
				expect.Equal(t, "Ruling", is, last > 0)
				switch state {
				case api.CaseTold:
					deadline(t, l, id, day, lastOf(m, id, api.StepNotice).Day+30)
				case api.CaseRuled:
					deadline(t, l, id, day, lastOf(m, id, api.StepRule).Day+60)
				case api.CaseFinal:
					awards = append(awards, last)
					fallthrough
				default:
					deadline(t, l, id, day, 0)
				}
				if mayRule(m, id, day) {
					due = append(due, id)
				}
			}
			expect.List(t, "Due", court.Due(l, day), due...)
			expect.List(t, "Awards", court.Awards(l, day), slices.Sorted(slices.Values(awards))...)
			for id := range len(l) + 2 {
				if !slices.Contains(cases, id) {
					expect.Equal(t, "Case of none", court.Case(l, id, day), api.CaseNone)
				}
			}
		}
	})
	for state := api.CaseOpen; state <= api.CaseFallen; state++ {
		if seen[state] < 10 {
			t.Errorf("the state %d is seen %d times", state, seen[state])
		}
	}
}

// P8.5: an objection, or an appeal, is accepted exactly up to Deadline.
func TestDeadlines(t *testing.T) {
	for state, kind := range map[uint8]uint8{api.CaseTold: api.StepObject, api.CaseRuled: api.StepAppeal} {
		l := inState(state)
		from := l[len(l)-1].Day
		last, _ := court.Deadline(l, 3, from)
		for day := from; day < last+80; day++ {
			want := api.OK
			if day > last {
				want = api.ErrLate
			}
			next(t, "up to the deadline", l, of(kind, day, 3), want)
		}
	}
}
