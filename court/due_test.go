package court_test

import (
	"math"
	"math/rand/v2"
	"slices"
	"testing"

	"merestone/api"
	"merestone/court"
	"merestone/expect"
	"merestone/limits"
)

// set fails unless Aside proposes a step on a day; nothing if of is 0.
func set(t *testing.T, name string, l []api.Step, day, of int, proof ...int) {
	t.Helper()
	x, is, e := court.Aside(wide(), l, day)
	expect.Errno(t, name, e, api.OK)
	var want api.Step
	if of > 0 {
		want = api.Step{Id: len(l) + 1, Day: day, Kind: api.StepAside, Of: of, Proof: proof}
	}
	if is != (of > 0) || !isSame(x, want) {
		t.Errorf("%s: Aside is %v, %v; want %v", name, x, is, want)
	}
}

// H10: no conflict, one, and several.
func TestAside(t *testing.T) {
	l := quarrel()
	set(t, "no steps", nil, 5, 0)
	set(t, "one record", l[:1], 5, 0)
	set(t, "one conflict", l[:2], 1, 2, 1, 2)
	set(t, "one conflict, later", l[:2], 100000, 2, 1, 2)
	set(t, "the first one of several", l, 5, 2, 1, 2)
	set(t, "the next one", followed(l, aside(5, 2, 1, 2)), 5, 4, 1, 4)
	set(t, "none left", followed(l, aside(5, 2, 1, 2), aside(5, 4, 1, 4)), 5, 0)
	set(t, "it is withdrawn", followed(l, withdraw(5, 1), withdraw(5, 4)), 5, 3, 2, 3)
	worse := clone(l[:2])
	worse[0].Record.Rank = 2
	set(t, "the first one is worse", worse, 5, 1, 1, 2)
	set(t, "three records", followed(heard(), record(40, "stone dyke oak 100 0")), 40, 2, 1, 2, 6)
}

// H10: Conflict is that of the records that stand on the day.
func TestConflict(t *testing.T) {
	l := followed(quarrel(), record(9, "stone dyke oak 300 5"), aside(9, 2, 1, 2), withdraw(10, 1))
	for i := range l {
		l[i].Day = 10 * (i + 1)
		l[i].Record.Day = l[i].Day
		if l[i].Kind != api.StepRecord {
			l[i].Record = api.Record{}
		}
	}
	for day, want := range map[int][]int{
		-1: nil, 0: nil, 10: nil, 20: {1, 2}, 30: {1, 2}, 40: {1, 2}, 50: {1, 2}, 59: {1, 2}, 60: {1, 4}, 69: {1, 4}, 70: {2, 5}, 100001: {2, 5}, math.MinInt: nil, math.MaxInt: {2, 5},
	} {
		got, is, e := court.Conflict(wide(), l, day)
		expect.Errno(t, "Conflict", e, api.OK)
		expect.Equal(t, "Conflict", is, want != nil)
		expect.List(t, "Conflict", got, want...)
	}
}

// onDays is a function that goes on with a docket, and whether all it returns but the error is empty.
type onDays struct {
	name string
	run  func(f api.Field, l []api.Step, day int) (bool, api.Errno)
}

// goingOn returns Aside, Settle and Propose for the case 3.
func goingOn() []onDays {
	return []onDays{
		{"Aside", func(f api.Field, l []api.Step, day int) (bool, api.Errno) {
			x, is, e := court.Aside(f, l, day)
			return !is && isSame(x, api.Step{}), e
		}},
		{"Settle", func(f api.Field, l []api.Step, day int) (bool, api.Errno) {
			l, e := court.Settle(f, l, day)
			return len(l) == 0, e
		}},
		{"Propose", func(f api.Field, l []api.Step, day int) (bool, api.Errno) {
			x, is, e := court.Propose(f, l, 3, day)
			return !is && isSame(x, api.Step{}), e
		}},
	}
}

// H10, H11, H12: the errors in their order: those of Check, ErrArg, ErrTime, and what comes behind.
func TestDaysToGoOn(t *testing.T) {
	l := inState(api.CaseTold)
	broken := followed(l, withdraw(30, 3))
	contrary := followed(l, record(30, "stone dyke oak 100 0"))
	for _, c := range goingOn() {
		for _, x := range []struct {
			l    []api.Step
			day  int
			want api.Errno
		}{
			{l, 30, api.OK}, {l, 61, api.OK}, {l, 100000, api.OK}, {l, -1, api.ErrArg}, {l, 100001, api.ErrArg}, {l, math.MinInt, api.ErrArg}, {l, math.MaxInt, api.ErrArg}, {l, 29, api.ErrTime}, {l, 0, api.ErrTime},
			{broken, 61, api.ErrNone}, {broken, -1, api.ErrNone}, {broken, 0, api.ErrNone}, {contrary, -1, api.ErrArg}, {contrary, 29, api.ErrTime},
		} {
			empty, e := c.run(wide(), x.l, x.day)
			expect.Errno(t, c.name, e, x.want)
			expect.Equal(t, c.name+" with an error is empty", e == api.OK || empty, true)
		}
		for want, f := range faults() {
			for _, day := range []int{-1, 0, 61} {
				_, e := c.run(f, broken, day)
				expect.Errno(t, c.name+" without a field", e, want)
			}
		}
	}
	for _, c := range goingOn()[:2] {
		_, e := c.run(wide(), nil, 0)
		expect.Errno(t, c.name+" of no steps", e, api.OK)
		_, e = c.run(wide(), nil, -1)
		expect.Errno(t, c.name+" of no steps", e, api.ErrArg)
	}
	_, is, e := court.Conflict(wide(), broken, 0)
	expect.Errno(t, "Conflict", e, api.ErrNone)
	expect.Equal(t, "Conflict", is, false)
}

// H11: one step for each record that has to go, and none if they agree.
func TestSettle(t *testing.T) {
	for _, x := range []struct {
		name string
		l    []api.Step
		want []int // the records that are set aside
	}{
		{"no steps", nil, nil}, {"one record", quarrel()[:1], nil}, {"one conflict", quarrel()[:2], []int{2}}, {"several", quarrel(), []int{2, 4}},
		{"records that agree", heard(), nil}, {"a ruling that falls", followed(heard(), record(34, "stone dyke oak 100 0")), []int{2}},
		{"settled already", followed(quarrel(), aside(1, 2, 1, 2), aside(1, 4, 1, 4)), nil},
		{"five of one corner", numbered(record(1, "stone dyke oak 5 0"), record(1, "stone dyke oak 4 0"), record(1, "stone dyke oak 3 0"), record(1, "stone dyke oak 2 0"), record(1, "stone dyke oak 1 0")), []int{2, 3, 4, 5}},
	} {
		got, e := court.Settle(wide(), x.l, 50)
		expect.Errno(t, x.name, e, api.OK)
		expect.Equal(t, x.name+": steps", len(got), len(x.l)+len(x.want))
		var asides []int
		for i, y := range got {
			if i < len(x.l) {
				expect.Equal(t, x.name+": a step that was there", isSame(y, x.l[i]), true)
			} else {
				expect.Equal(t, x.name+": an aside", y.Kind == api.StepAside && y.Day == 50, true)
				asides = append(asides, y.Of)
			}
		}
		expect.List(t, x.name, asides, x.want...)
		check(t, x.name, wide(), got, 0, api.OK)
	}
}

// crowded returns a docket of some steps of which the first ones are records; the others are claims.
func crowded(length int, lines ...string) []api.Step {
	var l []api.Step
	for _, line := range lines {
		l = append(l, record(1, line))
	}
	for len(l) < length {
		l = append(l, claim(1, 5, 6))
	}
	return numbered(l...)
}

// H10, H11: dockets of 399 and 400 steps.
func TestSettleCount(t *testing.T) {
	one, two, three := "stone dyke oak 5 0", "stone dyke oak 6 0", "stone dyke oak 7 0"
	for _, x := range []struct {
		name string
		l    []api.Step
		want int // how many steps; 0 for ErrLimit
	}{
		{"398 and two conflicts", crowded(398, one, two, three), 400}, {"399 and one conflict", crowded(399, one, two), 400}, {"399 and two conflicts", crowded(399, one, two, three), 0},
		{"399 that agree", crowded(399, one), 399}, {"400 that agree", crowded(400, one), 400}, {"400 and a conflict", crowded(400, one, two), 0},
	} {
		got, e := court.Settle(wide(), x.l, 5)
		want := api.OK
		if x.want == 0 {
			want = api.ErrLimit
		}
		expect.Errno(t, x.name, e, want)
		expect.Equal(t, x.name, len(got), x.want)
	}
	set(t, "399", crowded(399, one, two), 5, 2, 1, 2)
	set(t, "400", crowded(400, one, two), 5, 2, 1, 2)
	full := crowded(401, one, two)
	for _, c := range goingOn() {
		_, e := c.run(wide(), full, 5)
		expect.Errno(t, c.name+" of 401 steps", e, api.ErrLimit)
		_, e = c.run(wide(), full, -1)
		expect.Errno(t, c.name+" of 401 steps, on no day", e, api.ErrLimit)
	}
}

// propose fails unless Propose for the case 3 is a ruling; none if is is false.
func propose(t *testing.T, name string, l []api.Step, day int, is bool, award uint8, proof ...int) {
	t.Helper()
	x, got, e := court.Propose(wide(), l, 3, day)
	expect.Errno(t, name, e, api.OK)
	var want api.Step
	if is {
		want = api.Step{Id: len(l) + 1, Day: day, Kind: api.StepRule, Of: 3, Award: award, Proof: proof}
	}
	if got != is || !isSame(x, want) {
		t.Errorf("%s: Propose is %v, %v; want %v", name, x, got, want)
	}
}

// H12: what the records make due, where a case may be ruled.
func TestPropose(t *testing.T) {
	for _, x := range []struct {
		from, to int
		award    uint8
		proof    []int
	}{
		{265, 300, api.AwardNorth, []int{1, 2}}, {264, 300, api.AwardOpen, nil}, {200, 235, api.AwardSouth, []int{1, 2}}, {200, 236, api.AwardOpen, nil}, {100, 400, api.AwardOpen, nil},
		{240, 250, api.AwardOpen, nil}, {99999, 100000, api.AwardNorth, []int{1, 2}}, {0, 1, api.AwardSouth, []int{1, 2}},
	} {
		l := inState(api.CaseViewed)
		l[2].Strip.From, l[2].Strip.To = x.from, x.to
		propose(t, "a strip", l, 100, true, x.award, x.proof...)
	}
	propose(t, "a fallen case", inState(api.CaseFallen), 100, true, api.AwardOpen)
	propose(t, "a notice of 31 days", inState(api.CaseTold), 61, true, api.AwardNorth, 1, 2)
	propose(t, "a notice of 30 days", inState(api.CaseTold), 60, false, 0)
	for _, state := range []uint8{api.CaseOpen, api.CaseFought, api.CaseRuled, api.CaseFinal, api.CaseAppealed} {
		propose(t, "a case that may not be ruled", inState(state), 200, false, 0)
	}
	gone := followed(inState(api.CaseViewed), record(91, "stone dyke oak 100 100"), record(91, "stone dyke oak 200 60"), withdraw(95, 7))
	propose(t, "records that stand", gone, 100, true, api.AwardNorth, 8)
	for _, id := range []int{math.MinInt, -1, 0, 1, 2, 4, 5, 6, 7, math.MaxInt} {
		x, is, e := court.Propose(wide(), inState(api.CaseViewed), id, 100)
		expect.Errno(t, "Propose of no case", e, api.ErrNone)
		expect.Equal(t, "Propose of no case", !is && isSame(x, api.Step{}), true)
	}
}

// H12: ErrConflict comes behind all else.
func TestProposeOfConflicts(t *testing.T) {
	l := followed(inState(api.CaseViewed), record(91, "stone dyke oak 100 0"), of(api.StepNotice, 91, 1))[:7]
	x, is, e := court.Propose(wide(), l, 3, 100)
	expect.Errno(t, "Propose", e, api.ErrConflict)
	expect.Equal(t, "Propose", !is && isSame(x, api.Step{}), true)
	_, _, e = court.Propose(wide(), l, 1, 100)
	expect.Errno(t, "Propose of no case", e, api.ErrNone)
	_, _, e = court.Propose(wide(), l, 3, 90)
	expect.Errno(t, "Propose on an early day", e, api.ErrTime)
	for _, state := range []uint8{api.CaseOpen, api.CaseFought, api.CaseRuled, api.CaseFinal, api.CaseAppealed} {
		m := inState(state)
		propose(t, "a case that may not be ruled", followed(m, record(161, "stone dyke oak 100 0")), 161, false, 0)
	}
}

// P8.3: as long as the records agree, every drawing awards what the rulings that stand award.
func TestRulingsAreShown(t *testing.T) {
	shown := 0
	eachDocket(t, 60, 40, func(r *rand.Rand, f api.Field, l []api.Step) {
		for _, day := range days(r, l) {
			standing := court.Standing(l, day)
			if _, is, _ := limits.Conflict(f, standing); is {
				continue
			}
			for _, id := range court.Rulings(l, day) {
				if x := l[id-1]; x.Kind == api.StepRule && x.Award != api.AwardOpen {
					award, e := limits.Award(f, standing, l[x.Of-1].Strip)
					expect.Errno(t, "Award", e, api.OK)
					expect.Equal(t, "Award", award, x.Award)
					shown++
				}
			}
		}
	})
	if shown < 50 {
		t.Errorf("%d rulings are looked at", shown)
	}
}

// best returns the Id of the best record of some.
func best(l []api.Record) int {
	return slices.MinFunc(l, func(a, b api.Record) int {
		if isBetter(a, b) {
			return -1
		}
		return 1
	}).Id
}

// H10, H11, P8.4, P8.6: what Aside and Settle do to dockets.
func TestSettleIsRight(t *testing.T) {
	asides := 0
	eachDocket(t, 90, 30, func(r *rand.Rand, f api.Field, l []api.Step) {
		for range 6 {
			x := api.Step{Id: len(l) + 1, Day: l[len(l)-1].Day, Kind: api.StepRecord}
			x.Record = api.Record{Id: x.Id, Day: x.Day, Deed: "b", Year: 1800, Rank: r.IntN(3), Call: anyCall(r)}
			l = append(l, x)
		}
		day := l[len(l)-1].Day
		before := recordsOf(l)
		ids, is, _ := limits.Conflict(f, before)
		x, due, e := court.Aside(f, l, day)
		expect.Errno(t, "Aside", e, api.OK)
		expect.Equal(t, "Aside", due, is)
		expect.List(t, "the proof of Aside", x.Proof, ids...)
		settled, e := court.Settle(f, l, day)
		expect.Errno(t, "Settle", e, api.OK)
		check(t, "Settle", f, settled, 0, api.OK)
		for i, y := range settled {
			if i < len(l) {
				expect.Equal(t, "a step that was there", isSame(y, l[i]), true)
				continue
			}
			asides++
			want, _, _ := court.Aside(f, settled[:i], day)
			expect.Equal(t, "a step of Aside", isSame(y, want), true)
			expect.Equal(t, "it is contradicted by better ones", isAside(f, settled[:i], y) && recordStands(settled[:i], y.Of), true)
			expect.Equal(t, "Append accepts it", refusalOf(f, settled[:i], y), api.OK)
		}
		_, is, _ = limits.Conflict(f, recordsOf(settled))
		expect.Equal(t, "they agree", is, false)
		expect.Equal(t, "the best one stands", recordStands(settled, best(before)), true)
	})
	if asides < 200 {
		t.Errorf("%d asides", asides)
	}
}

// H12, P8.6: what Propose says of all cases, and that it is accepted.
func TestProposeIsRight(t *testing.T) {
	ruled := map[uint8]int{}
	conflicts := 0
	eachDocket(t, 90, 30, func(r *rand.Rand, f api.Field, l []api.Step) {
		day := l[len(l)-1].Day
		for _, id := range court.Cases(l, day) {
			if stateOf(l, id, day) == api.CaseOpen {
				l = followed(l, of(api.StepNotice, day, id))
			}
		}
		day += 20 + r.IntN(50)
		standing := recordsOf(l)
		for _, id := range court.Cases(l, day) {
			x, is, e := court.Propose(f, l, id, day)
			if !mayRule(l, id, day) {
				expect.Errno(t, "Propose of what may not be ruled", e, api.OK)
				expect.Equal(t, "Propose of what may not be ruled", !is && isSame(x, api.Step{}), true)
				continue
			}
			s := l[id-1].Strip
			award, want := limits.Award(f, standing, s)
			expect.Errno(t, "Propose", e, want)
			expect.Equal(t, "Propose", is, want == api.OK)
			if !is {
				conflicts++
				continue
			}
			ruled[award]++
			var proof []int
			if award != api.AwardOpen {
				proof, _ = limits.Why(f, standing, api.Corner{Limit: s.Limit, Station: s.Station}, award == api.AwardNorth)
			}
			expect.Equal(t, "Propose", isSame(x, api.Step{Id: len(l) + 1, Day: day, Kind: api.StepRule, Of: id, Award: award, Proof: proof}), true)
			_, e = court.Append(f, l, x)
			expect.Errno(t, "Append of it", e, api.OK)
		}
	})
	if ruled[0] < 10 || ruled[1] < 10 || ruled[2] < 10 || conflicts < 10 {
		t.Errorf("rulings %v, conflicts %d", ruled, conflicts)
	}
}
