package court_test

import (
	"math/rand/v2"
	"slices"
	"testing"

	"merestone/api"
	"merestone/court"
	"merestone/deed"
	"merestone/expect"
)

// H2: a record that is entered, withdrawn, and set aside.
func TestWithdraw(t *testing.T) {
	l := heard()
	next(t, "withdraw a record", l, withdraw(40, 1), api.OK)
	next(t, "withdraw a claim", l, withdraw(40, 3), api.ErrNone)
	next(t, "withdraw a notice", l, withdraw(40, 4), api.ErrNone)
	next(t, "withdraw a ruling", l, withdraw(40, 5), api.ErrNone)
	l = followed(l, withdraw(40, 1))
	next(t, "withdraw it again", l, withdraw(41, 1), api.ErrState)
	next(t, "withdraw another one", l, withdraw(40, 2), api.OK)
	next(t, "withdraw a StepWithdraw", l, withdraw(40, 6), api.ErrNone)
	next(t, "set a withdrawn record aside", l, aside(40, 1, 1), api.ErrState)
	l = followed(quarrel(), aside(5, 2, 1, 2))
	next(t, "withdraw what was set aside", l, withdraw(6, 2), api.OK)
	next(t, "set aside what was set aside", l, aside(6, 2, 1, 2), api.ErrState)
	l = followed(l, withdraw(6, 2))
	next(t, "withdraw it twice", l, withdraw(6, 2), api.ErrState)
	next(t, "set aside what was set aside and withdrawn", l, aside(6, 2, 1, 2), api.ErrState)
}

// quarrel is records of the dyke at oak: 1 and 2 contradict each other, 3 agrees with 1 alone, 4 with 2 alone.
func quarrel() []api.Step {
	return numbered(record(1, "stone dyke oak 100 0"), record(1, "stone dyke oak 200 0"), record(1, "stone dyke oak 90 10"), record(1, "stone dyke oak 190 10"))
}

// H2: the parcel is at the station of the strip, and has its limit.
func TestClaim(t *testing.T) {
	claims := func(party, limit, station int) api.Step {
		return api.Step{Day: 3, Kind: api.StepClaim, Party: party, Strip: api.Strip{Limit: limit, Station: station, From: 5, To: 6}}
	}
	for _, x := range []struct {
		party, limit, station int
		want                  api.Errno
	}{
		{0, 0, 0, api.OK}, {0, 1, 0, api.OK}, {0, 0, 1, api.OK}, {0, 1, 1, api.OK}, {0, 0, 2, api.ErrNone}, {0, 1, 2, api.ErrNone}, {0, 2, 0, api.ErrNone}, {0, 2, 1, api.ErrNone},
		{1, 1, 1, api.OK}, {1, 2, 1, api.OK}, {1, 1, 0, api.ErrNone}, {1, 2, 0, api.ErrNone}, {1, 0, 1, api.ErrNone}, {1, 1, 2, api.ErrNone}, {1, 0, 0, api.ErrNone},
	} {
		next(t, "a claim", nil, claims(x.party, x.limit, x.station), x.want)
		next(t, "a claim behind others", heard(), api.Step{Day: 50, Kind: api.StepClaim, Party: x.party, Strip: claims(0, x.limit, x.station).Strip}, x.want)
	}
}

// inState returns a docket whose case 3 comes into a state on the day 100, or on the day 30 for CaseTold.
func inState(state uint8) []api.Step {
	l := heard()[:2]
	l = followed(l, claim(2, 265, 300))
	if state == api.CaseOpen {
		return l
	}
	l = followed(l, of(api.StepNotice, 30, 3))
	if state == api.CaseTold {
		return l
	}
	l = followed(l, of(api.StepObject, 60, 3))
	if state == api.CaseFought {
		return l
	}
	l = followed(l, of(api.StepView, 90, 3))
	if state == api.CaseViewed {
		return l
	}
	l = followed(l, rule(100, 3, api.AwardNorth, 1, 2))
	switch state {
	case api.CaseFinal:
		l = followed(l, claim(161, 1, 2))
	case api.CaseAppealed:
		l = followed(l, of(api.StepAppeal, 100, 3))
	case api.CaseFallen:
		l = followed(l, withdraw(100, 2))
	}
	return l
}

// H2: which steps are refused in which state.
func TestStates(t *testing.T) {
	ok, late, early, state := api.OK, api.ErrLate, api.ErrEarly, api.ErrState
	for _, x := range []struct {
		state                              uint8
		day                                int
		notice, object, view, rule, appeal api.Errno
	}{
		{api.CaseOpen, 200, ok, state, state, state, state},
		{api.CaseTold, 60, state, ok, state, early, state},
		{api.CaseTold, 61, state, late, state, ok, state},
		{api.CaseFought, 200, state, state, ok, state, state},
		{api.CaseViewed, 90, state, state, state, ok, state},
		{api.CaseViewed, 300, state, state, state, ok, state},
		{api.CaseRuled, 160, state, state, state, state, ok},
		{api.CaseFinal, 161, state, state, state, state, late},
		{api.CaseAppealed, 300, state, state, ok, state, state},
		{api.CaseFallen, 160, state, state, state, ok, state},
		{api.CaseFallen, 161, state, state, state, ok, state},
	} {
		l := inState(x.state)
		expect.Equal(t, "the state", court.Case(l, 3, x.day), x.state)
		next(t, "notice", l, of(api.StepNotice, x.day, 3), x.notice)
		next(t, "object", l, of(api.StepObject, x.day, 3), x.object)
		next(t, "view", l, of(api.StepView, x.day, 3), x.view)
		next(t, "appeal", l, of(api.StepAppeal, x.day, 3), x.appeal)
		award := rule(x.day, 3, api.AwardNorth, 1, 2)
		if x.state == api.CaseFallen {
			award = rule(x.day, 3, api.AwardOpen)
		}
		next(t, "rule", l, award, x.rule)
		if x.rule != ok {
			next(t, "rule without a proof", l, rule(x.day, 3, api.AwardNorth), x.rule)
		}
		for _, kind := range []uint8{api.StepNotice, api.StepObject, api.StepView, api.StepAppeal, api.StepRule} {
			next(t, "of a record", l, of(kind, x.day, 1), api.ErrNone)
			next(t, "of another step", followed(l, withdraw(x.day, 1)), of(kind, x.day, len(l)+1), api.ErrNone)
		}
	}
}

// H2: an appeal leads to a view and to another ruling, and so does a ruling that has fallen.
func TestRuledAnew(t *testing.T) {
	l := followed(inState(api.CaseAppealed), of(api.StepView, 110, 3), rule(120, 3, api.AwardNorth, 1, 2))
	expect.Equal(t, "ruled anew", court.Case(l, 3, 180), api.CaseRuled)
	next(t, "an appeal against it", l, of(api.StepAppeal, 180, 3), api.OK)
	next(t, "too late an appeal against it", l, of(api.StepAppeal, 181, 3), api.ErrLate)
	l = followed(inState(api.CaseFallen), rule(120, 3, api.AwardOpen))
	expect.Equal(t, "ruled anew", court.Case(l, 3, 180), api.CaseRuled)
	next(t, "an appeal against it", l, of(api.StepAppeal, 180, 3), api.OK)
	l = followed(inState(api.CaseFinal), withdraw(170, 1))
	expect.Equal(t, "final and fallen", court.Case(l, 3, 170), api.CaseFallen)
	next(t, "no appeal", l, of(api.StepAppeal, 170, 3), api.ErrState)
	next(t, "a ruling", l, rule(170, 3, api.AwardOpen), api.OK)
	l = followed(inState(api.CaseAppealed), withdraw(101, 1))
	expect.Equal(t, "appealed and fallen", court.Case(l, 3, 101), api.CaseAppealed)
	next(t, "no ruling", l, rule(101, 3, api.AwardOpen), api.ErrState)
}

// H2: proofs of awards that show them, and others.
func TestProofs(t *testing.T) {
	l := inState(api.CaseViewed) // the dyke at oak is at 235 to 265
	for _, x := range []struct {
		from, to int
		award    uint8
		proof    []int
		want     api.Errno
	}{
		{265, 300, api.AwardNorth, []int{1, 2}, api.OK}, {264, 300, api.AwardNorth, []int{1, 2}, api.ErrProof}, {266, 267, api.AwardNorth, []int{1, 2}, api.OK},
		{265, 300, api.AwardNorth, []int{1}, api.ErrProof}, {265, 300, api.AwardNorth, []int{2}, api.ErrProof}, {265, 300, api.AwardNorth, nil, api.ErrProof},
		{265, 300, api.AwardNorth, []int{1, 2, 3}, api.ErrProof}, {265, 300, api.AwardSouth, []int{1, 2}, api.ErrProof}, {265, 300, api.AwardOpen, nil, api.ErrProof},
		{265, 300, api.AwardOpen, []int{1, 2}, api.ErrProof}, {200, 235, api.AwardSouth, []int{1, 2}, api.OK}, {200, 236, api.AwardSouth, []int{1, 2}, api.ErrProof},
		{200, 235, api.AwardNorth, []int{1, 2}, api.ErrProof}, {200, 235, api.AwardSouth, []int{2}, api.ErrProof}, {200, 235, api.AwardSouth, nil, api.ErrProof},
		{200, 235, api.AwardOpen, nil, api.ErrProof}, {200, 236, api.AwardOpen, nil, api.OK}, {264, 300, api.AwardOpen, nil, api.OK}, {264, 300, api.AwardOpen, []int{}, api.OK},
		{264, 300, api.AwardOpen, []int{1}, api.ErrProof}, {200, 300, api.AwardOpen, []int{1, 2}, api.ErrProof}, {200, 300, api.AwardNorth, []int{1, 2}, api.ErrProof},
		{100, 235, api.AwardSouth, []int{1, 2, 4}, api.ErrProof},
	} {
		m := clone(l)
		m[2].Strip.From, m[2].Strip.To = x.from, x.to
		next(t, "a ruling", m, rule(100, 3, x.award, x.proof...), x.want)
	}
	more := followed(l, record(90, "stone dyke elm 500 0"))
	next(t, "more than is needed", more, rule(100, 3, api.AwardNorth, 1, 2, 7), api.OK)
	gone := followed(more, withdraw(91, 7))
	next(t, "a record that is withdrawn", gone, rule(100, 3, api.AwardNorth, 1, 2, 7), api.ErrProof)
	next(t, "without it", gone, rule(100, 3, api.AwardNorth, 1, 2), api.OK)
	next(t, "withdrawn on the day of the ruling", followed(more, withdraw(100, 2)), rule(100, 3, api.AwardNorth, 1, 2), api.ErrProof)
}

// H2: a ruling where the records that stand contradict each other, and where one was set aside.
func TestProofsOfConflicts(t *testing.T) {
	l := followed(inState(api.CaseViewed), record(90, "stone dyke oak 100 0"), record(90, "stone dyke elm 5 0"))
	next(t, "a proof that agrees", l, rule(100, 3, api.AwardNorth, 1, 2), api.OK)
	next(t, "another proof", l, rule(100, 3, api.AwardNorth, 7), api.OK)
	next(t, "a proof that contradicts itself", l, rule(100, 3, api.AwardNorth, 1, 2, 7), api.ErrProof)
	next(t, "an open award", l, rule(100, 3, api.AwardOpen), api.ErrProof)
	wide := clone(l)
	wide[2].Strip.From = 90
	next(t, "an open award of a wide strip", wide, rule(100, 3, api.AwardOpen), api.ErrProof)
	l = followed(l, aside(95, 2, 1, 2, 7))
	next(t, "a proof with what was set aside", l, rule(100, 3, api.AwardNorth, 1, 2), api.ErrProof)
	next(t, "a proof with what stands", l, rule(100, 3, api.AwardNorth, 7), api.OK)
}

// H2: rulings that set a record aside, and what they need.
func TestAsides(t *testing.T) {
	l := quarrel()
	next(t, "the worse one", l, aside(5, 2, 1, 2), api.OK)
	next(t, "the better one", l, aside(5, 1, 1, 2), api.ErrProof)
	next(t, "no proof", l, aside(5, 2), api.ErrProof)
	next(t, "a proof without it", l, aside(5, 2, 1, 4), api.ErrProof)
	next(t, "another proof with it", l, aside(5, 4, 1, 4), api.OK)
	next(t, "a proof that agrees", l, aside(5, 3, 1, 3), api.ErrProof)
	next(t, "it alone", l, aside(5, 2, 2), api.ErrProof)
	next(t, "more than is needed", l, aside(5, 4, 1, 2, 3, 4), api.OK)
	next(t, "a worse one in the proof", l, aside(5, 2, 1, 2, 4), api.ErrProof)
	next(t, "none that contradicts better ones", l, aside(5, 3, 1, 2, 3), api.OK)
	l = followed(l, claim(2, 5, 6))
	next(t, "a claim", l, aside(5, 5, 1, 2), api.ErrNone)
	next(t, "a claim in the proof", l, aside(5, 2, 1, 2, 5), api.ErrProof)
	l = followed(l, withdraw(2, 1))
	next(t, "a record that is withdrawn in the proof", l, aside(5, 2, 1, 2), api.ErrProof)
	next(t, "one that stands", l, aside(5, 3, 2, 3), api.OK)
	l = followed(l, aside(5, 3, 2, 3))
	next(t, "one that was set aside in the proof", l, aside(5, 4, 3, 4), api.ErrProof)
	next(t, "of a ruling", l, aside(5, 7, 2, 3), api.ErrNone)
}

// crowd is records of the field's calls that all say nothing new.
func crowd(count int, line string) []api.Step {
	var l []api.Step
	for range count {
		l = append(l, record(1, line))
	}
	return numbered(l...)
}

// H2: 300 records may stand, not 301; a record that is withdrawn or set aside makes room.
func TestCrowdOfRecords(t *testing.T) {
	line := "stone dyke oak 100 5"
	l := crowd(300, line)
	next(t, "the last one", l[:299], record(1, line), api.OK)
	next(t, "one more", l, record(1, line), api.ErrLimit)
	next(t, "a claim", l, claim(1, 10, 20), api.OK)
	next(t, "one more behind a withdrawal", followed(l, withdraw(1, 7)), record(1, line), api.OK)
	next(t, "two more behind a withdrawal", followed(l, withdraw(1, 7), record(1, line)), record(1, line), api.ErrLimit)
	l[299] = numbered(append(clone(l[:299]), record(1, "stone dyke oak 500 0"))...)[299]
	next(t, "one more behind an aside", followed(l, aside(1, 300, 1, 300)), record(1, line), api.OK)
	next(t, "two more behind an aside", followed(l, aside(1, 300, 1, 300), record(1, line)), record(1, line), api.ErrLimit)
	early := record(1, "course dyke ash oak 10 chains by east give 2 wear 0 slack 100")
	early.Record.Year, early.Record.Call.Course.Year = 1600, 1600
	next(t, "one more without declination", l, early, api.ErrCompass)
}

// great is a field of 12 stations and 10 limits; 348 bounds are its nature.
func great() api.Field {
	var f api.Field
	for i := range 12 {
		f.Stations = append(f.Stations, api.Station{Name: "s" + string(rune('a'+i)), X: i})
	}
	for i := range 10 {
		f.Limits = append(f.Limits, "l"+string(rune('a'+i)))
	}
	f.Parcels = []api.Parcel{{Name: "p", South: 0, From: 0, To: 11}}
	return f
}

// lined returns count records of a right call of a field.
func lined(count int, c api.Call) []api.Step {
	var l []api.Step
	for range count {
		l = append(l, api.Step{Kind: api.StepRecord, Record: api.Record{Deed: "a", Year: 1, Call: c}})
	}
	return numbered(l...)
}

// H2: the system of the records that stand may have 2000 bounds, not 2001 or more.
func TestCrowdOfBounds(t *testing.T) {
	f := great()
	nature, _ := deed.Nature(f)
	expect.Equal(t, "bounds by nature", len(nature), 348)
	along := lined(1, api.Call{Kind: api.CallAlong, Other: 1, To: 11})[0]
	short := lined(1, api.Call{Kind: api.CallAlong, Other: 1, To: 1})[0]
	stone := lined(1, api.Call{Kind: api.CallStone, Size: 5})[0]
	l := append(lined(68, along.Record.Call), short, short, short, short) // 348 + 68 * 24 + 4 * 4 = 1996
	l = numbered(l...)
	behind := func(name string, l []api.Step, x api.Step, want api.Errno) {
		t.Helper()
		m := followed(l, x)
		check(t, name, f, m, map[bool]int{true: len(l), false: 0}[want != api.OK], want)
	}
	behind("4 more", l, short, api.OK)
	behind("2 and 2 more", followed(l, stone), stone, api.OK)
	behind("2 and 4 more", followed(l, stone), short, api.ErrLimit)
	behind("24 more", l, along, api.ErrLimit)
	l = followed(l, short)
	behind("2 too many", l, stone, api.ErrLimit)
	behind("a claim", l, api.Step{Kind: api.StepClaim, Strip: api.Strip{To: 1}}, api.OK)
	l = followed(l, of(api.StepWithdraw, 0, 1))
	behind("24 behind a withdrawal", l, along, api.OK)
	l = followed(l, of(api.StepWithdraw, 0, 70))
	behind("24 and 4 behind two withdrawals", followed(l, along), short, api.OK)
	behind("24, 4 and 2 behind two withdrawals", followed(l, along, short), stone, api.ErrLimit)
}

// H2: a system whose bounds are odd may have 1999, not 2001.
func TestOddCrowdOfBounds(t *testing.T) {
	f := great()
	f.Stations, f.Parcels = f.Stations[:11], nil
	nature, _ := deed.Nature(f)
	expect.Equal(t, "bounds by nature", len(nature), 319)
	l := lined(76, api.Call{Kind: api.CallAlong, Other: 1, To: 10})
	l = followed(l, lined(4, api.Call{Kind: api.CallStone, Size: 5})...) // 319 + 76 * 22 + 4 * 2 = 1999
	check(t, "1999", f, l, 0, api.OK)
	check(t, "2001", f, followed(l, l[79]), 80, api.ErrLimit)
}

// Records that stand again can be more than package limits takes; nothing is shown then, and none is entered, until enough are withdrawn.
func TestTooManyStandAgain(t *testing.T) {
	line := "stone dyke oak 100 5"
	l := append(crowd(298, line), record(1, "stone dyke oak 300 0"), record(1, "stone dyke oak 400 0"))
	l = followed(l, aside(1, 299, 1, 299), aside(1, 300, 1, 300), record(1, line), record(1, line))
	l = followed(l, claim(1, 105, 120), claim(1, 106, 107), of(api.StepNotice, 1, 305), of(api.StepNotice, 1, 306))
	next(t, "a record more", l, record(1, line), api.ErrLimit)
	l = followed(l, withdraw(1, 1))
	expect.List(t, "those that stand again", court.Back(l, 309), 299, 300)
	expect.Equal(t, "how many stand", len(court.Standing(l, 1)), 301)
	for _, x := range []api.Step{record(50, line), rule(50, 305, api.AwardNorth, 2), rule(50, 305, api.AwardOpen), aside(50, 299, 2, 299)} {
		want := api.ErrProof
		if x.Kind == api.StepRecord {
			want = api.ErrLimit
		}
		next(t, "behind too many", l, x, want)
	}
	_, is, e := court.Conflict(wide(), l, 50)
	expect.Errno(t, "Conflict", e, api.ErrLimit)
	expect.Equal(t, "Conflict", is, false)
	x, is, e := court.Aside(wide(), l, 50)
	expect.Errno(t, "Aside", e, api.ErrLimit)
	expect.Equal(t, "Aside", !is && isSame(x, api.Step{}), true)
	settled, e := court.Settle(wide(), l, 50)
	expect.Errno(t, "Settle", e, api.ErrLimit)
	expect.Equal(t, "Settle", len(settled), 0)
	x, is, e = court.Propose(wide(), l, 305, 50)
	expect.Errno(t, "Propose", e, api.ErrLimit)
	expect.Equal(t, "Propose", !is && isSame(x, api.Step{}), true)
	_, is, e = court.Propose(wide(), l, 305, 31)
	expect.Errno(t, "Propose too early", e, api.OK)
	expect.Equal(t, "Propose too early", is, false)
	l = followed(l, withdraw(50, 2))
	next(t, "a record behind one that makes no room", l, record(50, line), api.ErrLimit)
	next(t, "a ruling behind one that makes room", l, rule(50, 305, api.AwardNorth, 3), api.OK)
	next(t, "an aside behind one that makes room", l, aside(50, 299, 3, 299), api.OK)
}

// H2: whatever step comes next, it is refused as the chapter's words have it.
func TestRefusals(t *testing.T) {
	seen := map[[2]int]int{}
	eachDocket(t, 120, 25, func(r *rand.Rand, f api.Field, l []api.Step) {
		for range 40 {
			at := r.IntN(len(l) + 1)
			x := anyStep(r, f, l[:at])
			_, got := court.Append(f, l[:at], x)
			want := refusalOf(f, l[:at], x)
			expect.Errno(t, "Append", got, want)
			seen[[2]int{int(x.Kind), int(got)}]++
			longer := slices.Concat(l[:at], []api.Step{x}, l[at:])
			i, e := court.Check(f, longer)
			expect.Equal(t, "Check finds it", i == at && e == want || want == api.OK && (i > at || at == len(l)), true)
		}
	})
	for kind, errs := range map[int][]api.Errno{
		1: {api.OK, api.ErrTime}, 2: {api.OK, api.ErrNone, api.ErrState}, 3: {api.OK, api.ErrNone}, 4: {api.OK, api.ErrNone, api.ErrState},
		5: {api.OK, api.ErrNone, api.ErrState, api.ErrLate}, 6: {api.OK, api.ErrNone, api.ErrState}, 7: {api.OK, api.ErrNone, api.ErrState, api.ErrEarly, api.ErrProof},
		8: {api.OK, api.ErrNone, api.ErrState, api.ErrProof}, 9: {api.OK, api.ErrNone, api.ErrState, api.ErrLate},
	} {
		for _, e := range errs {
			if seen[[2]int{kind, int(e)}] < 3 {
				t.Errorf("the kind %d has the error %d only %d times", kind, e, seen[[2]int{kind, int(e)}])
			}
		}
	}
}
