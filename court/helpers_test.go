package court_test

import (
	"math/rand/v2"
	"slices"
	"testing"

	"merestone/api"
	"merestone/court"
	"merestone/deed"
	"merestone/limits"
)

// exampleField is the field of layer 4's examples.
func exampleField() api.Field {
	f, _ := deed.ParseField("station ash 0\nstation oak 1000\nstation elm 2000\nlimit dyke\nlimit burn\nparcel croft dyke ash elm\n")
	return f
}

// wide is a field with two parcels: croft from the dyke to the burn, mead from the burn to the hill and from oak on.
func wide() api.Field {
	f, _ := deed.ParseField("station ash 0\nstation oak 1000\nstation elm 2000\nlimit dyke\nlimit burn\nlimit hill\n" +
		"parcel croft dyke ash elm\nparcel mead burn oak elm\nvariation 1700 0\n")
	return f
}

// call returns the call of a line in the field wide.
func call(line string) api.Call {
	c, e := deed.ReadCall(wide(), line, 1800)
	if e != api.OK {
		panic("no right call: " + line)
	}
	return c
}

// record returns a StepRecord of a call, by a deed of the year 1800 and the Rank 1.
func record(day int, line string) api.Step { return ranked(day, 1800, 1, line) }

// ranked returns a StepRecord of a call, by a deed of a year and a rank.
func ranked(day, year, rank int, line string) api.Step {
	c := call(line)
	if c.Kind == api.CallCourse {
		c.Course.Year = year
	}
	return api.Step{Day: day, Kind: api.StepRecord, Record: api.Record{Day: day, Deed: "smith", Year: year, Rank: rank, Call: c}}
}

// of returns a step that has an Of alone.
func of(kind uint8, day, of int) api.Step { return api.Step{Day: day, Kind: kind, Of: of} }

// withdraw returns a StepWithdraw.
func withdraw(day, record int) api.Step { return of(api.StepWithdraw, day, record) }

// claim returns a claim of croft at the dyke, at oak.
func claim(day, from, to int) api.Step {
	return api.Step{Day: day, Kind: api.StepClaim, Strip: api.Strip{Limit: 0, Station: 1, From: from, To: to}}
}

// rule returns a StepRule.
func rule(day, matter int, award uint8, proof ...int) api.Step {
	return api.Step{Day: day, Kind: api.StepRule, Of: matter, Award: award, Proof: proof}
}

// aside returns a StepAside.
func aside(day, record int, proof ...int) api.Step {
	return api.Step{Day: day, Kind: api.StepAside, Of: record, Proof: proof}
}

// numbered returns steps with the Ids from 1 on.
func numbered(l ...api.Step) []api.Step {
	l = clone(l)
	for i := range l {
		l[i].Id = i + 1
		if l[i].Kind == api.StepRecord {
			l[i].Record.Id = i + 1
		}
	}
	return l
}

// followed returns a docket with more steps behind it.
func followed(l []api.Step, more ...api.Step) []api.Step { return numbered(slices.Concat(l, more)...) }

// clone returns steps in memory of their own.
func clone(l []api.Step) []api.Step {
	l = slices.Clone(l)
	for i := range l {
		l[i].Proof = slices.Clone(l[i].Proof)
	}
	return l
}

// isSame says whether two steps are equal.
func isSame(x, y api.Step) bool {
	return x.Id == y.Id && x.Day == y.Day && x.Kind == y.Kind && x.Record == y.Record && x.Of == y.Of && x.Party == y.Party &&
		x.Strip == y.Strip && x.Award == y.Award && slices.Equal(x.Proof, y.Proof)
}

// heard is the steps of the chapter's examples, with a ruling: records 1 and 2, the case 3, a notice on the day 3, and a ruling on the day 34.
func heard() []api.Step {
	return numbered(record(1, "stone dyke ash 200 10"), record(1, "level dyke ash oak 50 5"), claim(2, 265, 300), of(api.StepNotice, 3, 3),
		rule(34, 3, api.AwardNorth, 1, 2))
}

// check fails unless Check says what it should of a docket.
func check(t *testing.T, name string, f api.Field, l []api.Step, index int, want api.Errno) {
	t.Helper()
	if i, e := court.Check(f, l); i != index || e != want {
		t.Errorf("%s: Check says %d, error %d; want %d, %d", name, i, e, index, want)
	}
}

// next fails unless a step behind a valid docket is refused so.
func next(t *testing.T, name string, l []api.Step, x api.Step, want api.Errno) {
	t.Helper()
	check(t, name+" (before)", wide(), l, 0, api.OK)
	index := len(l)
	if want == api.OK {
		index = 0
	}
	check(t, name, wide(), followed(l, x), index, want)
}

// What follows says what a docket has come to, as the chapter's words have it: each answer looks through all steps again.

// isRuling says whether a step is a ruling.
func isRuling(x api.Step) bool { return x.Kind == api.StepRule || x.Kind == api.StepAside }

// strikes says whether a step withdraws a record or sets it aside.
func strikes(x api.Step, record int) bool {
	return (x.Kind == api.StepWithdraw || x.Kind == api.StepAside) && x.Of == record
}

// upTo returns the steps up to a day.
func upTo(l []api.Step, day int) []api.Step {
	return slices.DeleteFunc(slices.Clone(l), func(x api.Step) bool { return x.Day > day })
}

// rulingStands says whether the ruling with an Id stands behind all steps.
func rulingStands(l []api.Step, id int) bool {
	if id < 1 || id > len(l) || !isRuling(l[id-1]) {
		return false
	}
	return !slices.ContainsFunc(l[id:], func(x api.Step) bool {
		return slices.ContainsFunc(l[id-1].Proof, func(r int) bool { return strikes(x, r) })
	})
}

// isRecord says whether there is a record with an Id.
func isRecord(l []api.Step, id int) bool {
	return id >= 1 && id <= len(l) && l[id-1].Kind == api.StepRecord
}

// isGone says whether the record with an Id has been withdrawn.
func isGone(l []api.Step, id int) bool {
	return slices.ContainsFunc(l, func(x api.Step) bool { return x.Kind == api.StepWithdraw && x.Of == id })
}

// recordStands says whether the record with an Id stands behind all steps.
func recordStands(l []api.Step, id int) bool {
	return isRecord(l, id) && !isGone(l, id) && !slices.ContainsFunc(l, func(x api.Step) bool {
		return x.Kind == api.StepAside && x.Of == id && rulingStands(l, x.Id)
	})
}

// idsWhere returns the Ids of steps, from 1 on.
func idsWhere(l []api.Step, is func(l []api.Step, id int) bool) []int {
	var ids []int
	for i := range l {
		if is(l, i+1) {
			ids = append(ids, i+1)
		}
	}
	return ids
}

// recordsOf returns the records that stand behind all steps.
func recordsOf(l []api.Step) []api.Record {
	var records []api.Record
	for _, id := range idsWhere(l, recordStands) {
		records = append(records, l[id-1].Record)
	}
	return records
}

// lastOf returns the last step of some kinds of a case; a zero step if there is none.
func lastOf(l []api.Step, id int, kinds ...uint8) api.Step {
	for _, x := range slices.Backward(l) {
		if slices.Contains(kinds, x.Kind) && (x.Of == id || x.Kind == api.StepClaim && x.Id == id) {
			return x
		}
	}
	return api.Step{}
}

// stateOf returns the state of a case on a day behind all steps.
func stateOf(l []api.Step, id, day int) uint8 {
	last := lastOf(l, id, api.StepClaim, api.StepNotice, api.StepObject, api.StepView, api.StepRule, api.StepAppeal)
	state := map[uint8]uint8{api.StepClaim: api.CaseOpen, api.StepNotice: api.CaseTold, api.StepObject: api.CaseFought, api.StepView: api.CaseViewed,
		api.StepRule: api.CaseRuled, api.StepAppeal: api.CaseAppealed}[last.Kind]
	if state == api.CaseRuled && !rulingStands(l, last.Id) {
		return api.CaseFallen
	}
	if state == api.CaseRuled && day-last.Day > 60 {
		return api.CaseFinal
	}
	return state
}

// mayRule says whether a case may be ruled on a day behind all steps.
func mayRule(l []api.Step, id, day int) bool {
	state := stateOf(l, id, day)
	return state == api.CaseViewed || state == api.CaseFallen || state == api.CaseTold && day-lastOf(l, id, api.StepNotice).Day > 30
}

// refusalOf returns why a step, which is right by itself, may not follow a valid docket.
func refusalOf(f api.Field, l []api.Step, x api.Step) api.Errno {
	if len(l) > 0 && x.Day < l[len(l)-1].Day {
		return api.ErrTime
	}
	of := l[max(x.Of-1, 0):]
	state := stateOf(l, x.Of, x.Day)
	switch x.Kind {
	case api.StepRecord:
		_, e := limits.Check(f, append(recordsOf(l), x.Record))
		return e
	case api.StepWithdraw:
		return firstOf(of[0].Kind == api.StepRecord, api.ErrNone, !isGone(l, x.Of), api.ErrState)
	case api.StepClaim:
		p := f.Parcels[x.Party]
		return firstOf(x.Strip.Station >= p.From && x.Strip.Station < p.To && (x.Strip.Limit == p.South || x.Strip.Limit == p.South+1), api.ErrNone)
	case api.StepAside:
		return firstOf(of[0].Kind == api.StepRecord, api.ErrNone, recordStands(l, x.Of), api.ErrState, isAside(f, l, x), api.ErrProof)
	}
	if of[0].Kind != api.StepClaim {
		return api.ErrNone
	}
	switch x.Kind {
	case api.StepNotice:
		return firstOf(state == api.CaseOpen, api.ErrState)
	case api.StepObject:
		return firstOf(state == api.CaseTold, api.ErrState, x.Day-lastOf(l, x.Of, api.StepNotice).Day <= 30, api.ErrLate)
	case api.StepView:
		return firstOf(state == api.CaseFought || state == api.CaseAppealed, api.ErrState)
	case api.StepAppeal:
		return firstOf(state != api.CaseFinal, api.ErrLate, state == api.CaseRuled, api.ErrState)
	}
	may := mayRule(l, x.Of, x.Day)
	return firstOf(may || state != api.CaseTold, api.ErrEarly, may, api.ErrState, isRule(f, l, x), api.ErrProof)
}

// firstOf returns the error behind the first condition that does not hold.
func firstOf(l ...any) api.Errno {
	for i := 0; i < len(l); i += 2 {
		if !l[i].(bool) {
			return l[i+1].(api.Errno)
		}
	}
	return api.OK
}

// isRule says whether the award of a StepRule is shown.
func isRule(f api.Field, l []api.Step, x api.Step) bool {
	standing, s := recordsOf(l), l[x.Of-1].Strip
	c := api.Corner{Limit: s.Limit, Station: s.Station}
	switch x.Award {
	case api.AwardNorth:
		is, e := limits.CheckWhy(f, standing, c, true, s.From, x.Proof)
		return is && e == api.OK
	case api.AwardSouth:
		is, e := limits.CheckWhy(f, standing, c, false, s.To, x.Proof)
		return is && e == api.OK
	}
	award, e := limits.Award(f, standing, s)
	return len(x.Proof) == 0 && award == api.AwardOpen && e == api.OK
}

// isAside says whether the proof of a StepAside shows what it has to.
func isAside(f api.Field, l []api.Step, x api.Step) bool {
	is, e := limits.CheckConflict(f, recordsOf(l), x.Proof)
	return is && e == api.OK && slices.Contains(x.Proof, x.Of) && !slices.ContainsFunc(x.Proof, func(id int) bool {
		return id != x.Of && !isBetter(l[id-1].Record, l[x.Of-1].Record)
	})
}

// isBetter says whether one record is better than another one.
func isBetter(a, b api.Record) bool {
	orders := map[uint8]int{api.CallStone: 1, api.CallAlong: 2, api.CallWidth: 3, api.CallLevel: 4, api.CallCourse: 5}
	for _, x := range [][2]int{{orders[a.Call.Kind], orders[b.Call.Kind]}, {a.Rank, b.Rank}, {a.Year, b.Year}, {a.Id, b.Id}} {
		if x[0] != x[1] {
			return x[0] < x[1]
		}
	}
	return false
}

// anyCall returns a call at small offsets of the dyke and the burn.
func anyCall(r *rand.Rand) api.Call {
	switch r.IntN(6) {
	case 0:
		return api.Call{Kind: api.CallLevel, Limit: r.IntN(2), From: 0, To: 1, Size: r.IntN(5) - 2, Error: r.IntN(2)}
	case 1:
		return api.Call{Kind: api.CallWidth, Limit: 0, Other: 1, From: r.IntN(2), Size: r.IntN(6), Error: r.IntN(2)}
	case 2:
		return api.Call{Kind: api.CallAlong, Limit: 0, Other: 1, From: r.IntN(2), To: 2}
	}
	return api.Call{Kind: api.CallStone, Limit: r.IntN(2), From: r.IntN(2), Size: r.IntN(12), Error: r.IntN(3)}
}

// anyOf returns the Id of a step of one of some kinds, mostly; of any step otherwise.
func anyOf(r *rand.Rand, l []api.Step, kinds ...uint8) int {
	for range 10 {
		id := 1 + r.IntN(len(l))
		if slices.Contains(kinds, l[id-1].Kind) {
			return id
		}
	}
	return 1 + r.IntN(len(l))
}

// anyProof returns the Ids of some records, most of which stand, and perhaps one more.
func anyProof(r *rand.Rand, l []api.Step, more int) []int {
	var ids []int
	for _, id := range idsWhere(l, isRecord) {
		if recordStands(l, id) && r.IntN(2) == 0 || r.IntN(20) == 0 || id == more && r.IntN(6) > 0 {
			ids = append(ids, id)
		}
	}
	return ids
}

// anyStep returns a step that is right by itself, and that may often follow a docket.
func anyStep(r *rand.Rand, f api.Field, l []api.Step) api.Step {
	x := api.Step{Id: len(l) + 1, Kind: uint8(1 + r.IntN(9))}
	if len(l) > 0 {
		days := []int{0, 0, 0, 1, 2, 10, 29, 30, 31, 32, 59, 60, 61, 62}
		x.Day = max(0, l[len(l)-1].Day+days[r.IntN(len(days))])
		if r.IntN(30) == 0 {
			x.Day = max(0, x.Day-1)
		}
	} else {
		x.Kind = api.StepRecord + 2*uint8(r.IntN(2))
	}
	switch x.Kind {
	case api.StepRecord:
		x.Record = api.Record{Id: x.Id, Day: x.Day, Deed: "a", Year: 1800 + r.IntN(2), Rank: r.IntN(2), Call: anyCall(r)}
	case api.StepWithdraw:
		x.Of = anyOf(r, l, api.StepRecord)
	case api.StepClaim:
		from := r.IntN(8)
		x.Party = r.IntN(len(f.Parcels))
		x.Strip = api.Strip{Limit: r.IntN(2), Station: r.IntN(2), From: from, To: from + 1 + r.IntN(4)}
	case api.StepRule:
		x.Of = anyOf(r, l, api.StepClaim)
		x.Award = uint8(r.IntN(3))
		if x.Award != api.AwardOpen || r.IntN(9) == 0 {
			x.Proof = anyProof(r, l, 0)
		}
	case api.StepAside:
		x.Of = anyOf(r, l, api.StepRecord)
		x.Proof = anyProof(r, l, x.Of)
	default:
		x.Of = anyOf(r, l, api.StepClaim)
	}
	return x
}

// likely returns a step that may follow a docket, for it is proposed, or sets aside what contradicts, or goes on with a case.
func likely(r *rand.Rand, f api.Field, l []api.Step) api.Step {
	day := 0
	if len(l) > 0 {
		day = l[len(l)-1].Day + r.IntN(35)
	}
	if x, is, e := court.Aside(f, l, day); is && e == api.OK && r.IntN(2) == 0 {
		return x
	}
	for _, id := range court.Due(l, day) {
		if x, is, e := court.Propose(f, l, id, day); is && e == api.OK && r.IntN(2) == 0 {
			return x
		}
	}
	return anyStep(r, f, l)
}

// anyDocket returns a valid docket of about some steps.
func anyDocket(r *rand.Rand, f api.Field, length int) []api.Step {
	var l []api.Step
	for range 4 * length {
		x := likely(r, f, l)
		if longer, e := court.Append(f, l, x); e == api.OK {
			l = longer
		}
		if len(l) == length {
			break
		}
	}
	return l
}

// eachDocket runs a test for valid dockets.
func eachDocket(t *testing.T, dockets, length int, run func(r *rand.Rand, f api.Field, l []api.Step)) {
	t.Helper()
	for seed := range uint64(dockets) {
		r := rand.New(rand.NewPCG(seed, 8))
		f := wide()
		run(r, f, anyDocket(r, f, 1+r.IntN(length)))
		if t.Failed() {
			t.Fatalf("in the docket of the seed %d", seed)
		}
	}
}

// days returns some of the days at which a docket changes, or a deadline passes, and the ends.
func days(r *rand.Rand, l []api.Step) []int {
	list := []int{-1, 0, 100000}
	for range 8 {
		changes := []int{-1, 0, 30, 31, 60, 61}
		list = append(list, l[r.IntN(len(l))].Day+changes[r.IntN(len(changes))])
	}
	return list
}
