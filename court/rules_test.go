package court_test

import (
	"math"
	"math/rand/v2"
	"reflect"
	"slices"
	"testing"

	"merestone/api"
	"merestone/court"
	"merestone/deed"
	"merestone/expect"
)

// The chapter's table of examples: a case until it is final.
func TestExampleOfACase(t *testing.T) {
	f, l := exampleField(), heard()[:4]
	expect.Equal(t, "Case", court.Case(l, 3, 3), api.CaseTold)
	last, is := court.Deadline(l, 3, 10)
	expect.Equal(t, "Deadline", is && last == 33, true)
	expect.List(t, "Due on 33", court.Due(l, 33))
	expect.List(t, "Due on 34", court.Due(l, 34), 3)
	x, is, e := court.Propose(f, l, 3, 34)
	expect.Errno(t, "Propose", e, api.OK)
	expect.Equal(t, "Propose", is && isSame(x, api.Step{Id: 5, Day: 34, Kind: api.StepRule, Of: 3, Award: api.AwardNorth, Proof: []int{1, 2}}), true)
	early := x
	early.Day = 33
	_, e = court.Append(f, l, early)
	expect.Errno(t, "Append of it on the day 33", e, api.ErrEarly)
	l, e = court.Append(f, l, x)
	expect.Errno(t, "Append of it", e, api.OK)
	for day, want := range map[int]uint8{34: api.CaseRuled, 94: api.CaseRuled, 95: api.CaseFinal} {
		expect.Equal(t, "Case", court.Case(l, 3, day), want)
	}
	expect.List(t, "Awards", court.Awards(l, 95), 5)
	line, e := court.Write(f, x)
	expect.Errno(t, "Write", e, api.OK)
	expect.Equal(t, "Write", line, "5 34 rule 3 north 1 2")
}

// The chapter's table of examples: a ruling that falls, by either way.
func TestExampleOfAFall(t *testing.T) {
	f := exampleField()
	l, e := court.Append(f, heard(), api.Step{Id: 6, Day: 100, Kind: api.StepWithdraw, Of: 1})
	expect.Errno(t, "Append of withdraw 1", e, api.OK)
	expect.List(t, "Falls", court.Falls(l, 6), 5)
	expect.Equal(t, "Case on 100", court.Case(l, 3, 100), api.CaseFallen)
	x, e := court.Read(f, "6 100 record jones 1700 0 stone dyke oak 100 0")
	expect.Errno(t, "Read", e, api.OK)
	l, e = court.Append(f, heard(), x)
	expect.Errno(t, "Append of the record", e, api.OK)
	x, is, e := court.Aside(f, l, 100)
	expect.Errno(t, "Aside", e, api.OK)
	expect.Equal(t, "Aside", is && isSame(x, api.Step{Id: 7, Day: 100, Kind: api.StepAside, Of: 2, Proof: []int{1, 2, 6}}), true)
	l, e = court.Append(f, l, x)
	expect.Errno(t, "Append of this", e, api.OK)
	expect.List(t, "Falls", court.Falls(l, 7), 5)
	expect.List(t, "Standing on 100", idsOf(court.Standing(l, 100)), 1, 6)
}

// arguments is all that functions of the package may be given.
type arguments struct {
	f                         api.Field
	l                         []api.Step
	x                         api.Step
	records                   []api.Record
	ids                       []int
	line                      string
	day, late, id, matter, of int
}

// good returns arguments with which no function has an error, or an empty result.
func good() arguments {
	l := followed(heard(), claim(90, 265, 300), of(api.StepNotice, 90, 6), ranked(100, 1700, 0, "stone dyke oak 100 0"), aside(100, 2, 1, 2, 8), withdraw(110, 8),
		rule(115, 3, api.AwardNorth, 1, 2), ranked(115, 1700, 0, "stone dyke oak 100 0"))
	a := arguments{f: wide(), l: l, line: "9 40 rule 3 north 1 2 8", day: 130, late: 180, id: 10, matter: 3, of: 2, ids: []int{1, 2, 8}}
	a.x = api.Step{Id: 13, Day: 130, Kind: api.StepAside, Of: 2, Proof: []int{1, 2, 12}}
	for _, x := range l {
		if x.Kind == api.StepRecord {
			a.records = append(a.records, x.Record)
		}
	}
	return a
}

// clone returns arguments in memory of their own.
func (a arguments) clone() arguments {
	a.f.Stations, a.f.Limits = slices.Clone(a.f.Stations), slices.Clone(a.f.Limits)
	a.f.Parcels, a.f.Variations = slices.Clone(a.f.Parcels), slices.Clone(a.f.Variations)
	a.l, a.x = clone(a.l), clone([]api.Step{a.x})[0]
	a.records, a.ids = slices.Clone(a.records), slices.Clone(a.ids)
	return a
}

type results = []any

// function is a function of the package; its results without the error, and the error, if it returns one.
type function struct {
	name   string
	field  bool // it is given a field
	docket bool // it is given a field and a docket
	run    func(a arguments) (results, api.Errno)
}

// free returns the results of a function that has no error.
func free(x ...any) (results, api.Errno) { return x, api.OK }

// calls returns all functions.
func calls() []function { return slices.Concat(fieldCalls(), dayCalls(), otherCalls()) }

// fieldCalls returns the functions with a field.
func fieldCalls() []function {
	return []function{
		{"CheckStep", true, false, func(a arguments) (results, api.Errno) { return nil, court.CheckStep(a.f, a.x) }},
		{"Check", true, true, func(a arguments) (results, api.Errno) {
			_, e := court.Check(a.f, a.l)
			return nil, e
		}},
		{"Append", true, true, func(a arguments) (results, api.Errno) { return expect.One(court.Append(a.f, a.l, a.x)) }},
		{"Conflict", true, true, func(a arguments) (results, api.Errno) { return expect.Two(court.Conflict(a.f, a.l, a.late)) }},
		{"Aside", true, true, func(a arguments) (results, api.Errno) {
			x, is, e := court.Aside(a.f, a.l, a.day)
			return results{x.Id, x.Of, x.Proof, is}, e
		}},
		{"Settle", true, true, func(a arguments) (results, api.Errno) { return expect.One(court.Settle(a.f, a.l, a.day)) }},
		{"Propose", true, true, func(a arguments) (results, api.Errno) {
			x, is, e := court.Propose(a.f, a.l[:min(len(a.l), 11)], 6, a.day)
			return results{x.Id, x.Of, x.Proof, is}, e
		}},
		{"Write", true, false, func(a arguments) (results, api.Errno) { return expect.One(court.Write(a.f, a.x)) }},
		{"Read", true, false, func(a arguments) (results, api.Errno) {
			x, e := court.Read(a.f, a.line)
			return results{x.Id, x.Kind, x.Of, x.Proof}, e
		}},
	}
}

// dayCalls returns the functions of a docket alone.
func dayCalls() []function {
	return []function{
		{"Standing", false, false, func(a arguments) (results, api.Errno) { return free(court.Standing(a.l, a.day)) }},
		{"Rulings", false, false, func(a arguments) (results, api.Errno) { return free(court.Rulings(a.l, a.day)) }},
		{"Stands", false, false, func(a arguments) (results, api.Errno) { return free(court.Stands(a.l, a.of, a.day)) }},
		{"Falls", false, false, func(a arguments) (results, api.Errno) { return free(court.Falls(a.l, a.id)) }},
		{"Back", false, false, func(a arguments) (results, api.Errno) { return free(court.Back(a.l, a.id)) }},
		{"WouldFall", false, false, func(a arguments) (results, api.Errno) { return free(court.WouldFall(a.l, a.of, a.day)) }},
		{"Case", false, false, func(a arguments) (results, api.Errno) { return free(court.Case(a.l, a.matter, a.day)) }},
		{"Cases", false, false, func(a arguments) (results, api.Errno) { return free(court.Cases(a.l, a.day)) }},
		{"Ruling", false, false, func(a arguments) (results, api.Errno) {
			id, is := court.Ruling(a.l, a.matter, a.day)
			return free(id, is)
		}},
		{"Deadline", false, false, func(a arguments) (results, api.Errno) {
			day, is := court.Deadline(a.l, a.matter, a.day)
			return free(day, is)
		}},
		{"Due", false, false, func(a arguments) (results, api.Errno) { return free(court.Due(a.l, a.day)) }},
		{"Awards", false, false, func(a arguments) (results, api.Errno) { return free(court.Awards(a.l, a.late)) }},
	}
}

// otherCalls returns the functions of records.
func otherCalls() []function {
	return []function{
		{"Before", false, false, func(a arguments) (results, api.Errno) {
			if len(a.records) < 3 {
				return nil, api.OK
			}
			return free(court.Before(a.records[2], a.records[1]))
		}},
		{"Sorted", false, false, func(a arguments) (results, api.Errno) { return free(court.Sorted(a.records)) }},
		{"LastOf", false, false, func(a arguments) (results, api.Errno) {
			id, is := court.LastOf(a.records, a.ids)
			return free(id, is)
		}},
	}
}

// empty says whether all results are zero values, where empty slices are as good as nil.
func empty(l results) bool {
	return !slices.ContainsFunc(l, func(x any) bool {
		v := reflect.ValueOf(x)
		return !v.IsZero() && (v.Kind() != reflect.Slice || v.Len() > 0)
	})
}

// alike says whether two results are equal, where empty lists are as good as nil.
func alike(x, y any) bool {
	l, steps := x.([]api.Step)
	m, too := y.([]api.Step)
	return steps && too && slices.EqualFunc(l, m, isSame) || reflect.DeepEqual(x, y)
}

// The error of the field comes first, then that of the docket; results are empty with an error.
func TestErrorsInOrder(t *testing.T) {
	for _, c := range calls() {
		l, e := c.run(good())
		expect.Errno(t, c.name, e, api.OK)
		expect.Equal(t, c.name+" says something", len(l) == 0 || !empty(l), true)
		for want, f := range faults() {
			a := good()
			a.f, a.day, a.late, a.x.Id, a.line = f, -1, -1, 0, "x"
			if c.docket {
				a.l = append(a.l, api.Step{})
			}
			l, e = c.run(a)
			if c.field {
				expect.Errno(t, c.name+" without a field", e, want)
				expect.Equal(t, c.name+" without a field is empty", empty(l), true)
			}
		}
		for i, x := range map[int]api.Step{0: {}, 1: withdraw(1, 1), 2: of(api.StepNotice, 2, 1), 3: of(api.StepView, 3, 3), 4: rule(33, 3, api.AwardNorth, 1, 2), 5: {Kind: 10}} {
			a := good()
			x.Id = i + 1
			a.l[i] = x
			a.day, a.late, a.x = -1, -1, api.Step{}
			if c.docket {
				_, want := court.Check(a.f, a.l)
				l, e = c.run(a)
				expect.Equal(t, c.name+" of what is refused has an error", e == want && want != api.OK, true)
				expect.Equal(t, c.name+" of what is refused is empty", empty(l), true)
			}
		}
	}
}

// R3, R4: arguments stay as they are, also behind their end, results are new memory, and a call says the same again.
func TestMemory(t *testing.T) {
	for _, c := range calls() {
		a := roomy(good())
		before := a.clone()
		first, e := c.run(a)
		expect.Errno(t, c.name, e, api.OK)
		expect.Equal(t, c.name+" leaves its arguments", reflect.DeepEqual(a, before), true)
		expect.Equal(t, c.name+" leaves what lies behind them", untouched(a), true)
		want, _ := c.run(good())
		spoil(a)
		expect.Equal(t, c.name+" keeps no memory", slices.EqualFunc(first, want, alike), true)
		for range 3 {
			again, _ := c.run(good())
			expect.Equal(t, c.name+" says the same again", reflect.DeepEqual(again, want), true)
		}
	}
}

// R3: the lists within steps that are returned share no memory with each other, or with arguments.
func TestMemoryWithinResults(t *testing.T) {
	a := good()
	appended, _ := court.Append(a.f, a.l, a.x)
	settled, _ := court.Settle(a.f, a.l, a.day)
	for name, l := range map[string][]api.Step{"Append": appended, "Settle": settled} {
		expect.Equal(t, name, len(l), len(a.l)+1)
		want := clone(l)
		for i := range l {
			_ = append(l[i].Proof, 77)
			clear(l[i].Proof)
			for k := i + 1; k < len(l); k++ {
				expect.List(t, name+": another proof", l[k].Proof, want[k].Proof...)
			}
		}
	}
	expect.List(t, "the proof of the argument", a.x.Proof, 1, 2, 12)
	expect.Equal(t, "the docket of the argument", slices.EqualFunc(a.l, good().l, isSame), true)
	records := court.Sorted(a.records)
	clear(records)
	expect.List(t, "the records of the argument", a.records, good().records...)
}

// room is what lies behind the lists of roomy arguments.
var room = api.Step{Id: 77}

// behind returns numbers with 77 behind them.
func behind(l []int) []int { return append(slices.Clone(l), 77, 77, 77)[:len(l)] }

// roomy returns arguments whose lists have room behind their end, with 77 in it.
func roomy(a arguments) arguments {
	for i := range a.l {
		a.l[i].Proof = behind(a.l[i].Proof)
	}
	a.x.Proof, a.ids = behind(a.x.Proof), behind(a.ids)
	a.l = append(slices.Clone(a.l), room, room, room)[:len(a.l)]
	a.records = append(slices.Clone(a.records), api.Record{Id: 77})[:len(a.records)]
	a.f.Limits = append(slices.Clone(a.f.Limits), "77")[:len(a.f.Limits)]
	return a
}

// untouched says whether nothing has changed behind the lists of roomy arguments.
func untouched(a arguments) bool {
	whole := func(l []int) bool { return slices.Equal(l[len(l):len(l)+3], []int{77, 77, 77}) }
	for _, x := range append(slices.Clone(a.l), a.x) {
		if !whole(x.Proof) {
			return false
		}
	}
	return whole(a.ids) && slices.EqualFunc(a.l[len(a.l):len(a.l)+3], []api.Step{room, room, room}, isSame) &&
		a.records[:len(a.records)+1][len(a.records)].Id == 77 && a.f.Limits[:len(a.f.Limits)+1][len(a.f.Limits)] == "77"
}

// spoil overwrites the memory of arguments.
func spoil(a arguments) {
	for _, x := range append(slices.Clone(a.l), a.x) {
		clear(x.Proof)
	}
	clear(a.l)
	clear(a.records)
	clear(a.ids)
	clear(a.f.Stations)
	clear(a.f.Limits)
	clear(a.f.Parcels)
	clear(a.f.Variations)
}

// R3: nil and empty lists are the same.
func TestNilAndEmpty(t *testing.T) {
	for _, c := range calls() {
		one := arguments{f: wide(), day: 5}
		two := arguments{f: wide(), l: []api.Step{}, x: api.Step{Proof: []int{}}, records: []api.Record{}, ids: []int{}, day: 5}
		l, e := c.run(one)
		m, g := c.run(two)
		expect.Errno(t, c.name, g, e)
		expect.Equal(t, c.name, empty(l) == empty(m), true)
		filled, hollow := good(), good()
		for i := range hollow.l {
			hollow.l[i].Proof = append([]int{}, hollow.l[i].Proof...)
		}
		l, _ = c.run(filled)
		m, e = c.run(hollow)
		expect.Errno(t, c.name, e, api.OK)
		expect.Equal(t, c.name, slices.EqualFunc(l, m, alike), true)
	}
	f, _ := deed.ParseField("station ash 0\nstation oak 1000\nlimit dyke\n")
	hollow := f
	hollow.Parcels, hollow.Variations = []api.Parcel{}, []api.Variation{}
	x := numbered(record(1, "stone dyke ash 5 5"))
	check(t, "a field without parcels", f, x, 0, api.OK)
	check(t, "a field with no parcels", hollow, x, 0, api.OK)
	check(t, "a claim without parcels", f, numbered(claim(1, 5, 6)), 0, api.ErrArg)
}

// strange returns a number that is often small, and otherwise at an end of what is allowed.
func strange(r *rand.Rand) int {
	if r.IntN(2) > 0 {
		return r.IntN(15)
	}
	ends := []int{math.MinInt, math.MinInt + 1, -1000001, -1, 0, 1, 13, 130, 399, 400, 401, 1000, 1001, 3000, 3001, 100000, 100001, 1000000, 1000001, math.MaxInt - 60, math.MaxInt}
	return ends[r.IntN(len(ends))]
}

// spoiled returns a step of which some fields are replaced by anything.
func spoiled(r *rand.Rand, x api.Step) api.Step {
	numbers := []*int{
		&x.Id, &x.Day, &x.Of, &x.Party, &x.Strip.Limit, &x.Strip.Station, &x.Strip.From, &x.Strip.To, &x.Record.Id, &x.Record.Day, &x.Record.Year, &x.Record.Rank,
		&x.Record.Call.Limit, &x.Record.Call.Other, &x.Record.Call.From, &x.Record.Call.To, &x.Record.Call.Size, &x.Record.Call.Error, &x.Record.Call.Course.Links, &x.Record.Call.Course.Bearing,
	}
	for _, p := range numbers {
		if r.IntN(12) == 0 {
			*p = strange(r)
		}
	}
	for _, p := range []*uint8{&x.Kind, &x.Award, &x.Record.Call.Kind} {
		if r.IntN(6) == 0 {
			*p = uint8(r.IntN(12))
		}
	}
	if r.IntN(6) == 0 {
		x.Kind = uint8(strange(r))
	}
	if r.IntN(4) == 0 {
		x.Proof = []int{strange(r), strange(r), strange(r)}[:r.IntN(4)]
	}
	return x
}

// wild returns good arguments of which some are replaced by anything.
func wild(r *rand.Rand) arguments {
	a := good()
	for _, p := range []*int{&a.day, &a.late, &a.id, &a.matter, &a.of, &a.ids[r.IntN(len(a.ids))]} {
		if r.IntN(3) == 0 {
			*p = strange(r)
		}
	}
	if r.IntN(2) == 0 {
		a.x = spoiled(r, a.x)
	}
	for range r.IntN(5) {
		i := r.IntN(len(a.l))
		a.l[i] = spoiled(r, a.l[i])
	}
	if r.IntN(8) == 0 {
		r.Shuffle(len(a.l), func(i, j int) { a.l[i], a.l[j] = a.l[j], a.l[i] })
	}
	a.l = a.l[:len(a.l)-r.IntN(3)*r.IntN(3)]
	for i := range a.records {
		a.records[i] = spoiled(r, api.Step{Record: a.records[i]}).Record
	}
	if r.IntN(6) == 0 {
		f := []*int{&a.f.Stations[1].X, &a.f.Parcels[0].South, &a.f.Parcels[0].From, &a.f.Parcels[1].To, &a.f.Variations[0].Year}
		*f[r.IntN(len(f))] = strange(r)
	}
	at := r.IntN(len(a.line))
	a.line = a.line[:at] + string(rune(r.IntN(300))) + a.line[at:]
	return a
}

// R1, R2: whatever the arguments are, all functions return, and errors leave nothing.
func TestWildArguments(t *testing.T) {
	r := rand.New(rand.NewPCG(1, 8))
	right := 0
	for range 1500 {
		a := wild(r)
		for _, c := range calls() {
			l, e := c.run(a)
			if e != api.OK && !empty(l) {
				t.Fatalf("%s has error %d and %v of %v", c.name, e, l, a)
			}
			if c.docket && e == api.OK {
				right++
			}
		}
	}
	if right < 300 {
		t.Errorf("%d dockets are valid", right)
	}
}

// Dockets that are refused: every function returns, also for many steps with one Id.
func TestManyWrongSteps(t *testing.T) {
	for _, kind := range []uint8{0, 1, 2, 3, 4, 7, 8, 9, 10, 255} {
		a := good()
		for range 3000 {
			a.l = append(a.l, api.Step{Id: 5, Day: 131, Kind: kind, Of: 5, Proof: []int{5, 5, 1}}, api.Step{Id: -1, Day: -1, Kind: kind, Of: 3})
		}
		for _, c := range calls() {
			_, e := c.run(a)
			expect.Equal(t, c.name, e != api.OK, c.docket && c.name != "Propose")
		}
	}
}

// The section Limits, and the numbers of kinds, states and errors.
func TestNumbers(t *testing.T) {
	for _, x := range []struct {
		name      string
		got, want int
	}{
		{"MaxSteps", api.MaxSteps, 400}, {"MaxRecords", api.MaxRecords, 300}, {"MaxBounds", api.MaxBounds, 2000}, {"MaxDay", api.MaxDay, 100000}, {"ObjectDays", api.ObjectDays, 30}, {"AppealDays", api.AppealDays, 60},
		{"StepRecord", int(api.StepRecord), 1}, {"StepWithdraw", int(api.StepWithdraw), 2}, {"StepClaim", int(api.StepClaim), 3}, {"StepNotice", int(api.StepNotice), 4}, {"StepObject", int(api.StepObject), 5},
		{"StepView", int(api.StepView), 6}, {"StepRule", int(api.StepRule), 7}, {"StepAside", int(api.StepAside), 8}, {"StepAppeal", int(api.StepAppeal), 9}, {"CaseNone", int(api.CaseNone), 0},
		{"CaseOpen", int(api.CaseOpen), 1}, {"CaseTold", int(api.CaseTold), 2}, {"CaseFought", int(api.CaseFought), 3}, {"CaseViewed", int(api.CaseViewed), 4}, {"CaseRuled", int(api.CaseRuled), 5},
		{"CaseFinal", int(api.CaseFinal), 6}, {"CaseAppealed", int(api.CaseAppealed), 7}, {"CaseFallen", int(api.CaseFallen), 8},
		{"ErrProof", int(api.ErrProof), 80}, {"ErrEarly", int(api.ErrEarly), 81}, {"ErrLate", int(api.ErrLate), 82},
	} {
		expect.Equal(t, x.name, x.got, x.want)
	}
}
