package court_test

import (
	"math"
	"strings"
	"testing"

	"merestone/api"
	"merestone/court"
	"merestone/deed"
	"merestone/expect"
)

// rightSteps returns a right step of each kind, by its kind, with the Id 9 and the Day 40.
func rightSteps() map[uint8]api.Step {
	l := map[uint8]api.Step{
		api.StepRecord: record(40, "width dyke burn oak 300 5"),
		api.StepClaim:  claim(40, 265, 300),
		api.StepRule:   rule(40, 3, api.AwardSouth, 1, 2, 8),
		api.StepAside:  aside(40, 2, 2, 5),
	}
	for _, kind := range []uint8{api.StepWithdraw, api.StepNotice, api.StepObject, api.StepView, api.StepAppeal} {
		l[kind] = of(kind, 40, 3)
	}
	for kind, x := range l {
		x.Id = 9
		if kind == api.StepRecord {
			x.Record.Id = 9
		}
		l[kind] = x
	}
	return l
}

// change is a change of a step, and the kinds of steps that are right behind it, too.
type change struct {
	name  string
	right string // digits of kinds
	do    func(x *api.Step)
}

// recorded changes a number of a step, and that of its record, if it has one.
func recorded(x *api.Step, id, day int) {
	x.Id, x.Day = id, day
	if x.Kind == api.StepRecord {
		x.Record.Id, x.Record.Day = id, day
	}
}

// changes returns changes of steps.
func changes() []change {
	all, ofs := "123456789", "2456789"
	var l []change
	add := func(name, right string, do func(x *api.Step)) { l = append(l, change{name, right, do}) }
	add("nothing", all, func(x *api.Step) {})
	for _, id := range []int{math.MinInt, -9, -1, 0, 401, 402, math.MaxInt} {
		add("Id", "", func(x *api.Step) { recorded(x, id, x.Day) })
	}
	add("the greatest Id", all, func(x *api.Step) { recorded(x, 400, x.Day) })
	add("an Id of 1", "13", func(x *api.Step) { recorded(x, 1, x.Day) })
	for _, day := range []int{math.MinInt, -1, 100001, math.MaxInt} {
		add("Day", "", func(x *api.Step) { recorded(x, x.Id, day) })
	}
	for _, day := range []int{0, 1, 99999, 100000} {
		add("a Day at the end", all, func(x *api.Step) { recorded(x, x.Id, day) })
	}
	for _, kind := range []uint8{0, 10, 11, 128, 255} {
		add("Kind", "", func(x *api.Step) { x.Kind = kind })
	}
	for _, n := range []int{math.MinInt, -1, 9, 10, math.MaxInt} {
		add("Of", "", func(x *api.Step) { x.Of = n })
		add("a number of Proof", "", func(x *api.Step) { x.Proof = []int{n} })
	}
	add("no Of", "13", func(x *api.Step) { x.Of = 0 })
	add("Of 1", ofs, func(x *api.Step) { x.Of = 1 })
	add("Of before Id", ofs, func(x *api.Step) { x.Of = 8 })
	for _, party := range []int{math.MinInt, -1, 2, 3, math.MaxInt} {
		add("Party", "", func(x *api.Step) { x.Party = party })
	}
	add("the last Party", "3", func(x *api.Step) { x.Party = 1 })
	add("AwardOpen", all, func(x *api.Step) { x.Award = api.AwardOpen })
	add("AwardNorth", "7", func(x *api.Step) { x.Award = api.AwardNorth })
	add("AwardSouth", "7", func(x *api.Step) { x.Award = api.AwardSouth })
	add("Award 3", "", func(x *api.Step) { x.Award = 3 })
	add("Award 255", "", func(x *api.Step) { x.Award = 255 })
	add("no Proof", all, func(x *api.Step) { x.Proof = nil })
	add("an empty Proof", all, func(x *api.Step) { x.Proof = []int{} })
	add("all as Proof", "78", func(x *api.Step) { x.Proof = []int{1, 2, 3, 4, 5, 6, 7, 8} })
	for _, proof := range [][]int{{0}, {0, 1}, {1, 1}, {2, 1}, {1, 9}, {1, 3, 2}, {1, 2, 2}, {-1, 1}, {8, 8}, {1, math.MinInt}, {1, 2, 3, 4, 5, 6, 7, 8, 9}} {
		add("Proof", "", func(x *api.Step) { x.Proof = proof })
	}
	return append(append(l, stripChanges()...), recordChanges()...)
}

// stripChanges returns changes of the strip.
func stripChanges() []change {
	var l []change
	for _, s := range []api.Strip{{To: 1}, {Limit: 2, Station: 2, To: 100000}, {Limit: 1, From: 99999, To: 100000}, {Station: 1, From: 1, To: 2}} {
		l = append(l, change{"a strip", "3", func(x *api.Step) { x.Strip = s }})
	}
	for _, s := range []api.Strip{
		{Limit: 3, To: 1}, {Limit: -1, To: 1}, {Station: 3, To: 1}, {Station: -1, To: 1}, {From: -1, To: 1}, {From: 5, To: 5}, {From: 6, To: 5}, {From: 5, To: 100001},
		{From: 100000, To: 100001}, {Limit: math.MinInt, To: 1}, {Limit: math.MaxInt, To: 1}, {Station: math.MaxInt, To: 1}, {From: math.MinInt, To: math.MaxInt},
	} {
		l = append(l, change{"a strip that is not valid", "", func(x *api.Step) { x.Strip = s }})
	}
	return append(l, change{"no strip", "12456789", func(x *api.Step) { x.Strip = api.Strip{} }})
}

// recordChanges returns changes of the record that leave no step right.
func recordChanges() []change {
	var l []change
	add := func(name string, do func(r *api.Record)) {
		l = append(l, change{name, "", func(x *api.Step) { do(&x.Record) }})
	}
	add("the Record's Id", func(r *api.Record) { r.Id = 8 })
	add("the Record's Day", func(r *api.Record) { r.Day = 39 })
	add("the Record's Deed", func(r *api.Record) { r.Deed = "Smith" })
	add("the Record's Year", func(r *api.Record) { r.Year = 3001 })
	add("the Record's Rank", func(r *api.Record) { r.Rank = -1 })
	add("the Record's Kind", func(r *api.Record) { r.Call.Kind = 6 })
	add("the Record's Limit", func(r *api.Record) { r.Call.Limit = 5 })
	add("the Record's Course", func(r *api.Record) { r.Call.Course.Links = 5 })
	return append(l, change{"no Record", "23456789", func(x *api.Step) { x.Record = api.Record{} }})
}

// H1: the fields of each kind, those that it does not use, and what it may not have in those that it uses.
func TestCheckStep(t *testing.T) {
	for kind, right := range rightSteps() {
		for _, c := range changes() {
			x := clone([]api.Step{right})[0]
			c.do(&x)
			want := api.ErrArg
			if strings.Contains(c.right, string('0'+rune(kind))) {
				want = api.OK
			}
			if e := court.CheckStep(wide(), x); e != want {
				t.Errorf("%s, the kind %d: CheckStep of %v: error %d, want %d", c.name, kind, x, e, want)
			}
		}
	}
	expect.Errno(t, "a zero step", court.CheckStep(wide(), api.Step{}), api.ErrArg)
}

// H1: the errors of a record come behind those of the step.
func TestCheckStepOfRecords(t *testing.T) {
	course := ranked(40, 1800, 1, "course dyke ash oak 10 chains by east give 2 wear 0 slack 100")
	course = numbered(course)[0]
	expect.Errno(t, "a course", court.CheckStep(wide(), course), api.OK)
	for _, x := range []struct {
		name string
		do   func(r *api.Record)
		want api.Errno
	}{
		{"no declination", func(r *api.Record) { r.Year, r.Call.Course.Year = 1699, 1699 }, api.ErrCompass},
		{"nothing fits", func(r *api.Record) { r.Call.Course.Links = 100 }, api.ErrNone},
		{"another year", func(r *api.Record) { r.Year = 1801 }, api.ErrArg},
	} {
		y := course
		x.do(&y.Record)
		expect.Errno(t, x.name, court.CheckStep(wide(), y), x.want)
		for _, spoil := range []func(z *api.Step){
			func(z *api.Step) { z.Id, z.Record.Id = 401, 401 }, func(z *api.Step) { z.Day = -1 }, func(z *api.Step) { z.Record.Id = 2 }, func(z *api.Step) { z.Record.Day = 41 },
			func(z *api.Step) { z.Of = 1 }, func(z *api.Step) { z.Proof = []int{1} }, func(z *api.Step) { z.Party = 1 }, func(z *api.Step) { z.Award = 1 }, func(z *api.Step) { z.Strip.To = 1 },
		} {
			z := y
			spoil(&z)
			expect.Errno(t, x.name+" and more", court.CheckStep(wide(), z), api.ErrArg)
		}
	}
}

// faults returns fields that are not valid, by their errors.
func faults() map[api.Errno]api.Field {
	change := func(do func(f *api.Field)) api.Field {
		f := wide()
		do(&f)
		return f
	}
	return map[api.Errno]api.Field{
		api.ErrNone:  {},
		api.ErrLimit: change(func(f *api.Field) { f.Parcels = make([]api.Parcel, 41) }),
		api.ErrArg:   change(func(f *api.Field) { f.Parcels[0].To = 3 }),
		api.ErrForm:  change(func(f *api.Field) { f.Limits[0] = "Dyke" }),
		api.ErrTwice: change(func(f *api.Field) { f.Limits[0] = "hill" }),
		api.ErrOrder: change(func(f *api.Field) { f.Stations[1].X = 0 }),
	}
}

// H1, H2: the error of the field comes first, with the index 0.
func TestFields(t *testing.T) {
	for want, f := range faults() {
		expect.Errno(t, "CheckField", deed.CheckField(f), want)
		for _, x := range rightSteps() {
			expect.Errno(t, "CheckStep", court.CheckStep(f, x), want)
		}
		expect.Errno(t, "CheckStep of a zero step", court.CheckStep(f, api.Step{}), want)
		check(t, "no steps", f, nil, 0, want)
		check(t, "steps", f, heard(), 0, want)
		check(t, "a step that is refused", f, append(heard(), api.Step{}), 0, want)
		check(t, "too many", f, make([]api.Step, 401), 0, want)
	}
}

// H2: what comes before the kind of a step: 400 steps, CheckStep, Id, Day.
func TestCheck(t *testing.T) {
	check(t, "no steps", wide(), nil, 0, api.OK)
	check(t, "no steps", wide(), []api.Step{}, 0, api.OK)
	check(t, "the example", exampleField(), heard(), 0, api.OK)
	for i := range heard() {
		check(t, "a beginning", wide(), heard()[:i], 0, api.OK)
		for _, x := range []struct {
			name string
			do   func(x *api.Step)
			want api.Errno
		}{
			{"Kind", func(x *api.Step) { x.Kind = 0 }, api.ErrArg}, {"Award", func(x *api.Step) { x.Award = 3 }, api.ErrArg}, {"Id", func(x *api.Step) { recorded(x, x.Id+1, x.Day) }, api.ErrArg},
			{"Id", func(x *api.Step) { recorded(x, 0, x.Day) }, api.ErrArg}, {"Id and Day", func(x *api.Step) { recorded(x, x.Id+1, 0) }, api.ErrArg},
			{"Of", func(x *api.Step) { x.Of = x.Id }, api.ErrArg}, {"Day", func(x *api.Step) { recorded(x, x.Id, -1) }, api.ErrArg},
		} {
			l := heard()
			x.do(&l[i])
			check(t, x.name, wide(), l, i, x.want)
			l = append(l, api.Step{})
			check(t, x.name+" before another one", wide(), l, i, x.want)
		}
		l := heard()
		recorded(&l[i], i+1, l[max(i-1, 0)].Day-1)
		check(t, "a day that falls", wide(), l, i, map[bool]api.Errno{true: api.ErrTime, false: api.OK}[i > 0])
	}
	l := heard()
	l[4].Day, l[4].Award = 2, api.AwardSouth
	check(t, "ErrTime before ErrProof", wide(), l, 4, api.ErrTime)
	l[4].Kind = 0
	check(t, "ErrArg before ErrTime", wide(), l, 4, api.ErrArg)
	l = heard()
	l[1].Id, l[1].Record.Id, l[1].Record.Year = 3, 3, 0
	check(t, "an Id that does not follow", wide(), l, 1, api.ErrArg)
}

// H2: 400 steps are right, and 401 are not; one that is refused before decides.
func TestCheckCount(t *testing.T) {
	var l []api.Step
	for range 401 {
		l = append(l, claim(5, 10, 20))
	}
	l = numbered(l...)
	check(t, "400", wide(), l[:400], 0, api.OK)
	check(t, "401", wide(), l, 400, api.ErrLimit)
	check(t, "401 zero steps behind", wide(), append(clone(l[:400]), api.Step{}, api.Step{}), 400, api.ErrLimit)
	wrong := clone(l)
	wrong[399].Day = 4
	check(t, "one before", wide(), wrong, 399, api.ErrTime)
	wrong[0].Day = 6
	check(t, "two before", wide(), wrong, 1, api.ErrTime)
	got, e := court.Append(wide(), l[:399], l[399])
	expect.Errno(t, "Append of the last one", e, api.OK)
	expect.Equal(t, "Append of the last one", len(got), 400)
	for name, m := range map[string][]api.Step{"the docket": l[:400], "too long a docket": l} {
		got, e = court.Append(wide(), m, l[400])
		expect.Errno(t, "Append to "+name, e, api.ErrLimit)
		expect.Equal(t, "Append to "+name, len(got), 0)
	}
}

// H2: Append returns the docket with the step, or the first error.
func TestAppend(t *testing.T) {
	l := heard()
	for i, x := range l {
		got, e := court.Append(wide(), l[:i], x)
		expect.Errno(t, "Append", e, api.OK)
		expect.Equal(t, "steps", len(got), i+1)
		for k := range got {
			expect.Equal(t, "a step", isSame(got[k], l[k]), true)
		}
	}
	refused := append(clone(l), claim(35, 5, 5))
	for _, x := range []struct {
		l    []api.Step
		x    api.Step
		want api.Errno
	}{
		{l, api.Step{Id: 6, Day: 33, Kind: api.StepAppeal, Of: 3}, api.ErrTime}, {l, api.Step{Id: 7, Day: 40, Kind: api.StepAppeal, Of: 3}, api.ErrArg},
		{l, api.Step{Id: 6, Day: 40, Kind: api.StepView, Of: 3}, api.ErrState}, {l, api.Step{Id: 6, Day: 95, Kind: api.StepAppeal, Of: 3}, api.ErrLate},
		{l, api.Step{}, api.ErrArg}, {refused, api.Step{Id: 7, Day: 33, Kind: api.StepAppeal, Of: 3}, api.ErrArg}, {l[1:], l[4], api.ErrArg},
	} {
		got, e := court.Append(wide(), x.l, x.x)
		expect.Errno(t, "Append", e, x.want)
		expect.Equal(t, "steps", len(got), 0)
	}
	_, e := court.Append(api.Field{}, l, api.Step{})
	expect.Errno(t, "Append without a field", e, api.ErrNone)
}
