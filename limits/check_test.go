package limits_test

import (
	"math"
	"math/rand/v2"
	"slices"
	"strings"
	"testing"

	"merestone/api"
	"merestone/deed"
	"merestone/expect"
	"merestone/limits"
)

// judged is a change of a record, and the error that it has then.
type judged struct {
	name   string
	change func(r *api.Record)
	want   api.Errno
}

// course is a right call of the example.
func courseCall() api.Call {
	c, _ := deed.ReadCall(example(), "course dyke ash oak 10 chains by east give 2 wear 0 slack 100", 1750)
	return c
}

// rightChanges returns changes of the second record of the example after which it is right.
func rightChanges() []judged {
	var l []judged
	add := func(name string, change func(r *api.Record)) { l = append(l, judged{name, change, api.OK}) }
	add("nothing", func(r *api.Record) {})
	add("a course", func(r *api.Record) { r.Call, r.Year = courseCall(), 1750 })
	add("a course of the first year", func(r *api.Record) { r.Call, r.Year = courseCall(), 1700; r.Call.Course.Year = 1700 })
	add("a course of the last year", func(r *api.Record) { r.Call, r.Year = courseCall(), 3000; r.Call.Course.Year = 3000 })
	for _, day := range []int{0, 1, 99999, 100000} {
		add("Day", func(r *api.Record) { r.Day = day })
	}
	for _, s := range []string{"a", "z", "a0-9z", "a-", "z--", strings.Repeat("a", 24), "deed-1"} {
		add("the name "+s, func(r *api.Record) { r.Deed = s })
	}
	for _, year := range []int{1, 2, 1699, 3000} {
		add("Year", func(r *api.Record) { r.Year = year })
	}
	for _, rank := range []int{0, 1, 999, 1000} {
		add("Rank", func(r *api.Record) { r.Rank = rank })
	}
	return l
}

// wrongChanges returns changes of the second record of the example after which it is refused.
func wrongChanges() []judged {
	var l []judged
	add := func(name string, want api.Errno, change func(r *api.Record)) {
		l = append(l, judged{name, change, want})
	}
	for _, id := range []int{math.MinInt, -1, 0, 1, 1000001, math.MaxInt} {
		add("Id", api.ErrArg, func(r *api.Record) { r.Id = id })
	}
	for _, day := range []int{math.MinInt, -1, 100001, math.MaxInt} {
		add("Day", api.ErrArg, func(r *api.Record) { r.Day = day })
	}
	for _, s := range []string{"", "A", "0a", "-a", "a b", "aB", "a_", "ä", "a\n", " a", strings.Repeat("a", 25)} {
		add("the name "+s, api.ErrArg, func(r *api.Record) { r.Deed = s })
	}
	for _, year := range []int{math.MinInt, -1, 0, 3001, math.MaxInt} {
		add("Year", api.ErrArg, func(r *api.Record) { r.Year = year })
	}
	for _, rank := range []int{math.MinInt, -1, 1001, math.MaxInt} {
		add("Rank", api.ErrArg, func(r *api.Record) { r.Rank = rank })
	}
	for _, kind := range []uint8{0, 6, 255} {
		add("Kind", api.ErrArg, func(r *api.Record) { r.Call.Kind = kind })
	}
	add("no such limit", api.ErrArg, func(r *api.Record) { r.Call.Limit = 2 })
	add("no such station", api.ErrArg, func(r *api.Record) { r.Call.To = 3 })
	add("equal stations", api.ErrArg, func(r *api.Record) { r.Call.To = 0 })
	add("Error", api.ErrArg, func(r *api.Record) { r.Call.Error = 100001 })
	add("Other is not named", api.ErrArg, func(r *api.Record) { r.Call.Other = 1 })
	add("nothing", api.ErrArg, func(r *api.Record) { *r = api.Record{} })
	course := func(r *api.Record, year int) { r.Call, r.Year = courseCall(), year }
	for _, year := range []int{1, 1749, 1751, 3000} {
		add("a course of another year", api.ErrArg, func(r *api.Record) { course(r, year) })
	}
	add("a course of no year", api.ErrArg, func(r *api.Record) { course(r, 1750); r.Call.Course.Year = 0 })
	add("no declination", api.ErrCompass, func(r *api.Record) { course(r, 1699); r.Call.Course.Year = 1699 })
	add("no declination, and another year", api.ErrCompass, func(r *api.Record) { course(r, 1750); r.Call.Course.Year = 1699 })
	add("nothing fits", api.ErrNone, func(r *api.Record) { course(r, 1750); r.Call.Course.Links = 100 })
	add("nothing fits, and another year", api.ErrNone, func(r *api.Record) { course(r, 1751); r.Call.Course.Links = 100 })
	return append(l, wrongTwice()...)
}

// wrongTwice returns changes to a call without declination, or to which nothing fits, and of what comes before it.
func wrongTwice() []judged {
	var l []judged
	for _, x := range []judged{
		{"Id", func(r *api.Record) { r.Id = 1 }, api.ErrArg},
		{"Day", func(r *api.Record) { r.Day = -1 }, api.ErrArg},
		{"Deed", func(r *api.Record) { r.Deed = "" }, api.ErrArg},
		{"Year", func(r *api.Record) { r.Year = 0 }, api.ErrArg},
		{"Rank", func(r *api.Record) { r.Rank = -1 }, api.ErrArg},
	} {
		l = append(l, judged{x.name + " before ErrCompass", func(r *api.Record) {
			r.Call = courseCall()
			r.Call.Course.Year = 1600
			x.change(r)
		}, x.want})
		l = append(l, judged{x.name + " before ErrNone", func(r *api.Record) {
			r.Call = courseCall()
			r.Call.Course.Links = 1
			x.change(r)
		}, x.want})
	}
	return l
}

// check fails unless Check and System say what they should of records.
func check(t *testing.T, name string, f api.Field, l []api.Record, index int, want api.Errno) {
	t.Helper()
	i, e := limits.Check(f, l)
	expect.Errno(t, name, e, want)
	expect.Equal(t, name+": the index", i, index)
	s, e := limits.System(f, l)
	expect.Errno(t, name+": System", e, want)
	expect.Equal(t, name+": points", s.N != 0, want == api.OK)
	expect.Equal(t, name+": bounds", len(s.Bounds) != 0, want == api.OK)
}

// D1: records that are just right, and just not.
func TestCheck(t *testing.T) {
	f := example()
	check(t, "no records", f, nil, 0, api.OK)
	check(t, "no records", f, []api.Record{}, 0, api.OK)
	check(t, "the example", f, examples(), 0, api.OK)
	for _, x := range rightChanges() {
		check(t, x.name, f, with(examples(), 1, x.change), 0, api.OK)
		check(t, x.name, f, with(examples(), 2, func(r *api.Record) { id := r.Id; *r = examples()[1]; x.change(r); r.Id = id }), 0, api.OK)
	}
	for _, x := range wrongChanges() {
		check(t, x.name, f, with(examples(), 1, x.change), 1, x.want)
		check(t, x.name+" before a later one", f, with(with(examples(), 1, x.change), 2, func(r *api.Record) { r.Rank = -1 }), 1, x.want)
		check(t, x.name+" behind an earlier one", f, with(with(examples(), 1, x.change), 0, func(r *api.Record) { r.Rank = -1 }), 0, api.ErrArg)
	}
	early := with(examples(), 0, func(r *api.Record) { r.Call, r.Year = courseCall(), 1600; r.Call.Course.Year = 1600 })
	check(t, "ErrCompass in front", f, with(early, 1, func(r *api.Record) { r.Id = 0 }), 0, api.ErrCompass)
}

// D1: Ids rise strictly from 1 to 1000000.
func TestCheckIds(t *testing.T) {
	f := example()
	for _, x := range []struct {
		ids   []int
		index int
		want  api.Errno
	}{
		{[]int{1, 2, 3}, 0, api.OK}, {[]int{1, 5, 1000000}, 0, api.OK}, {[]int{999998, 999999, 1000000}, 0, api.OK},
		{[]int{0, 1, 2}, 0, api.ErrArg}, {[]int{-5, 1, 2}, 0, api.ErrArg}, {[]int{1, 2, 1000001}, 2, api.ErrArg}, {[]int{1000001, 1, 2}, 0, api.ErrArg},
		{[]int{1, 1, 2}, 1, api.ErrArg}, {[]int{1, 2, 2}, 2, api.ErrArg}, {[]int{3, 2, 1}, 1, api.ErrArg}, {[]int{2, 3, 1}, 2, api.ErrArg},
		{[]int{1, 3, 2}, 2, api.ErrArg}, {[]int{1, 0, 2}, 1, api.ErrArg}, {[]int{1, math.MinInt, 2}, 1, api.ErrArg}, {[]int{1000000, 1000000, 1000000}, 1, api.ErrArg},
	} {
		l := examples()
		for i, id := range x.ids {
			l[i].Id = id
		}
		check(t, "Ids", f, l, x.index, x.want)
	}
	for _, id := range []int{1, 2, 1000000} {
		check(t, "one Id", f, with(examples()[:1], 0, func(r *api.Record) { r.Id = id }), 0, api.OK)
	}
}

// D1: 300 records are right, and 301 are not; but one that is refused before them decides.
func TestCheckCount(t *testing.T) {
	f := example()
	var l []api.Record
	for i := range 301 {
		l = append(l, record(i+1, examples()[i%3].Call))
	}
	check(t, "300", f, l[:300], 0, api.OK)
	check(t, "301", f, l, 300, api.ErrLimit)
	for i := range 3 {
		check(t, "a wrong one before", f, with(l, 297+i, func(r *api.Record) { r.Rank = -1 }), 297+i, api.ErrArg)
	}
	check(t, "a wrong one behind", f, with(l, 300, func(r *api.Record) { r.Rank = -1 }), 300, api.ErrLimit)
	many := slices.Concat(l, l)
	check(t, "602", f, many, 300, api.ErrLimit)
	check(t, "602 with a wrong one", f, with(many, 0, func(r *api.Record) { r.Id = 0 }), 0, api.ErrArg)
}

// crowd returns records with as many bounds as a field has room for: 2000, or one less.
func crowd(f api.Field) []api.Record {
	last := len(f.Stations) - 1
	room := 2000 - len(bounded(f, nil).Bounds)
	var l []api.Record
	for ; room >= 2*len(f.Stations); room -= 2 * len(f.Stations) {
		l = append(l, record(len(l)+1, api.Call{Kind: api.CallAlong, Limit: 0, Other: 1 + len(l)%2, To: last}))
	}
	for ; room >= 2; room -= 2 {
		l = append(l, record(len(l)+1, api.Call{Kind: api.CallStone, From: len(l) % len(f.Stations), Size: 100, Error: 50}))
	}
	return l
}

// D1: 2000 bounds are right, 2001 and 2002 are not.
func TestCheckBounds(t *testing.T) {
	for _, x := range []struct{ stations, limits, bounds int }{{12, 10, 2000}, {11, 10, 1999}, {12, 3, 2000}} {
		f := fieldOf(x.stations, x.limits)
		l := crowd(f)
		check(t, "a crowd", f, l, 0, api.OK)
		s, _ := limits.System(f, l)
		expect.Equal(t, "bounds of a crowd", len(s.Bounds), x.bounds)
		k := len(l)
		more := append(slices.Clone(l), record(k+1, l[k-1].Call), record(k+2, l[k-1].Call))
		check(t, "one record too many", f, more, k, api.ErrLimit)
		check(t, "one too many and a wrong one behind it", f, with(more, k+1, func(r *api.Record) { r.Rank = -1 }), k, api.ErrLimit)
		check(t, "one too many that is wrong", f, with(more, k, func(r *api.Record) { r.Rank = -1 }), k, api.ErrArg)
		check(t, "one too many without declination", f, with(more, k, func(r *api.Record) {
			r.Call, r.Year = courseCall(), 1750
			r.Call.Course.Links = 1
		}), k, api.ErrNone)
		check(t, "one too many of another year", f, with(more, k, func(r *api.Record) {
			r.Call = api.Call{Kind: api.CallCourse, To: 1, Course: api.Course{Bearing: 90, Links: 30, Year: 5}}
			r.Year = 6
		}), k, api.ErrArg)
		check(t, "a wrong one before", f, with(more, k-1, func(r *api.Record) { r.Rank = -1 }), k-1, api.ErrArg)
	}
}

// fault is a field that is not valid.
type fault struct {
	name string
	want api.Errno
	f    api.Field
}

// faults returns fields with each of the errors of deed.CheckField.
func faults() []fault {
	change := func(name string, want api.Errno, change func(f *api.Field)) fault {
		f := example()
		change(&f)
		return fault{name, want, f}
	}
	return []fault{
		{"an empty field", api.ErrNone, api.Field{}},
		{"13 stations", api.ErrLimit, fieldOf(13, 2)}, {"11 limits", api.ErrLimit, fieldOf(3, 11)},
		{"one station", api.ErrNone, fieldOf(1, 2)}, {"no limit", api.ErrNone, fieldOf(3, 0)},
		change("41 parcels", api.ErrLimit, func(f *api.Field) { f.Parcels = make([]api.Parcel, 41) }),
		change("41 variations", api.ErrLimit, func(f *api.Field) { f.Variations = make([]api.Variation, 41) }),
		change("a variation", api.ErrArg, func(f *api.Field) { f.Variations[0].East = 61 }),
		change("a name", api.ErrForm, func(f *api.Field) { f.Limits[1] = "Burn" }),
		change("a name twice", api.ErrTwice, func(f *api.Field) { f.Limits[1] = "dyke" }),
		change("an X out of range", api.ErrArg, func(f *api.Field) { f.Stations[2].X = 100001 }),
		change("a parcel out of range", api.ErrArg, func(f *api.Field) { f.Parcels[0].South = 1 }),
		change("a parcel turned round", api.ErrOrder, func(f *api.Field) { f.Parcels[0].From = 2 }),
		change("equal X", api.ErrOrder, func(f *api.Field) { f.Stations[1].X = 0 }),
	}
}

// D1: the error of the field comes first, with the index 0.
func TestCheckFields(t *testing.T) {
	for _, x := range faults() {
		check(t, x.name, x.f, nil, 0, x.want)
		check(t, x.name, x.f, examples(), 0, x.want)
		check(t, x.name, x.f, make([]api.Record, 301), 0, x.want)
		check(t, x.name, x.f, with(examples(), 1, func(r *api.Record) { r.Rank = -1 }), 0, x.want)
	}
}

// D2: nature, and the bounds of the calls in their order, whether they agree or not.
func TestSystem(t *testing.T) {
	s, e := limits.System(example(), examples("stone dyke oak 100 0", "along dyke burn ash oak"))
	expect.Errno(t, "System", e, api.OK)
	expect.Equal(t, "points", s.N, 7)
	nature, _ := deed.Nature(example())
	expect.List(t, "bounds", s.Bounds, append(nature,
		api.Bound{From: 0, To: 1, Most: 210, Record: 1}, api.Bound{From: 1, To: 0, Most: -190, Record: 1},
		api.Bound{From: 1, To: 2, Most: 55, Record: 2}, api.Bound{From: 2, To: 1, Most: -45, Record: 2},
		api.Bound{From: 2, To: 5, Most: 300, Record: 3}, api.Bound{From: 5, To: 2, Most: -300, Record: 3},
		api.Bound{From: 0, To: 2, Most: 100, Record: 4}, api.Bound{From: 2, To: 0, Most: -100, Record: 4},
		api.Bound{From: 1, To: 4, Record: 5}, api.Bound{From: 4, To: 1, Record: 5}, api.Bound{From: 2, To: 5, Record: 5}, api.Bound{From: 5, To: 2, Record: 5},
	)...)
	s, e = limits.System(example(), nil)
	expect.Errno(t, "System", e, api.OK)
	expect.List(t, "bounds of no records", s.Bounds, nature...)
	s, e = limits.System(fieldOf(12, 10), crowd(fieldOf(12, 10)))
	expect.Errno(t, "System", e, api.OK)
	expect.Equal(t, "points of the greatest field", s.N, 121)
	eachField(t, 100, func(r *rand.Rand, f api.Field, l []api.Record) {
		s, e := limits.System(f, l)
		expect.Errno(t, "System", e, api.OK)
		want := bounded(f, l)
		expect.Equal(t, "points", s.N, want.N)
		expect.List(t, "bounds", s.Bounds, want.Bounds...)
	})
}
