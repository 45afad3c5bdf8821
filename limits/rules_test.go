package limits_test

import (
	"math"
	"math/rand/v2"
	"reflect"
	"slices"
	"testing"

	"merestone/api"
	"merestone/deed"
	"merestone/expect"
	"merestone/limits"
)

// The chapter's table of examples, line by line.
func TestExamples(t *testing.T) {
	f, fault := deed.ParseField("station ash 0\nstation oak 1000\nstation elm 2000\nlimit dyke\nlimit burn\nparcel croft dyke ash elm\n")
	expect.Equal(t, "the fault", fault, api.Fault{})
	l := examples()
	expect.Equal(t, "dyke at ash", region(t, f, l, dyke(0)), [2]int{190, 210})
	expect.Equal(t, "dyke at oak", region(t, f, l, dyke(1)), [2]int{235, 265})
	expect.Equal(t, "burn at oak", region(t, f, l, burn(1)), [2]int{535, 565})
	why(t, l, dyke(1), true, 1, 2)
	why(t, l, burn(1), true, 1, 2, 3)
	expect.Equal(t, "Width", width(t, f, l, dyke(0), burn(1)), [2]int{345, 355})
	for _, x := range []struct {
		from, to int
		want     uint8
	}{{265, 300, api.AwardNorth}, {100, 235, api.AwardSouth}, {200, 300, api.AwardOpen}} {
		award, e := limits.Award(f, l, dykeStrip(x.from, x.to))
		expect.Errno(t, "Award", e, api.OK)
		expect.Equal(t, "Award", award, x.want)
	}
	south, open, north, e := limits.Parts(f, l, dykeStrip(200, 300))
	expect.Errno(t, "Parts", e, api.OK)
	expect.Equal(t, "Parts", [3]int{south, open, north}, [3]int{35, 30, 35})
	sure(t, f, l, 0, 0, [2]int{}, api.OK)
	sure(t, f, l, 0, 1, [2]int{265, 535}, api.OK)
	sure(t, f, l, 0, 2, [2]int{}, api.ErrNone)
	conflict(t, "Conflict", f, examples("stone dyke oak 100 0"), 1, 2, 4)
	idle(t, f, examples("stone dyke oak 250 40"), 4)
}

type results = []any

// call is a function of the package with its other arguments chosen; its results without the error, and the error.
type call struct {
	name string
	star bool // the function is marked with *
	run  func(f api.Field, l []api.Record) (results, api.Errno)
}

// calls returns all functions, with arguments for a field of at least two limits and two stations, and a parcel at the first one.
func calls() []call {
	c, s := dyke(1), dykeStrip(200, 300)
	return []call{
		{"Check", false, func(f api.Field, l []api.Record) (results, api.Errno) { _, e := limits.Check(f, l); return nil, e }},
		{"System", false, func(f api.Field, l []api.Record) (results, api.Errno) {
			s, e := limits.System(f, l)
			return results{s.N, s.Bounds}, e
		}},
		{"Conflict", false, func(f api.Field, l []api.Record) (results, api.Errno) { return expect.Two(limits.Conflict(f, l)) }},
		{"CheckConflict", false, func(f api.Field, l []api.Record) (results, api.Errno) {
			return expect.One(limits.CheckConflict(f, l, []int{1, 2, 4}))
		}},
		{"Region", true, func(f api.Field, l []api.Record) (results, api.Errno) { return expect.Two(limits.Region(f, l, c)) }},
		{"Width", true, func(f api.Field, l []api.Record) (results, api.Errno) {
			return expect.Two(limits.Width(f, l, c, burn(0)))
		}},
		{"Why", true, func(f api.Field, l []api.Record) (results, api.Errno) { return expect.One(limits.Why(f, l, c, true)) }},
		{"CheckWhy", false, func(f api.Field, l []api.Record) (results, api.Errno) {
			return expect.One(limits.CheckWhy(f, l, c, true, 265, []int{1, 2}))
		}},
		{"First", true, func(f api.Field, l []api.Record) (results, api.Errno) { return expect.One(limits.First(f, l)) }},
		{"Last", true, func(f api.Field, l []api.Record) (results, api.Errno) { return expect.One(limits.Last(f, l)) }},
		{"Through", true, func(f api.Field, l []api.Record) (results, api.Errno) {
			return expect.Two(limits.Through(f, l, c, 250))
		}},
		{"CheckDrawing", false, func(f api.Field, l []api.Record) (results, api.Errno) {
			return expect.One(limits.CheckDrawing(f, l, []int{0, 200, 250, 300, 400, 550, 300}))
		}},
		{"Award", true, func(f api.Field, l []api.Record) (results, api.Errno) {
			return expect.One(limits.Award(f, l, dykeStrip(265, 300)))
		}},
		{"Parts", true, func(f api.Field, l []api.Record) (results, api.Errno) { return expect.Three(limits.Parts(f, l, s)) }},
		{"Shows", true, func(f api.Field, l []api.Record) (results, api.Errno) { return expect.Three(limits.Shows(f, l, s)) }},
		{"Sure", true, func(f api.Field, l []api.Record) (results, api.Errno) { return expect.Two(limits.Sure(f, l, 0, 1)) }},
		{"Whose", true, func(f api.Field, l []api.Record) (results, api.Errno) {
			return expect.Two(limits.Whose(f, l, 1, 300))
		}},
		{"May", true, func(f api.Field, l []api.Record) (results, api.Errno) { return expect.One(limits.May(f, l, 1, 300)) }},
		{"Narrows", true, func(f api.Field, l []api.Record) (results, api.Errno) {
			return expect.One(limits.Narrows(f, l, record(1000000, api.Call{Kind: api.CallStone, Size: 200, Error: 5})))
		}},
		{"Idle", true, func(f api.Field, l []api.Record) (results, api.Errno) { return expect.One(limits.Idle(f, l)) }},
	}
}

// awarded is Awarded, of which an error can also be that there is no drawing.
func awarded(f api.Field, l []api.Record) (results, api.Errno) {
	return expect.Two(limits.Awarded(f, l, []int{0, 200, 250, 300, 400, 550, 300}, dykeStrip(200, 300)))
}

// wrong returns calls with arguments that are not valid.
func wrong() []call {
	var l []call
	add := func(name string, star bool, run func(f api.Field, l []api.Record) (results, api.Errno)) {
		l = append(l, call{name, star, run})
	}
	for _, c := range []api.Corner{{Limit: -1}, {Limit: 2}, {Station: -1}, {Station: 3}, {Limit: 2, Station: 3}, {Limit: -1, Station: 4}, {Limit: 1, Station: -1}, {Limit: math.MinInt}, {Station: math.MaxInt}} {
		add("Region", true, func(f api.Field, l []api.Record) (results, api.Errno) { return expect.Two(limits.Region(f, l, c)) })
		add("Width from", true, func(f api.Field, l []api.Record) (results, api.Errno) {
			return expect.Two(limits.Width(f, l, c, burn(0)))
		})
		add("Width to", true, func(f api.Field, l []api.Record) (results, api.Errno) {
			return expect.Two(limits.Width(f, l, burn(0), c))
		})
		add("Width", true, func(f api.Field, l []api.Record) (results, api.Errno) { return expect.Two(limits.Width(f, l, c, c)) })
		add("Why", true, func(f api.Field, l []api.Record) (results, api.Errno) {
			return expect.One(limits.Why(f, l, c, false))
		})
		add("CheckWhy", false, func(f api.Field, l []api.Record) (results, api.Errno) {
			return expect.One(limits.CheckWhy(f, l, c, true, 100000, nil))
		})
		add("Through", true, func(f api.Field, l []api.Record) (results, api.Errno) {
			return expect.Two(limits.Through(f, l, c, 5))
		})
		add("Through beyond", true, func(f api.Field, l []api.Record) (results, api.Errno) {
			return expect.Two(limits.Through(f, l, c, -1))
		})
		l = append(l, wrongStrips(api.Strip{Limit: c.Limit, Station: c.Station, From: 5, To: 6})...)
	}
	for _, ends := range [][2]int{{-1, 5}, {0, 100001}, {5, 5}, {6, 5}, {0, 0}, {100000, 100000}, {100000, 100001}, {-5, -1}, {math.MinInt, math.MaxInt}, {0, math.MaxInt}, {math.MinInt, 5}} {
		l = append(l, wrongStrips(dykeStrip(ends[0], ends[1]))...)
	}
	return l
}

// wrongStrips returns the calls of a strip that is not valid.
func wrongStrips(s api.Strip) []call {
	return []call{
		{"Award", true, func(f api.Field, l []api.Record) (results, api.Errno) { return expect.One(limits.Award(f, l, s)) }},
		{"Parts", true, func(f api.Field, l []api.Record) (results, api.Errno) { return expect.Three(limits.Parts(f, l, s)) }},
		{"Shows", true, func(f api.Field, l []api.Record) (results, api.Errno) { return expect.Three(limits.Shows(f, l, s)) }},
		{"Awarded", false, func(f api.Field, l []api.Record) (results, api.Errno) {
			return expect.Two(limits.Awarded(f, l, []int{0, 200, 250, 300, 400, 550, 300}, s))
		}},
		{"Awarded by no drawing", false, func(f api.Field, l []api.Record) (results, api.Errno) {
			return expect.Two(limits.Awarded(f, l, nil, s))
		}},
	}
}

// empty says whether all results are zero values, where empty slices are as good as nil.
func empty(l results) bool {
	return !slices.ContainsFunc(l, func(x any) bool {
		v := reflect.ValueOf(x)
		return !v.IsZero() && (v.Kind() != reflect.Slice || v.Len() > 0)
	})
}

// alike says whether results are equal, where empty slices are as good as nil.
func alike(l, m results) bool { return empty(l) && empty(m) || reflect.DeepEqual(l, m) }

// refused fails unless a call has an error, and nothing else.
func refused(t *testing.T, name string, c call, f api.Field, l []api.Record, want api.Errno) {
	t.Helper()
	list, e := c.run(f, l)
	expect.Errno(t, c.name+" with "+name, e, want)
	expect.Equal(t, c.name+" with "+name+" is empty", empty(list), true)
}

// R2: the errors of Check come first, with zero values, whatever else is wrong; then ErrArg, then ErrConflict.
func TestErrors(t *testing.T) {
	all := append(calls(), call{"Awarded", false, awarded})
	for _, c := range append(all, wrong()...) {
		for _, x := range faults() {
			refused(t, x.name, c, x.f, examples(), x.want)
			refused(t, x.name+" and a wrong record", c, x.f, make([]api.Record, 301), x.want)
		}
		for _, x := range wrongChanges() {
			refused(t, x.name, c, example(), with(examples(), 1, x.change), x.want)
		}
		refused(t, "a contradiction and a wrong record", c, example(), with(examples("stone dyke oak 100 0", "stone dyke oak 250 0"), 4, func(r *api.Record) { r.Id = 4 }), api.ErrArg)
	}
	for _, c := range wrong() {
		refused(t, "wrong arguments", c, example(), examples(), api.ErrArg)
		refused(t, "wrong arguments", c, example(), nil, api.ErrArg)
		refused(t, "wrong arguments and a contradiction", c, example(), examples("stone dyke oak 100 0"), api.ErrArg)
	}
}

// The functions that are marked with * refuse a contradiction, and no others do.
func TestErrorsOfContradictions(t *testing.T) {
	for _, c := range calls() {
		_, e := c.run(example(), examples())
		expect.Errno(t, c.name, e, api.OK)
		_, e = c.run(example(), nil)
		expect.Errno(t, c.name+" of no records", e, api.OK)
		l := examples("stone dyke oak 100 0")
		if c.star {
			refused(t, "a contradiction", c, example(), l, api.ErrConflict)
			continue
		}
		_, e = c.run(example(), l)
		expect.Errno(t, c.name+" of a contradiction", e, api.OK)
	}
}

// R3, R4: arguments stay as they are, also behind their end, results are new memory, and a call says the same again.
func TestMemory(t *testing.T) {
	behind := record(77, api.Call{Kind: 77})
	for _, c := range append(calls(), call{"Awarded", false, awarded}) {
		for _, base := range [][]api.Record{examples(), examples("stone dyke oak 100 0"), {}} {
			f := example()
			room := append(slices.Clone(base), behind, behind, behind)
			k := len(base)
			first, e := c.run(f, room[:k])
			expect.Equal(t, c.name+" leaves the field", reflect.DeepEqual(f, example()), true)
			expect.List(t, c.name+" leaves the records", room, append(slices.Clone(base), behind, behind, behind)...)
			want, _ := c.run(example(), slices.Clone(base))
			clear(room)
			clear(f.Stations)
			clear(f.Limits)
			clear(f.Parcels)
			expect.Equal(t, c.name+" keeps no memory", alike(first, want), true)
			for _, x := range first {
				if v := reflect.ValueOf(x); v.Kind() == reflect.Slice {
					v.Slice(0, v.Cap()).Clear()
				}
			}
			again, g := c.run(example(), base)
			expect.Equal(t, c.name+" says the same again", alike(again, want), true)
			expect.Errno(t, c.name, g, e)
		}
	}
}

// R3: lists of Ids and values stay as they are, also behind their end; the drawings of Shows share no memory.
func TestMemoryOfLists(t *testing.T) {
	ids := []int{1, 2, 4, 9, 9}
	limits.CheckConflict(example(), examples("stone dyke oak 100 0"), ids[:3])
	limits.CheckWhy(example(), examples("stone dyke oak 100 0"), dyke(0), true, 500, ids[:2])
	expect.List(t, "the Ids", ids, 1, 2, 4, 9, 9)
	y := []int{0, 200, 250, 300, 400, 550, 300, 9, 9}
	limits.CheckDrawing(example(), examples(), y[:7])
	limits.Awarded(example(), examples(), y[:7], dykeStrip(200, 300))
	expect.List(t, "the drawing", y, 0, 200, 250, 300, 400, 550, 300, 9, 9)
	one, two, _, _ := limits.Shows(example(), examples(), dykeStrip(200, 300))
	want := slices.Clone(two)
	one = append(one, 9, 9, 9)
	clear(one[:cap(one)])
	expect.List(t, "the other drawing", two, want...)
}

// R3: nil and empty lists are the same.
func TestNilAndEmpty(t *testing.T) {
	for _, c := range append(calls(), call{"Awarded", false, awarded}) {
		l, e := c.run(example(), nil)
		m, g := c.run(example(), []api.Record{})
		expect.Equal(t, c.name, alike(l, m), true)
		expect.Errno(t, c.name, g, e)
	}
	for _, ids := range [][]int{nil, {}} {
		is, e := limits.CheckConflict(example(), examples(), ids)
		expect.Errno(t, "CheckConflict", e, api.OK)
		expect.Equal(t, "CheckConflict", is, false)
		is, e = limits.CheckDrawing(example(), examples(), ids)
		expect.Errno(t, "CheckDrawing", e, api.OK)
		expect.Equal(t, "CheckDrawing", is, false)
	}
}

// some returns a number that is often small, and otherwise at an end of what is allowed.
func some(r *rand.Rand) int {
	if r.IntN(4) > 0 {
		return r.IntN(4)
	}
	ends := []int{math.MinInt, math.MinInt + 1, -100001, -1, 0, 1, 3, 5, 12, 300, 3000, 3001, 99999, 100000, 100001, 1000000, 1000001, math.MaxInt - 1, math.MaxInt}
	return ends[r.IntN(len(ends))]
}

// list returns a short list of such numbers.
func list(r *rand.Rand) []int {
	l := make([]int, r.IntN(9))
	for i := range l {
		l[i] = some(r)
	}
	return l
}

// wildRecord returns a record with any values.
func wildRecord(r *rand.Rand) api.Record {
	c := api.Call{Kind: uint8(r.IntN(7)), Limit: some(r), Other: some(r), From: some(r), To: some(r), Size: some(r), Error: some(r)}
	if r.IntN(2) == 0 {
		c.Course = api.Course{Bearing: some(r), Needle: some(r), Links: some(r), Year: some(r), Chain: api.Chain{Wear: some(r), Slack: some(r)}}
	}
	return api.Record{Id: some(r), Day: some(r), Deed: []string{"a", "", "A"}[r.IntN(3)], Year: some(r), Rank: some(r), Call: c}
}

// wildArguments returns a field, and records that are right, or of which one may be anything.
func wildArguments(r *rand.Rand) (api.Field, []api.Record) {
	f := example()
	if r.IntN(3) == 0 {
		f.Stations[r.IntN(3)].X = some(r)
	}
	if r.IntN(3) == 0 {
		f.Parcels[0] = api.Parcel{Name: "new", South: some(r), From: some(r), To: some(r)}
	}
	if r.IntN(5) == 0 {
		f.Limits, f.Stations = f.Limits[:r.IntN(3)], f.Stations[:r.IntN(4)]
	}
	l := examples("stone dyke oak 250 40", "stone dyke elm 3 3")[:3+r.IntN(3)]
	if r.IntN(2) == 0 {
		l[r.IntN(len(l))] = wildRecord(r)
	}
	return f, l
}

// R1, R2: whatever the arguments are, all functions return, and errors leave nothing.
func TestWildArguments(t *testing.T) {
	r := rand.New(rand.NewPCG(4, 5))
	for range 4000 {
		f, l := wildArguments(r)
		c := api.Corner{Limit: some(r), Station: some(r)}
		s := api.Strip{Limit: c.Limit, Station: c.Station, From: some(r), To: some(r)}
		wild := append(calls(),
			call{"Region", true, func(f api.Field, l []api.Record) (results, api.Errno) { return expect.Two(limits.Region(f, l, c)) }},
			call{"Width", true, func(f api.Field, l []api.Record) (results, api.Errno) {
				return expect.Two(limits.Width(f, l, c, api.Corner{Limit: some(r), Station: some(r)}))
			}},
			call{"Sure", true, func(f api.Field, l []api.Record) (results, api.Errno) {
				return expect.Two(limits.Sure(f, l, some(r), some(r)))
			}},
			call{"Whose", true, func(f api.Field, l []api.Record) (results, api.Errno) {
				return expect.Two(limits.Whose(f, l, some(r), some(r)))
			}},
			call{"May", true, func(f api.Field, l []api.Record) (results, api.Errno) {
				return expect.One(limits.May(f, l, some(r), some(r)))
			}},
			call{"Through", true, func(f api.Field, l []api.Record) (results, api.Errno) {
				return expect.Two(limits.Through(f, l, c, some(r)))
			}},
			call{"Narrows", true, func(f api.Field, l []api.Record) (results, api.Errno) {
				return expect.One(limits.Narrows(f, l, wildRecord(r)))
			}},
			call{"Awarded", false, func(f api.Field, l []api.Record) (results, api.Errno) {
				return expect.Two(limits.Awarded(f, l, list(r), s))
			}},
		)
		for _, x := range append(wild, wrongStrips(s)...) {
			if got, e := x.run(f, l); e != api.OK && !empty(got) {
				t.Fatalf("%s has error %d and %v", x.name, e, got)
			}
		}
		limits.CheckConflict(f, l, list(r))
		limits.CheckWhy(f, l, c, r.IntN(2) == 0, some(r), list(r))
		limits.Why(f, l, c, r.IntN(2) == 0)
		limits.CheckDrawing(f, l, list(r))
	}
}

// R1: the greatest field with as many bounds, and with as many records, as there may be, is worked out.
func TestGreatFields(t *testing.T) {
	r := rand.New(rand.NewPCG(6, 6))
	f := withParcels(r, fieldOf(12, 5))
	y := truth(r, f, 40)
	var many []api.Record
	for id := 1; id <= 300; id++ {
		many = append(many, recordOf(r, f, y, id))
	}
	for _, l := range [][]api.Record{crowd(f), many} {
		for _, c := range calls() {
			_, e := c.run(f, l)
			// The first parcel need not be at the station, and there is no room for one more record.
			expected := e == api.OK || c.star && e == api.ErrConflict || c.name == "Sure" && e == api.ErrNone || c.name == "Narrows" && e == api.ErrLimit
			expect.Equal(t, c.name, expected, true)
		}
		ids, is, e := limits.Conflict(f, l)
		expect.Errno(t, "Conflict", e, api.OK)
		shown, _ := limits.CheckConflict(f, l, ids)
		expect.Equal(t, "CheckConflict", shown, is)
	}
}

// The section Limits, and the numbers of awards.
func TestNumbers(t *testing.T) {
	for _, x := range []struct {
		name      string
		got, want int
	}{
		{"MaxRecords", api.MaxRecords, 300}, {"MaxId", api.MaxId, 1000000}, {"MaxDay", api.MaxDay, 100000}, {"MaxYear", api.MaxYear, 3000}, {"MaxRank", api.MaxRank, 1000},
		{"MaxName", api.MaxName, 24}, {"MaxBounds", api.MaxBounds, 2000}, {"MaxOffset", api.MaxOffset, 100000}, {"ErrConflict", int(api.ErrConflict), 40},
		{"AwardOpen", int(api.AwardOpen), 0}, {"AwardNorth", int(api.AwardNorth), 1}, {"AwardSouth", int(api.AwardSouth), 2},
	} {
		expect.Equal(t, x.name, x.got, x.want)
	}
}
