package deed_test

import (
	"math"
	"math/rand/v2"
	"reflect"
	"slices"
	"testing"

	"merestone/api"
	"merestone/deed"
	"merestone/expect"
)

// The chapter's table of examples, line by line.
func TestExamples(t *testing.T) {
	f, fault := deed.ParseField(exampleSource)
	expect.Equal(t, "the fault", fault, api.Fault{})
	sameField(t, "F", f, example())
	expect.Equal(t, "Points", deed.Points(f), 5)
	p, e := deed.Point(f, 1, 0)
	expect.Errno(t, "Point", e, api.OK)
	expect.Equal(t, "Point", p, 3)
	limit, station, e := deed.Corner(f, 4)
	expect.Errno(t, "Corner", e, api.OK)
	expect.Equal(t, "Corner", [2]int{limit, station}, [2]int{1, 1})
	l, e := deed.Nature(f)
	expect.Errno(t, "Nature", e, api.OK)
	expect.Equal(t, "how many", len(l), 10)
	expect.Equal(t, "the last one", l[9], api.Bound{From: 4, To: 2, Most: 0, Record: 0})
	bounds := func(line string, record int, want ...api.Bound) api.Call {
		c, e := deed.ReadCall(f, line, 1750)
		expect.Errno(t, line, e, api.OK)
		l, e := deed.Bounds(f, c, record)
		expect.Errno(t, line, e, api.OK)
		expect.List(t, line, l, want...)
		return c
	}
	bounds("stone wall oak 250 2", 7, api.Bound{From: 0, To: 2, Most: 252, Record: 7}, api.Bound{From: 2, To: 0, Most: -248, Record: 7})
	bounds("width wall hedge ash 100 3", 0, api.Bound{From: 1, To: 3, Most: 103}, api.Bound{From: 3, To: 1, Most: -97})
	bounds("along wall hedge ash oak", 0, api.Bound{From: 1, To: 3}, api.Bound{From: 3, To: 1}, api.Bound{From: 2, To: 4}, api.Bound{From: 4, To: 2})
	const line = "course wall ash oak 10 chains by north 50 east give 2 wear 0 slack 100"
	c := bounds(line, 0, api.Bound{From: 1, To: 2, Most: 519}, api.Bound{From: 2, To: 1, Most: -480})
	back, e := deed.Back(f, c)
	expect.Errno(t, "Back", e, api.OK)
	expect.Equal(t, "Back", [3]int{back.From, back.To, back.Course.Bearing}, [3]int{1, 0, 230})
	_, e = deed.ReadCall(f, line, 1690)
	expect.Errno(t, "the same line in 1690", e, api.ErrCompass)
	y := []int{0, 100, 100, 150, 150}
	for _, x := range []struct {
		station, offset int
		want            api.Errno
	}{{0, 120, api.OK}, {0, 99, api.ErrNone}, {1, 120, api.ErrNone}} {
		i, e := deed.At(f, x.station, x.offset, y)
		expect.Errno(t, "At", e, x.want)
		expect.Equal(t, "At", i, 0)
	}
	c, e = deed.ReadCall(f, "level wall ash oak 5 5", 1750)
	expect.Errno(t, "level", e, api.OK)
	for offset, want := range map[int]bool{110: true, 111: false} {
		is, e := deed.Allows(f, c, []int{0, 100, offset, 150, 150})
		expect.Errno(t, "Allows", e, api.OK)
		expect.Equal(t, "Allows", is, want)
	}
	_, fault = deed.ParseField("station ash 5\nstation oak 5\nlimit wall")
	expect.Equal(t, "equal X", fault, api.Fault{Err: api.ErrOrder})
	_, fault = deed.ParseDeeds(f, "stone wall ash 1 0")
	expect.Equal(t, "a call alone", fault, api.Fault{Err: api.ErrForm, Line: 1})
}

// call is a function of the package with its other arguments chosen; its results without the error, and the error.
type call struct {
	name string
	run  func(f api.Field) ([]any, api.Errno)
	// call is the function for another call, if it is given one.
	call func(f api.Field, c api.Call) ([]any, api.Errno)
}

// calls returns all functions that are given a field, with arguments for one of at least two limits and two stations.
func calls() []call {
	type results = []any
	l := []call{
		{name: "CheckField", run: func(f api.Field) (results, api.Errno) { return nil, deed.CheckField(f) }},
		{name: "Point", run: func(f api.Field) (results, api.Errno) { return expect.One(deed.Point(f, 1, 1)) }},
		{name: "Corner", run: func(f api.Field) (results, api.Errno) { return expect.Two(deed.Corner(f, 4)) }},
		{name: "Nature", run: func(f api.Field) (results, api.Errno) { return expect.One(deed.Nature(f)) }},
		{name: "Drawn", run: func(f api.Field) (results, api.Errno) { return expect.One(deed.Drawn(f, flat(f))) }},
		{name: "At", run: func(f api.Field) (results, api.Errno) { return expect.One(deed.At(f, 0, 5, flat(f))) }},
		{name: "Adjoining", run: func(f api.Field) (results, api.Errno) { return expect.One(deed.Adjoining(f, 0)) }},
		{name: "CheckDeed", run: func(f api.Field) (results, api.Errno) { return nil, deed.CheckDeed(f, patent()) }},
		{name: "CheckDeeds", run: func(f api.Field) (results, api.Errno) { return nil, deed.CheckDeeds(f, []api.Deed{patent()}) }},
		{name: "ReadCall", run: func(f api.Field) (results, api.Errno) {
			return expect.One(deed.ReadCall(f, "along "+f.Limits[0]+" "+f.Limits[1]+" "+f.Stations[0].Name+" "+f.Stations[1].Name, 1750))
		}},
		{name: "ParseDeeds", run: func(f api.Field) (results, api.Errno) {
			l, fault := deed.ParseDeeds(f, deed.PrintDeeds(f, []api.Deed{patent()}))
			return results{l, fault.Line}, fault.Err
		}},
	}
	for _, c := range []call{
		{name: "CheckCall", call: func(f api.Field, c api.Call) (results, api.Errno) { return nil, deed.CheckCall(f, c) }},
		{name: "Bounds", call: func(f api.Field, c api.Call) (results, api.Errno) { return expect.One(deed.Bounds(f, c, 7)) }},
		{name: "Allows", call: func(f api.Field, c api.Call) (results, api.Errno) { return expect.One(deed.Allows(f, c, flat(f))) }},
		{name: "Concerns", call: func(f api.Field, c api.Call) (results, api.Errno) { return expect.One(deed.Concerns(f, c)) }},
		{name: "Same", call: func(f api.Field, c api.Call) (results, api.Errno) { return expect.One(deed.Same(f, c, c)) }},
		{name: "Back", call: func(f api.Field, c api.Call) (results, api.Errno) { return expect.One(deed.Back(f, c)) }},
		{name: "WriteCall", call: func(f api.Field, c api.Call) (results, api.Errno) { return expect.One(deed.WriteCall(f, c)) }},
	} {
		c.run = func(f api.Field) (results, api.Errno) { return c.call(f, along()) }
		l = append(l, c)
	}
	return l
}

// flat returns a drawing in which the first limit lies at 0 and all others at 9; none where there are no corners.
func flat(f api.Field) []int {
	y := make([]int, 1+len(f.Limits)*len(f.Stations))
	for p := 1 + len(f.Stations); p < len(y); p++ {
		y[p] = 9
	}
	return y
}

// patent is a deed that is right in every field with two limits.
func patent() api.Deed {
	return api.Deed{Name: "patent", Year: 1750, Rank: 3, Calls: []api.Call{along(), level()}}
}

// empty says whether all results are zero values, where empty slices are as good as nil.
func empty(l []any) bool {
	return !slices.ContainsFunc(l, func(x any) bool {
		v := reflect.ValueOf(x)
		return !v.IsZero() && (v.Kind() != reflect.Slice || v.Len() > 0)
	})
}

// R2: the error of CheckField comes first, with zero values.
func TestErrorsOfFields(t *testing.T) {
	for _, c := range calls() {
		for _, d := range slices.Concat(defects()...) {
			f := changed(rich(), d.change)
			if c.name == "ReadCall" && (len(f.Limits) < 2 || len(f.Stations) < 2) {
				continue
			}
			l, e := c.run(f)
			expect.Errno(t, c.name+" with "+d.name, e, d.want)
			expect.Equal(t, c.name+" with "+d.name+" is empty", empty(l), true)
			if c.call != nil {
				_, e = c.call(f, api.Call{})
				expect.Errno(t, c.name+" of no call with "+d.name, e, d.want)
			}
		}
		_, e := c.run(rich())
		expect.Errno(t, c.name, e, api.OK)
	}
	for _, d := range slices.Concat(defects()...) {
		f := changed(rich(), d.change)
		_, e := deed.Point(f, -1, -1)
		expect.Errno(t, "Point", e, d.want)
		_, _, e = deed.Corner(f, -1)
		expect.Errno(t, "Corner", e, d.want)
		_, e = deed.At(f, -1, -1, nil)
		expect.Errno(t, "At", e, d.want)
		_, e = deed.Adjoining(f, -1)
		expect.Errno(t, "Adjoining", e, d.want)
		_, e = deed.Bounds(f, stone(), -1)
		expect.Errno(t, "Bounds", e, d.want)
		_, e = deed.ReadCall(f, "\n", 0)
		expect.Errno(t, "ReadCall", e, d.want)
		expect.Errno(t, "CheckDeed", deed.CheckDeed(f, api.Deed{Calls: make([]api.Call, 21)}), d.want)
		expect.Errno(t, "CheckDeeds", deed.CheckDeeds(f, make([]api.Deed, 61)), d.want)
		l, fault := deed.ParseDeeds(f, "nothing")
		expect.Equal(t, "ParseDeeds", fault, api.Fault{Err: d.want})
		expect.Equal(t, "ParseDeeds", len(l), 0)
		expect.Equal(t, "PrintDeeds", deed.PrintDeeds(f, nil), "")
	}
}

// R3, R4: arguments stay as they are, results are new memory, and a call says the same again.
func TestMemory(t *testing.T) {
	for _, c := range calls() {
		f := rich()
		first, e := c.run(f)
		expect.Equal(t, c.name+" leaves the field", reflect.DeepEqual(f, rich()), true)
		want, _ := c.run(rich())
		clear(f.Stations)
		clear(f.Limits)
		clear(f.Parcels)
		clear(f.Variations)
		expect.Equal(t, c.name+" keeps nothing of the field", reflect.DeepEqual(first, want), true)
		for _, x := range first {
			if v := reflect.ValueOf(x); v.Kind() == reflect.Slice {
				v.Clear()
			}
		}
		again, g := c.run(rich())
		expect.Equal(t, c.name+" says the same again", reflect.DeepEqual(again, want), true)
		expect.Errno(t, c.name, g, e)
	}
}

// R3: lists of one result share no memory, and lists that are given are copied.
func TestMemoryOfLists(t *testing.T) {
	src := deed.PrintDeeds(rich(), []api.Deed{patent(), {Name: "other", Year: 1, Calls: []api.Call{along()}}})
	l, _ := deed.ParseDeeds(rich(), src)
	l[0].Calls = append(l[0].Calls, api.Call{Kind: 9})
	clear(l[0].Calls)
	expect.List(t, "the calls of the other deed", l[1].Calls, along())
	f, _ := deed.ParseField(deed.PrintField(rich()))
	g, _ := deed.ParseField(deed.PrintField(rich()))
	f.Stations, f.Limits, f.Parcels = append(f.Stations, api.Station{}), append(f.Limits, ""), append(f.Parcels, api.Parcel{})
	clear(f.Stations)
	clear(f.Limits)
	clear(f.Parcels)
	clear(f.Variations)
	sameField(t, "another reading", g, rich())
	y := append(flat(rich()), 77)
	deed.Drawn(rich(), y[:17])
	deed.Allows(rich(), stone(), y[:17])
	deed.At(rich(), 0, 5, y[:17])
	expect.List(t, "the drawing", y, append(flat(rich()), 77)...)
	calls := []api.Call{along(), level(), {Kind: 77}}
	list := []api.Deed{{Name: "one", Year: 5, Calls: calls[:2]}, {}}
	expect.Errno(t, "what lies behind a list", deed.CheckDeeds(rich(), list[:1]), api.OK)
	deed.PrintDeeds(rich(), list[:1])
	expect.List(t, "the calls", calls, along(), level(), api.Call{Kind: 77})
}

// R3: nil and empty lists are the same.
func TestNilAndEmpty(t *testing.T) {
	one := changed(example(), func(f *api.Field) { f.Parcels, f.Variations = nil, nil })
	two := changed(example(), func(f *api.Field) { f.Parcels, f.Variations = []api.Parcel{}, []api.Variation{} })
	for _, c := range calls() {
		l, e := c.run(one)
		m, g := c.run(two)
		expect.Equal(t, c.name, empty(l) && empty(m) || reflect.DeepEqual(l, m), true)
		expect.Errno(t, c.name, g, e)
	}
	expect.Equal(t, "PrintField", deed.PrintField(two), deed.PrintField(one))
	expect.Errno(t, "CheckDeed", deed.CheckDeed(one, api.Deed{Name: "a", Year: 1, Calls: []api.Call{}}), api.OK)
	expect.Errno(t, "CheckDeeds", deed.CheckDeeds(one, []api.Deed{}), api.OK)
}

// wild returns a number that is often at an end of what is allowed, or of what there is.
func wild(r *rand.Rand) int {
	ends := []int{math.MinInt, math.MinInt + 1, -100001, -100000, -1, 0, 1, 2, 3, 4, 5, 12, 40, 41, 60, 1750, 3000, 3001, 100000, 100001, 1000000, 1000001, math.MaxInt - 1, math.MaxInt}
	return ends[r.IntN(len(ends))]
}

// some returns a wild number, or rather more often one that is small.
func some(r *rand.Rand) int {
	if r.IntN(4) == 0 {
		return wild(r)
	}
	return r.IntN(4)
}

// wildCall returns a call with any values.
func wildCall(r *rand.Rand) api.Call {
	c := api.Call{Kind: uint8(r.IntN(8)), Limit: some(r), Other: some(r), From: some(r), To: some(r), Size: some(r), Error: some(r)}
	if r.IntN(2) == 0 {
		c.Course = api.Course{Bearing: some(r), Needle: some(r), Links: wild(r), Year: wild(r), Chain: api.Chain{Wear: some(r), Slack: some(r)}}
	}
	return c
}

// wildField returns a field with some values that may be anything.
func wildField(r *rand.Rand) api.Field {
	f := rich()
	switch r.IntN(6) {
	case 0:
		f.Stations[r.IntN(4)] = api.Station{Name: "new", X: wild(r)}
	case 1:
		f.Parcels[r.IntN(4)] = api.Parcel{Name: "new", South: some(r), From: some(r), To: some(r)}
	case 2:
		f.Variations[r.IntN(2)] = api.Variation{Year: wild(r), East: wild(r)}
	case 3:
		f.Limits, f.Stations = f.Limits[:r.IntN(5)], f.Stations[:r.IntN(5)]
	}
	return f
}

// R1, R2: whatever the arguments are, all functions return, and errors leave nothing.
func TestWildArguments(t *testing.T) {
	r := rand.New(rand.NewPCG(4, 4))
	list := calls()
	for range 6000 {
		f, c := wildField(r), wildCall(r)
		for _, x := range list {
			if x.call == nil {
				continue
			}
			if l, e := x.call(f, c); e != api.OK && !empty(l) {
				t.Fatalf("%s of %v has error %d and %v", x.name, c, e, l)
			}
		}
		y := make([]int, r.IntN(20))
		for i := range y {
			y[i] = some(r)
		}
		deed.Drawn(f, y)
		deed.Allows(f, c, y)
		deed.Same(f, c, wildCall(r))
		deed.At(f, some(r), some(r), y)
		deed.Point(f, some(r), some(r))
		deed.Corner(f, some(r))
		deed.Adjoining(f, some(r))
		deed.Bounds(f, c, wild(r))
		d := api.Deed{Name: "wild", Year: wild(r), Rank: wild(r), Calls: []api.Call{c, wildCall(r)}}
		deed.CheckDeeds(f, []api.Deed{d, d})
		if s := deed.PrintDeeds(f, []api.Deed{d}); s != "" && deed.CheckDeed(f, d) != api.OK {
			t.Fatalf("%v is printed as %q", d, s)
		}
	}
}

// The section Limits.
func TestNumbers(t *testing.T) {
	for _, x := range []struct {
		name      string
		got, want int
	}{
		{"MaxStations", api.MaxStations, 12}, {"MaxLimits", api.MaxLimits, 10}, {"MaxParcels", api.MaxParcels, 40}, {"MaxCalls", api.MaxCalls, 20}, {"MaxDeeds", api.MaxDeeds, 60},
		{"MaxRank", api.MaxRank, 1000}, {"MaxX", api.MaxX, 100000}, {"MaxOffset", api.MaxOffset, 100000}, {"MaxYear", api.MaxYear, 3000}, {"MaxName", api.MaxName, 24},
		{"MaxSource", api.MaxSource, 20000}, {"MaxId", api.MaxId, 1000000}, {"CallStone", int(api.CallStone), 1}, {"CallWidth", int(api.CallWidth), 2},
		{"CallCourse", int(api.CallCourse), 3}, {"CallAlong", int(api.CallAlong), 4}, {"CallLevel", int(api.CallLevel), 5},
	} {
		expect.Equal(t, x.name, x.got, x.want)
	}
}
