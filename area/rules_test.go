package area_test

import (
	"math"
	"math/rand/v2"
	"reflect"
	"slices"
	"testing"

	"merestone/api"
	"merestone/area"
	"merestone/deed"
	"merestone/expect"
)

// The chapter's table of examples, line by line.
func TestExamples(t *testing.T) {
	f, s := example(), bounded()
	w, e := area.Weights(f, 0)
	expect.Errno(t, "Weights", e, api.OK)
	expect.List(t, "Weights", w, 0, -10, -30, -20, 10, 30, 20)
	area2, e := area.Area2(f, 0, []int{0, 1, 2, 3, 11, 12, 18})
	expect.Errno(t, "Area2", e, api.OK)
	expect.Equal(t, "Area2", area2, 700)
	form, _, flow, e := area.Greatest(s, w)
	expect.Errno(t, "Greatest", e, api.OK)
	expect.Equal(t, "Greatest", form, 1200)
	expect.Equal(t, "the cost of the flow", costOf(s, flow), 1200)
	x, e := area.Bounds(f, s, 0)
	expect.Errno(t, "Bounds", e, api.OK)
	expect.Equal(t, "Bounds", [2]int{x.Low, x.High}, [2]int{600, 1200})
	records, e := area.Records(s, x.Upper)
	expect.Errno(t, "Records", e, api.OK)
	expect.List(t, "Records", records, 2)
	for least, want := range map[int]uint8{600: 1, 601: 0, 1201: 2} {
		surely(t, f, s, 0, least, want)
	}
	pieces, e := area.Pieces(f, 0)
	expect.Errno(t, "Pieces", e, api.OK)
	expect.List(t, "Pieces", pieces, api.Parcel{Name: "land", From: 0, To: 1}, api.Parcel{Name: "land", From: 1, To: 2})
	west(t, "West", f, drawn(), 0, 5, api.Frac{Num: 125, Den: 1})
	cut(t, "Cut", f, drawn(), 0, 125, 5)
	cut(t, "Cut", f, drawn(), 0, 126, 5)
}

// The lines of the table that share something out.
func TestExamplesOfShares(t *testing.T) {
	for _, x := range []struct {
		name string
		call func() ([]int, api.Errno)
		want []int
	}{
		{"Divide", func() ([]int, api.Errno) { return area.Divide(example(), drawn(), 0, []int{1, 1}) }, []int{16}},
		{"Shares", func() ([]int, api.Errno) { return area.Shares(10, []int{1, 1, 1}) }, []int{4, 3, 3}},
		{"Shares", func() ([]int, api.Errno) { return area.Shares(7, []int{3, 0, 4}) }, []int{3, 0, 4}},
		{"Ranked", func() ([]int, api.Errno) { return area.Ranked(10, []int{6, 6, 4}, []int{1, 2, 2}) }, []int{6, 2, 2}},
		{"Ranked", func() ([]int, api.Errno) { return area.Ranked(20, []int{6, 6, 4}, []int{1, 2, 2}) }, []int{6, 8, 6}},
		{"Stakes", func() ([]int, api.Errno) { return area.Stakes(100, 110, []int{1, 1, 1}) }, []int{104, 107, 110}},
		{"Stakes", func() ([]int, api.Errno) { return area.Stakes(110, 100, []int{1, 1, 1}) }, []int{106, 103, 100}},
	} {
		got, e := x.call()
		expect.Errno(t, x.name, e, api.OK)
		expect.List(t, x.name, got, x.want...)
	}
}

// arguments is all that functions of the package may be given.
type arguments struct {
	f                                             api.Field
	s                                             api.System
	x                                             api.Extent
	w, y, flow, parts, ranks, shares              []int
	parcel, other, least, at, area2, total, close int
}

// good returns arguments with which no function has an error.
func good() arguments {
	a := arguments{
		f: example(), s: bounded(), w: weightsOfExample(), y: drawn(), parts: []int{6, 6, 4}, ranks: []int{1, 2, 2}, shares: []int{8, 7, 5},
		least: 601, at: 5, area2: 126, total: 20, close: 30,
	}
	a.x, _ = area.Bounds(a.f, a.s, 0)
	a.flow = slices.Clone(a.x.Upper)
	return a
}

// clone returns arguments in memory of their own.
func (a arguments) clone() arguments {
	a.f.Stations, a.f.Limits, a.f.Parcels = slices.Clone(a.f.Stations), slices.Clone(a.f.Limits), slices.Clone(a.f.Parcels)
	a.s.Bounds = slices.Clone(a.s.Bounds)
	for _, l := range a.lists() {
		*l = slices.Clone(*l)
	}
	return a
}

// lists returns all lists of numbers.
func (a *arguments) lists() []*[]int {
	return []*[]int{&a.w, &a.y, &a.flow, &a.parts, &a.ranks, &a.shares, &a.x.Least, &a.x.Greatest, &a.x.Lower, &a.x.Upper}
}

type results = []any

// call is a function of the package; its results without the error, and the error.
type call struct {
	name          string
	field, system bool // what it is given
	circle        bool // it refuses a system that is not consistent
	run           func(a arguments) (results, api.Errno)
}

// calls returns all functions.
func calls() []call {
	return slices.Concat(systemCalls(), fieldCalls(), shareCalls())
}

// systemCalls returns the functions with a system alone.
func systemCalls() []call {
	return []call{
		{"Form", false, true, false, func(a arguments) (results, api.Errno) { return expect.One(area.Form(a.s, a.w, a.y)) }},
		{"Greatest", false, true, true, func(a arguments) (results, api.Errno) { return expect.Three(area.Greatest(a.s, a.w)) }},
		{"Least", false, true, true, func(a arguments) (results, api.Errno) { return expect.Three(area.Least(a.s, a.w)) }},
		{"CheckFlow", false, true, false, func(a arguments) (results, api.Errno) {
			return expect.One(area.CheckFlow(a.s, a.w, a.flow, a.least))
		}},
		{"CheckBest", false, true, false, func(a arguments) (results, api.Errno) {
			return expect.One(area.CheckBest(a.s, a.w, a.y, a.flow))
		}},
		{"Records", false, true, false, func(a arguments) (results, api.Errno) { return expect.One(area.Records(a.s, a.flow)) }},
	}
}

// fieldCalls returns the functions with a field.
func fieldCalls() []call {
	return []call{
		{"Weights", true, false, false, func(a arguments) (results, api.Errno) { return expect.One(area.Weights(a.f, a.parcel)) }},
		{"Area2", true, false, false, func(a arguments) (results, api.Errno) { return expect.One(area.Area2(a.f, a.parcel, a.y)) }},
		{"Total", true, false, false, func(a arguments) (results, api.Errno) { return expect.One(area.Total(a.f, a.y)) }},
		{"Bounds", true, true, true, func(a arguments) (results, api.Errno) {
			x, e := area.Bounds(a.f, a.s, a.parcel)
			return results{x.Low, x.High, x.Least, x.Greatest, x.Lower, x.Upper}, e
		}},
		{"CheckExtent", true, true, false, func(a arguments) (results, api.Errno) {
			return expect.One(area.CheckExtent(a.f, a.s, a.parcel, a.x))
		}},
		{"Surely", true, true, true, func(a arguments) (results, api.Errno) {
			return expect.One(area.Surely(a.f, a.s, a.parcel, a.least))
		}},
		{"Difference", true, true, true, func(a arguments) (results, api.Errno) {
			return expect.Two(area.Difference(a.f, a.s, a.parcel, a.other))
		}},
		{"Pieces", true, false, false, func(a arguments) (results, api.Errno) { return expect.One(area.Pieces(a.f, a.parcel)) }},
		{"West", true, false, false, func(a arguments) (results, api.Errno) {
			return expect.One(area.West(a.f, a.y, a.parcel, a.at))
		}},
		{"Cut", true, false, false, func(a arguments) (results, api.Errno) {
			return expect.One(area.Cut(a.f, a.y, a.parcel, a.area2))
		}},
		{"Divide", true, false, false, func(a arguments) (results, api.Errno) {
			return expect.One(area.Divide(a.f, a.y, a.parcel, a.parts))
		}},
	}
}

// shareCalls returns the functions with neither.
func shareCalls() []call {
	return []call{
		{"Shares", false, false, false, func(a arguments) (results, api.Errno) { return expect.One(area.Shares(a.total, a.parts)) }},
		{"CheckShares", false, false, false, func(a arguments) (results, api.Errno) {
			return expect.One(area.CheckShares(a.total, a.parts, a.shares))
		}},
		{"Ranked", false, false, false, func(a arguments) (results, api.Errno) {
			return expect.One(area.Ranked(a.total, a.parts, a.ranks))
		}},
		{"Stakes", false, false, false, func(a arguments) (results, api.Errno) {
			return expect.One(area.Stakes(a.at, a.close, a.parts))
		}},
	}
}

// empty says whether all results are zero values, where empty slices are as good as nil.
func empty(l results) bool {
	return !slices.ContainsFunc(l, func(x any) bool {
		v := reflect.ValueOf(x)
		return !v.IsZero() && (v.Kind() != reflect.Slice || v.Len() > 0)
	})
}

// alike says whether results are equal, where empty slices are as good as nil.
func alike(l, m results) bool { return empty(l) && empty(m) || reflect.DeepEqual(l, m) }

// refused fails unless a call has an error, and nothing else.
func refused(t *testing.T, name string, c call, a arguments, want api.Errno) {
	t.Helper()
	l, e := c.run(a)
	expect.Errno(t, c.name+" with "+name, e, want)
	expect.Equal(t, c.name+" with "+name+" is empty", empty(l), true)
}

// wrongFields returns the fields that are not valid, by their errors.
func wrongFields() map[api.Errno]api.Field {
	return map[api.Errno]api.Field{
		api.ErrNone:  {},
		api.ErrLimit: {Stations: make([]api.Station, 13)},
		api.ErrForm:  {Stations: []api.Station{{Name: "A"}, {Name: "b", X: 1}}, Limits: []string{"south"}},
		api.ErrTwice: {Stations: []api.Station{{Name: "a"}, {Name: "a", X: 1}}, Limits: []string{"south"}},
		api.ErrArg:   {Stations: []api.Station{{Name: "a", X: -1}, {Name: "b", X: 1}}, Limits: []string{"south"}},
		api.ErrOrder: {Stations: []api.Station{{Name: "a", X: 1}, {Name: "b", X: 1}}, Limits: []string{"south"}},
	}
}

// wrongSystems returns systems that are not valid, with their errors.
func wrongSystems() map[string]struct {
	s    api.System
	want api.Errno
} {
	return map[string]struct {
		s    api.System
		want api.Errno
	}{
		"no points":                      {api.System{}, api.ErrArg},
		"129 points":                     {api.System{N: 129}, api.ErrLimit},
		"2001 bounds":                    {api.System{N: 7, Bounds: slices.Repeat([]api.Bound{bound(0, 1, 1, 1)}, 2001)}, api.ErrLimit},
		"a bound of equal points":        {plus(bounded(), bound(3, 3, 1, 1)), api.ErrArg},
		"a bound to no point":            {plus(bounded(), bound(3, 7, 1, 1)), api.ErrArg},
		"a wrong bound, a contradiction": {plus(contradiction(), bound(3, 4, 1000001, 1)), api.ErrArg},
		"numbers from end to end":        {api.System{N: math.MinInt, Bounds: []api.Bound{bound(math.MinInt, math.MaxInt, math.MinInt, math.MaxInt)}}, api.ErrArg},
	}
}

// wronged returns arguments in which all else is wrong than the field and the system.
func wronged() arguments {
	a := arguments{f: example(), s: bounded(), w: []int{1}, y: []int{1}, flow: []int{-1}, parts: make([]int, 51), ranks: []int{-1}, shares: []int{-1}}
	a.parcel, a.other, a.least, a.at, a.area2, a.total, a.close = -1, -1, -1, -1, -1, -1, -1
	return a
}

// R2: the error of the field comes first, then that of the system, then ErrArg, whatever else is wrong; all with zero values.
func TestErrorsInOrder(t *testing.T) {
	for _, c := range calls() {
		_, e := c.run(good())
		expect.Errno(t, c.name, e, api.OK)
		for _, a := range []arguments{good(), wronged()} {
			for want, f := range wrongFields() {
				a.f = f
				if c.field {
					refused(t, "a wrong field", c, a, want)
				}
				a.s = api.System{N: 129}
				if c.field && want != api.ErrLimit {
					refused(t, "a wrong field and a wrong system", c, a, want)
				}
			}
			for name, x := range wrongSystems() {
				a.f, a.s = example(), x.s
				if c.system {
					refused(t, name, c, a, x.want)
				}
			}
		}
		a := wronged()
		want := api.ErrArg
		if c.name == "Shares" || c.name == "CheckShares" || c.name == "Ranked" {
			want = api.ErrLimit
		}
		refused(t, "wrong arguments", c, a, want)
		a.s = contradiction()
		refused(t, "wrong arguments and a contradiction", c, a, want)
	}
}

// Functions that look for an end refuse a system that is not consistent, and no others do.
func TestErrorsOfContradictions(t *testing.T) {
	for _, c := range calls() {
		a := good()
		a.s = contradiction()
		a.flow = append(a.flow, 0)
		if c.circle {
			refused(t, "a contradiction", c, a, api.ErrCircle)
			continue
		}
		_, e := c.run(a)
		expect.Errno(t, c.name+" of a contradiction", e, api.OK)
	}
}

// R3, R4: arguments stay as they are, also behind their end, results are new memory, and a call says the same again.
func TestMemory(t *testing.T) {
	for _, c := range calls() {
		a := roomy(good())
		before := a.clone()
		first, e := c.run(a)
		expect.Errno(t, c.name, e, api.OK)
		expect.Equal(t, c.name+" leaves its arguments", reflect.DeepEqual(a, before), true)
		expect.Equal(t, c.name+" leaves what lies behind them", untouched(a), true)
		want, _ := c.run(good())
		spoil(a)
		expect.Equal(t, c.name+" keeps no memory", alike(first, want), true)
		for i, x := range first {
			v := reflect.ValueOf(x)
			if v.Kind() != reflect.Slice {
				continue
			}
			v.Slice(0, v.Cap()).Clear()
			for k := i + 1; k < len(first); k++ {
				expect.Equal(t, c.name+": results apart", reflect.DeepEqual(first[k], want[k]), true)
			}
		}
		for range 3 {
			again, _ := c.run(good())
			expect.Equal(t, c.name+" says the same again", alike(again, want), true)
		}
	}
}

// roomy returns arguments whose lists have room behind their end, with 77 in it.
func roomy(a arguments) arguments {
	for _, l := range a.lists() {
		k := len(*l)
		*l = append(slices.Clone(*l), slices.Repeat([]int{77}, 9)...)[:k]
	}
	k := len(a.s.Bounds)
	a.s.Bounds = append(slices.Clone(a.s.Bounds), slices.Repeat([]api.Bound{bound(77, 77, 77, 77)}, 9)...)[:k]
	k = len(a.f.Parcels)
	a.f.Parcels = append(slices.Clone(a.f.Parcels), slices.Repeat([]api.Parcel{{Name: "77"}}, 9)...)[:k]
	return a
}

// untouched says whether nothing has changed behind the lists of roomy arguments.
func untouched(a arguments) bool {
	for _, l := range a.lists() {
		k := len(*l)
		if !slices.Equal((*l)[k:k+9], slices.Repeat([]int{77}, 9)) {
			return false
		}
	}
	k, m := len(a.s.Bounds), len(a.f.Parcels)
	return slices.Equal(a.s.Bounds[k:k+9], slices.Repeat([]api.Bound{bound(77, 77, 77, 77)}, 9)) &&
		slices.Equal(a.f.Parcels[m:m+9], slices.Repeat([]api.Parcel{{Name: "77"}}, 9))
}

// spoil overwrites the memory of arguments.
func spoil(a arguments) {
	for _, l := range a.lists() {
		clear(*l)
	}
	clear(a.s.Bounds)
	clear(a.f.Stations)
	clear(a.f.Limits)
	clear(a.f.Parcels)
}

// R3: nil and empty lists are the same.
func TestNilAndEmpty(t *testing.T) {
	for _, c := range calls() {
		for _, base := range []arguments{good(), {f: example(), s: api.System{N: 7}, w: weightsOfExample(), y: drawn()}, {f: example(), s: api.System{N: 1}, w: []int{0}, y: []int{0}}} {
			one, two := base.clone(), base.clone()
			one.flow, one.parts, one.ranks, one.shares = nil, nil, nil, nil
			two.flow, two.parts, two.ranks, two.shares = []int{}, []int{}, []int{}, []int{}
			if len(base.s.Bounds) == 0 {
				one.s.Bounds, two.s.Bounds = nil, []api.Bound{}
			}
			one.x.Lower, two.x.Lower = nil, []int{}
			l, e := c.run(one)
			m, g := c.run(two)
			expect.Equal(t, c.name, alike(l, m), true)
			expect.Errno(t, c.name, g, e)
		}
	}
}

// some returns a number that is often small, and otherwise at an end of what is allowed.
func some(r *rand.Rand) int {
	if r.IntN(3) > 0 {
		return r.IntN(9)
	}
	ends := []int{
		math.MinInt, math.MinInt + 1, -400000001, -400000000, -1000001, -1000000, -1, 0, 1, 5, 50, 51, 128, 129, 100000, 100001,
		1000000, 1000001, 400000000, 400000001, 1000000000, 1000000001, 100000000000, 100000000001, math.MaxInt - 1, math.MaxInt,
	}
	return ends[r.IntN(len(ends))]
}

// wild returns good arguments of which some are replaced by anything.
func wild(r *rand.Rand) arguments {
	a := good()
	for _, l := range a.lists() {
		if r.IntN(3) == 0 {
			*l = make([]int, r.IntN(9))
		}
		if len(*l) > 0 && r.IntN(3) == 0 {
			(*l)[r.IntN(len(*l))] = some(r)
		}
	}
	for _, p := range []*int{&a.parcel, &a.other, &a.least, &a.at, &a.area2, &a.total, &a.close} {
		if r.IntN(3) == 0 {
			*p = some(r)
		}
	}
	switch r.IntN(5) {
	case 0:
		a.s.N = some(r)
	case 1:
		a.s.Bounds[r.IntN(12)] = bound(some(r), some(r), some(r), some(r))
	case 2:
		a.s.Bounds = a.s.Bounds[:r.IntN(13)]
	}
	switch r.IntN(6) {
	case 0:
		a.f.Stations[r.IntN(3)].X = some(r)
	case 1:
		a.f.Parcels[0] = api.Parcel{Name: "new", South: some(r), From: some(r), To: some(r)}
	case 2:
		a.f.Limits, a.f.Stations = a.f.Limits[:r.IntN(3)], a.f.Stations[:r.IntN(4)]
	}
	return a
}

// R1, R2: whatever the arguments are, all functions return, and errors leave nothing.
func TestWildArguments(t *testing.T) {
	r := rand.New(rand.NewPCG(1, 15))
	for range 8000 {
		a := wild(r)
		for _, c := range calls() {
			if l, e := c.run(a); e != api.OK && !empty(l) {
				t.Fatalf("%s has error %d and %v of %v", c.name, e, l, a)
			}
		}
	}
}

// R1: the greatest field, with stations and parcels as many as there may be.
func TestGreatField(t *testing.T) {
	f := api.Field{}
	for i := range 12 {
		f.Stations = append(f.Stations, api.Station{Name: name("at", i), X: i * 100000 / 11})
	}
	for i := range 10 {
		f.Limits = append(f.Limits, name("limit", i))
	}
	for i := range 40 {
		f.Parcels = append(f.Parcels, api.Parcel{Name: name("land", i), South: i % 9, From: i / 9, To: i/9 + 1})
	}
	f.Parcels[39].To = 11
	s := api.System{N: deed.Points(f)}
	s.Bounds, _ = deed.Nature(f)
	for i, p := range f.Parcels {
		length := f.Stations[p.To].X - f.Stations[p.From].X
		x, e := area.Bounds(f, s, i)
		expect.Errno(t, "Bounds", e, api.OK)
		expect.Equal(t, "Bounds", [2]int{x.Low, x.High}, [2]int{0, 200000 * length})
		is, e := area.CheckExtent(f, s, i, x)
		expect.Errno(t, "CheckExtent", e, api.OK)
		expect.Equal(t, "CheckExtent", is, true)
		records, e := area.Records(s, x.Upper)
		expect.Errno(t, "Records", e, api.OK)
		expect.List(t, "Records", records)
	}
	low, high, e := area.Difference(f, s, 39, 0)
	expect.Errno(t, "Difference", e, api.OK)
	expect.Equal(t, "Difference", [2]int{low, high}, [2]int{-200000 * f.Stations[1].X, 200000 * (100000 - f.Stations[4].X)})
}

// The section Limits, and the numbers of errors and answers.
func TestNumbers(t *testing.T) {
	for _, x := range []struct {
		name      string
		got, want int
	}{
		{"MaxWeight", api.MaxWeight, 1000000}, {"MaxWeights", api.MaxWeights, 60}, {"MaxAmount", api.MaxAmount, 1000000000}, {"MaxShares", api.MaxShares, 50},
		{"MaxTotal", api.MaxTotal, 100000000000}, {"MaxPart", api.MaxPart, 1000000}, {"MaxOffset", api.MaxOffset, 100000}, {"MaxValue", api.MaxValue, 400000000},
		{"ErrOpen", int(api.ErrOpen), 50}, {"ErrShare", int(api.ErrShare), 51}, {"ErrCircle", int(api.ErrCircle), 10},
		{"SureOpen", int(api.SureOpen), 0}, {"SureAll", int(api.SureAll), 1}, {"SureNone", int(api.SureNone), 2},
	} {
		expect.Equal(t, x.name, x.got, x.want)
	}
}
