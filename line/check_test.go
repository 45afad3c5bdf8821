package line_test

import (
	"math"
	"slices"
	"testing"

	"merestone/api"
	"merestone/expect"
	"merestone/line"
)

// A1: what is valid, with the limits and one beyond each.
func TestCheck(t *testing.T) {
	one := func(b api.Bound) api.System { return api.System{N: 3, Bounds: []api.Bound{b}} }
	for _, x := range []struct {
		name string
		s    api.System
		want api.Errno
	}{
		{"the chapter's", chapter(), api.OK},
		{"a contradiction", contradiction(), api.OK},
		{"no points", api.System{}, api.ErrArg},
		{"less than no points", api.System{N: -1}, api.ErrArg},
		{"far less than no points", api.System{N: math.MinInt}, api.ErrArg},
		{"one point", api.System{N: 1}, api.OK},
		{"one point with a bound", api.System{N: 1, Bounds: []api.Bound{{}}}, api.ErrArg},
		{"128 points", api.System{N: 128}, api.OK},
		{"129 points", api.System{N: 129}, api.ErrLimit},
		{"too many points", api.System{N: math.MaxInt}, api.ErrLimit},
		{"no bounds", api.System{N: 2, Bounds: []api.Bound{}}, api.OK},
		{"2000 bounds", repeated(2000), api.OK},
		{"2001 bounds", repeated(2001), api.ErrLimit},
		{"2001 bounds, no points", api.System{Bounds: make([]api.Bound, 2001)}, api.ErrLimit},
		{"2001 bad bounds", api.System{N: 2, Bounds: make([]api.Bound, 2001)}, api.ErrLimit},
		{"129 points, a bad bound", api.System{N: 129, Bounds: []api.Bound{{From: -1}}}, api.ErrLimit},
		{"2000 bad bounds", api.System{N: 2, Bounds: make([]api.Bound, 2000)}, api.ErrArg},
		{"equal points", one(api.Bound{From: 1, To: 1}), api.ErrArg},
		{"the point 0 twice", one(api.Bound{}), api.ErrArg},
		{"To the last point", one(api.Bound{From: 0, To: 2}), api.OK},
		{"To behind the last point", one(api.Bound{From: 0, To: 3}), api.ErrArg},
		{"To before the first point", one(api.Bound{From: 0, To: -1}), api.ErrArg},
		{"From the last point", one(api.Bound{From: 2, To: 0}), api.OK},
		{"From behind the last point", one(api.Bound{From: 3, To: 0}), api.ErrArg},
		{"From before the first point", one(api.Bound{From: -1, To: 0}), api.ErrArg},
		{"Most 1000000", one(api.Bound{To: 1, Most: 1000000}), api.OK},
		{"Most 1000001", one(api.Bound{To: 1, Most: 1000001}), api.ErrArg},
		{"Most -1000000", one(api.Bound{To: 1, Most: -1000000}), api.OK},
		{"Most -1000001", one(api.Bound{To: 1, Most: -1000001}), api.ErrArg},
		{"the least Most", one(api.Bound{To: 1, Most: math.MinInt}), api.ErrArg},
		{"the greatest Most", one(api.Bound{To: 1, Most: math.MaxInt}), api.ErrArg},
		{"Record 0", one(api.Bound{To: 1, Record: 0}), api.OK},
		{"Record -1", one(api.Bound{To: 1, Record: -1}), api.ErrArg},
		{"Record 1000000", one(api.Bound{To: 1, Record: 1000000}), api.OK},
		{"Record 1000001", one(api.Bound{To: 1, Record: 1000001}), api.ErrArg},
		{"two bounds of the same points", api.System{N: 2, Bounds: []api.Bound{{To: 1}, {To: 1, Most: 2}}}, api.OK},
		{"a bad bound behind good ones", plus(chapter(), api.Bound{From: 3, To: 3}), api.ErrArg},
	} {
		expect.Errno(t, x.name, line.Check(x.s), x.want)
	}
}

// A2: the first bound that is not kept; what values are.
func TestKept(t *testing.T) {
	wide := api.System{N: 3, Bounds: []api.Bound{{From: 0, To: 1, Most: 1000000}, {From: 1, To: 0, Most: 1000000}}}
	for _, x := range []struct {
		name string
		s    api.System
		y    []int
		at   int
		is   bool
		want api.Errno
	}{
		{"the chapter's", chapter(), []int{0, 2, 4, 7}, 0, true, api.OK},
		{"the fourth one", chapter(), []int{0, 2, 2, 0}, 3, false, api.OK},
		{"the first one", chapter(), []int{0, 6, 9, 0}, 0, false, api.OK},
		{"the second one", chapter(), []int{0, 1, 9, 0}, 1, false, api.OK},
		{"the last one", plus(chapter(), api.Bound{From: 3, To: 2, Most: -1, Record: 9}), []int{0, 5, 8, 8}, 5, false, api.OK},
		{"just kept", chapter(), []int{0, 5, 8, 0}, 0, true, api.OK},
		{"one more than kept", chapter(), []int{0, 5, 9, 0}, 2, false, api.OK},
		{"a contradiction has a first one, too", contradiction(), []int{0, 2, 4, 7}, 5, false, api.OK},
		{"one point", api.System{N: 1}, []int{0}, 0, true, api.OK},
		{"the greatest value", wide, []int{0, 0, 400000000}, 0, true, api.OK},
		{"the least value", wide, []int{0, 0, -400000000}, 0, true, api.OK},
		{"far too great for a bound", wide, []int{0, 400000000, 0}, 0, false, api.OK},
		{"far too small for a bound", wide, []int{0, -400000000, 0}, 1, false, api.OK},
		{"one value too few", chapter(), []int{0, 2, 4}, 0, false, api.ErrArg},
		{"one value too many", chapter(), []int{0, 2, 4, 7, 0}, 0, false, api.ErrArg},
		{"no values", chapter(), nil, 0, false, api.ErrArg},
		{"a value of the point 0", chapter(), []int{1, 2, 4, 7}, 0, false, api.ErrArg},
		{"a value of the point 0 below", chapter(), []int{-1, 2, 4, 7}, 0, false, api.ErrArg},
		{"beyond the greatest value", wide, []int{0, 0, 400000001}, 0, false, api.ErrArg},
		{"beyond the least value", wide, []int{0, 0, -400000001}, 0, false, api.ErrArg},
		{"far beyond", wide, []int{0, math.MinInt, math.MaxInt}, 0, false, api.ErrArg},
		{"no values, and a bound that is not kept", chapter(), []int{0, 9, 9, 400000001}, 0, false, api.ErrArg},
		{"no values, and a bad system", api.System{N: 129}, nil, 0, false, api.ErrLimit},
	} {
		at, is, e := line.Kept(x.s, x.y)
		expect.Equal(t, x.name, at, x.at)
		expect.Equal(t, x.name, is, x.is)
		expect.Errno(t, x.name, e, x.want)
	}
}

// A12: the Records of bounds, ascending and each once, without nature's.
func TestRecords(t *testing.T) {
	s := plus(chapter(), api.Bound{From: 2, To: 3, Most: 1, Record: 0}, api.Bound{From: 3, To: 2, Most: 1, Record: 1000000})
	for _, x := range []struct {
		name string
		l    []int
		e    api.Errno
		want []int
	}{
		{"the chapter's", []int{4, 3, 2}, api.OK, []int{3, 4}},
		{"none", nil, api.OK, nil},
		{"an empty list", []int{}, api.OK, nil},
		{"nature", []int{5}, api.OK, nil},
		{"nature among others", []int{6, 5, 0}, api.OK, []int{1, 1000000}},
		{"one twice", []int{1, 0, 1, 0}, api.OK, []int{1, 2}},
		{"one beyond", []int{0, 7}, api.ErrArg, nil},
		{"one before", []int{-1, 0}, api.ErrArg, nil},
		{"far beyond", []int{0, math.MaxInt}, api.ErrArg, nil},
		{"far before", []int{math.MinInt}, api.ErrArg, nil},
	} {
		l, e := line.Records(s, x.l)
		expect.List(t, x.name, l, x.want...)
		expect.Errno(t, x.name, e, x.e)
	}
	l, e := line.Records(contradiction(), []int{0, 2, 5})
	expect.List(t, "of a contradiction", l, 1, 3, 5)
	expect.Errno(t, "of a contradiction", e, api.OK)
	_, e = line.Records(api.System{N: 129}, []int{0})
	expect.Errno(t, "of a bad system", e, api.ErrLimit)
	_, e = line.Records(api.System{N: 2}, []int{0})
	expect.Errno(t, "of no bounds", e, api.ErrArg)
}

// A14: bounds left out by their Records.
func TestWithout(t *testing.T) {
	s := plus(contradiction(), api.Bound{From: 3, To: 2, Most: 4, Record: 0}, api.Bound{From: 2, To: 3, Most: 4, Record: 3})
	for _, x := range []struct {
		name    string
		records []int
		want    []int
	}{
		{"none", nil, []int{0, 1, 2, 3, 4, 5, 6, 7}},
		{"an empty list", []int{}, []int{0, 1, 2, 3, 4, 5, 6, 7}},
		{"one record", []int{3}, []int{0, 1, 4, 5, 6}},
		{"nature", []int{0}, []int{0, 1, 2, 3, 4, 5, 7}},
		{"several, some twice", []int{5, 1, 5, 0}, []int{1, 2, 3, 4, 7}},
		{"unknown ones", []int{6, -3, math.MaxInt, math.MinInt}, []int{0, 1, 2, 3, 4, 5, 6, 7}},
		{"all", []int{0, 1, 2, 3, 4, 5}, nil},
	} {
		w, e := line.Without(s, x.records)
		expect.Errno(t, x.name, e, api.OK)
		expect.Equal(t, x.name, w.N, 4)
		var want []api.Bound
		for _, i := range x.want {
			want = append(want, s.Bounds[i])
		}
		if !slices.Equal(w.Bounds, want) {
			t.Errorf("%s: %v, want %v", x.name, w.Bounds, want)
		}
	}
}

// A14: two systems as one.
func TestJoin(t *testing.T) {
	s, u := chapter(), api.System{N: 4, Bounds: []api.Bound{{From: 3, To: 0, Most: -7, Record: 9}, {From: 0, To: 3, Most: 7}}}
	j, e := line.Join(s, u)
	expect.Errno(t, "Join", e, api.OK)
	expect.Equal(t, "Join", j.N, 4)
	if want := slices.Concat(s.Bounds, u.Bounds); !slices.Equal(j.Bounds, want) {
		t.Errorf("Join: %v, want %v", j.Bounds, want)
	}
	j, e = line.Join(api.System{N: 4}, s)
	if e != api.OK || j.N != 4 || !slices.Equal(j.Bounds, s.Bounds) {
		t.Errorf("Join with no bounds: %v, error %d", j, e)
	}
	j, e = line.Join(api.System{N: 7}, api.System{N: 7})
	if e != api.OK || j.N != 7 || len(j.Bounds) != 0 {
		t.Errorf("Join of no bounds: %v, error %d", j, e)
	}
	j, e = line.Join(contradiction(), contradiction())
	if e != api.OK || len(j.Bounds) != 12 {
		t.Errorf("Join of contradictions: %v, error %d", j, e)
	}
	bad, long := api.System{}, api.System{N: 129}
	for _, x := range []struct {
		name string
		s, u api.System
		want api.Errno
	}{
		{"2000 bounds", repeated(1999), repeated(1), api.OK},
		{"2000 bounds and none", repeated(2000), api.System{N: 2}, api.OK},
		{"2001 bounds", repeated(1999), repeated(2), api.ErrLimit},
		{"4000 bounds", repeated(2000), repeated(2000), api.ErrLimit},
		{"other points", chapter(), api.System{N: 3}, api.ErrArg},
		{"other points, the other way round", api.System{N: 3}, chapter(), api.ErrArg},
		{"other points and 4000 bounds", repeated(2000), api.System{N: 3, Bounds: repeated(2000).Bounds}, api.ErrArg},
		{"the first one is bad", bad, long, api.ErrArg},
		{"the first one is too long", long, bad, api.ErrLimit},
		{"the second one is bad", chapter(), bad, api.ErrArg},
		{"the second one is too long", chapter(), long, api.ErrLimit},
	} {
		_, e := line.Join(x.s, x.u)
		expect.Errno(t, x.name, e, x.want)
	}
}
