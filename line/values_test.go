package line_test

import (
	"math"
	"math/rand/v2"
	"slices"
	"testing"

	"merestone/api"
	"merestone/expect"
	"merestone/line"
)

// A8: the greatest and the least values, and points without them.
func TestGreatestLeast(t *testing.T) {
	three := api.System{N: 3, Bounds: chapter().Bounds}
	half := api.System{N: 3, Bounds: []api.Bound{{From: 0, To: 1, Most: 5}, {From: 1, To: 2, Most: -9}}}
	for _, x := range []struct {
		name            string
		s               api.System
		greatest, least []int
	}{
		{"the chapter's", three, []int{0, 5, 8}, []int{0, 2, 3}},
		{"a point alone", chapter(), nil, nil},
		{"one point", api.System{N: 1}, []int{0}, []int{0}},
		{"no least values", half, []int{0, 5, -4}, nil},
		{"no greatest values", turned(half), nil, []int{0, -5, 4}},
		{"far up", chain(128, 1000000), nil, nil},
	} {
		for _, y := range []struct {
			name string
			call func(api.System) ([]int, api.Errno)
			want []int
		}{{"Greatest", line.Greatest, x.greatest}, {"Least", line.Least, x.least}} {
			if x.name == "far up" {
				continue
			}
			l, e := y.call(x.s)
			expect.List(t, x.name+": "+y.name, l, y.want...)
			want := api.OK
			if y.want == nil {
				want = api.ErrNone
			}
			expect.Errno(t, x.name+": "+y.name, e, want)
		}
	}
	l, e := line.Greatest(chain(128, 1000000))
	expect.Errno(t, "far up", e, api.OK)
	expect.Equal(t, "far up", l[127], 127000000)
	l, e = line.Least(turned(chain(128, 1000000)))
	expect.Errno(t, "far down", e, api.OK)
	expect.Equal(t, "far down", l[127], -127000000)
}

// A8, P1.4: these are the ends of the ranges; they keep the system, and all values that keep it lie between them.
func TestGreatestLeastKeep(t *testing.T) {
	found := 0
	eachConsistent(t, 3000, func(t *testing.T, r *rand.Rand, s api.System, d table) {
		var high, low []int
		for p := range s.N {
			if d[0][p].is {
				high = append(high, d[0][p].most)
			}
			if d[p][0].is {
				low = append(low, -d[p][0].most)
			}
		}
		keeps(t, s, "Greatest", line.Greatest, high)
		keeps(t, s, "Least", line.Least, low)
		if len(high) < s.N || len(low) < s.N || s.N > 4 || s.N < 2 {
			return
		}
		found++
		eachValues(s, 8, func(y []int) {
			for p, v := range y {
				if v < low[p] || v > high[p] {
					t.Errorf("%v: %v keeps %v, beyond %v or %v", s, y, s, low, high)
				}
			}
		})
	})
	if found < 100 {
		t.Errorf("only %d bounded systems", found)
	}
}

// keeps fails unless a function returns these values, and they keep the system, or ErrNone if there are not enough.
func keeps(t *testing.T, s api.System, name string, call func(api.System) ([]int, api.Errno), want []int) {
	t.Helper()
	l, e := call(s)
	if len(want) < s.N {
		expect.Errno(t, name, e, api.ErrNone)
		expect.List(t, name, l)
		return
	}
	expect.Errno(t, name, e, api.OK)
	expect.List(t, name, l, want...)
	_, is, e := line.Kept(s, l)
	expect.Equal(t, name+" keeps", is, true)
	expect.Errno(t, name+" keeps", e, api.OK)
}

// P1.4: of two values that keep a system the lesser ones, and the greater ones, point by point, keep it.
func TestLesserAndGreaterKeep(t *testing.T) {
	eachConsistent(t, 600, func(t *testing.T, r *rand.Rand, s api.System, d table) {
		var all [][]int
		for p := range s.N {
			for v := -6; v <= 6; v++ {
				if y, is, _ := line.Through(s, p, v); is {
					all = append(all, y)
				}
			}
		}
		for _, y := range all {
			for _, z := range all {
				lesser, greater := slices.Clone(y), slices.Clone(y)
				for p := range y {
					lesser[p], greater[p] = min(y[p], z[p]), max(y[p], z[p])
				}
				_, low, _ := line.Kept(s, lesser)
				_, high, _ := line.Kept(s, greater)
				expect.Equal(t, "lesser and greater values keep", low && high, true)
			}
		}
	})
}

// A9: which values are chosen.
func TestSome(t *testing.T) {
	for _, x := range []struct {
		name string
		s    api.System
		want []int
	}{
		{"the chapter's", chapter(), []int{0, 5, 8, 0}},
		{"one point", api.System{N: 1}, []int{0}},
		{"no bounds", api.System{N: 4}, []int{0, 0, 0, 0}},
		{"a least value above 0", api.System{N: 2, Bounds: []api.Bound{{From: 1, To: 0, Most: -7}}}, []int{0, 7}},
		{"a least value of 0", api.System{N: 2, Bounds: []api.Bound{{From: 1, To: 0}}}, []int{0, 0}},
		{"a least value below 0", api.System{N: 2, Bounds: []api.Bound{{From: 1, To: 0, Most: 7}}}, []int{0, 0}},
		{"a greatest value below 0", api.System{N: 2, Bounds: []api.Bound{{From: 0, To: 1, Most: -7}}}, []int{0, -7}},
		{"a greatest value above 0", api.System{N: 2, Bounds: []api.Bound{{From: 0, To: 1, Most: 7}}}, []int{0, 7}},
		{"the second one by the first one", api.System{N: 3, Bounds: []api.Bound{{From: 2, To: 1, Most: -3}}}, []int{0, 0, 3}},
		{"the second one below the first one", api.System{N: 3, Bounds: []api.Bound{{From: 1, To: 2, Most: -3}}}, []int{0, 0, -3}},
		{"below, and another one above that", api.System{N: 4, Bounds: []api.Bound{{From: 1, To: 2, Most: -3}, {From: 2, To: 3, Most: 2}}}, []int{0, 0, -3, -1}},
		{"below, and another one at 0", api.System{N: 4, Bounds: []api.Bound{{From: 1, To: 2, Most: -3}, {From: 2, To: 3, Most: 5}}}, []int{0, 0, -3, 0}},
		{"between two given ones", api.System{N: 4, Bounds: []api.Bound{{From: 1, To: 0, Most: -9}, {From: 3, To: 1, Most: 4}, {From: 1, To: 3, Most: -2}}}, []int{0, 9, 0, 5}},
		{"by a point with a greatest value", api.System{N: 3, Bounds: []api.Bound{{From: 0, To: 1, Most: 6}, {From: 2, To: 1, Most: -1}}}, []int{0, 6, 7}},
		{"by a bound through a later point", api.System{N: 4, Bounds: []api.Bound{{From: 1, To: 3, Most: -2}, {From: 3, To: 2, Most: -2}}}, []int{0, 0, -4, -2}},
		{"high by a bound through a later point", api.System{N: 3, Bounds: []api.Bound{{From: 1, To: 2, Most: -2}, {From: 2, To: 0, Most: -3}}}, []int{0, 5, 3}},
	} {
		l, e := line.Some(x.s)
		expect.List(t, x.name, l, x.want...)
		expect.Errno(t, x.name, e, api.OK)
		l, is, e := line.Through(x.s, 0, 0)
		expect.List(t, x.name+", through 0", l, x.want...)
		expect.Equal(t, x.name+", through 0", is, true)
		expect.Errno(t, x.name+", through 0", e, api.OK)
	}
}

// A9: the values of the longest chains are values.
func TestSomeFar(t *testing.T) {
	for _, most := range []int{1000000, -1000000} {
		for _, s := range []api.System{chain(128, most), turned(chain(128, most)), plus(chain(128, most), api.Bound{From: 127, To: 0, Most: 1000000})} {
			l, e := line.Some(s)
			if ok, _ := line.Consistent(s); !ok {
				expect.Errno(t, "Some", e, api.ErrCircle)
				continue
			}
			expect.Errno(t, "Some", e, api.OK)
			_, is, e := line.Kept(s, l)
			expect.Equal(t, "Some keeps", is, true)
			expect.Errno(t, "Some keeps", e, api.OK)
		}
	}
}

// A9: Some is what a search number by number finds.
func TestSomeIsFirst(t *testing.T) {
	eachConsistent(t, 3000, func(t *testing.T, r *rand.Rand, s api.System, d table) {
		want, _ := search(s)
		l, e := line.Some(s)
		expect.Errno(t, "Some", e, api.OK)
		expect.List(t, "Some", l, want...)
		_, is, e := line.Kept(s, l)
		expect.Equal(t, "Some keeps", is, true)
		expect.Errno(t, "Some keeps", e, api.OK)
		if t.Failed() {
			t.Log(s)
		}
	})
}

// A9: values through one that is given.
func TestThrough(t *testing.T) {
	s := chapter()
	for _, x := range []struct {
		name string
		s    api.System
		p, v int
		want []int
		e    api.Errno
	}{
		{"the chapter's", s, 1, 3, []int{0, 3, 6, 0}, api.OK},
		{"the high end", s, 1, 5, []int{0, 5, 8, 0}, api.OK},
		{"the low end", s, 1, 2, []int{0, 2, 5, 0}, api.OK},
		{"beyond the high end", s, 1, 6, nil, api.OK},
		{"beyond the low end", s, 1, 1, nil, api.OK},
		{"a point alone", s, 3, -12, []int{0, 5, 8, -12}, api.OK},
		{"the point 0 at 0", s, 0, 0, []int{0, 5, 8, 0}, api.OK},
		{"the point 0 above", s, 0, 1, nil, api.OK},
		{"the point 0 below", s, 0, -1, nil, api.OK},
		{"far up", s, 3, 1000000, []int{0, 5, 8, 1000000}, api.OK},
		{"far down", s, 3, -1000000, []int{0, 5, 8, -1000000}, api.OK},
		{"too far up", s, 3, 1000001, nil, api.ErrArg},
		{"too far down", s, 3, -1000001, nil, api.ErrArg},
		{"much too far up", s, 3, math.MaxInt, nil, api.ErrArg},
		{"much too far down", s, 3, math.MinInt, nil, api.ErrArg},
		{"the point 0 too far up", s, 0, 1000001, nil, api.ErrArg},
		{"behind the last point", s, 4, 0, nil, api.ErrArg},
		{"before the first point", s, -1, 0, nil, api.ErrArg},
		{"a contradiction", contradiction(), 1, 3, nil, api.OK},
		{"a contradiction at 0", contradiction(), 0, 0, nil, api.OK},
		{"a contradiction, no point", contradiction(), 4, 3, nil, api.ErrArg},
		{"a contradiction, too far", contradiction(), 3, 1000001, nil, api.ErrArg},
		{"a contradiction elsewhere", api.System{N: 4, Bounds: []api.Bound{{From: 2, To: 3, Most: -1}, {From: 3, To: 2}}}, 1, 3, nil, api.OK},
		{"with 2000 bounds", repeated(2000), 1, 2, []int{0, 2}, api.OK},
		{"with 2000 bounds, beyond", repeated(2000), 1, 4, nil, api.OK},
		{"with 2001 bounds", repeated(2001), 1, 2, nil, api.ErrLimit},
	} {
		l, is, e := line.Through(x.s, x.p, x.v)
		expect.List(t, x.name, l, x.want...)
		expect.Equal(t, x.name, is, x.want != nil)
		expect.Errno(t, x.name, e, x.e)
	}
}

// P1.3: each value of a range is that of Through, one beyond is not; Through is Some of the system with two more bounds.
func TestThroughIsExact(t *testing.T) {
	eachConsistent(t, 500, func(t *testing.T, r *rand.Rand, s api.System, d table) {
		for p := range s.N {
			for v := -25; v <= 25; v++ {
				y, is, e := line.Through(s, p, v)
				expect.Errno(t, "Through", e, api.OK)
				expect.Equal(t, "Through", is, !(d[0][p].is && v > d[0][p].most) && !(d[p][0].is && v < -d[p][0].most))
				if !is {
					expect.List(t, "Through", y)
					continue
				}
				_, kept, _ := line.Kept(s, y)
				expect.Equal(t, "Through keeps", kept, true)
				expect.Equal(t, "Through has the value", y[p], v)
				if p > 0 {
					want, _ := search(tied(s, map[int]int{p: v}))
					expect.List(t, "Through", y, want...)
				}
			}
		}
	})
}

// P1.3: for each distance there are values in which the difference is it.
func TestDistancesAreAttained(t *testing.T) {
	eachConsistent(t, 1500, func(t *testing.T, r *rand.Rand, s api.System, d table) {
		for a := range s.N {
			for b := range s.N {
				if !d[a][b].is {
					continue
				}
				// The difference is at least the distance with one more bound, from b to a.
				least := s
				if a != b {
					least = plus(s, api.Bound{From: b, To: a, Most: -d[a][b].most})
				}
				y, e := line.Some(least)
				expect.Errno(t, "Some", e, api.OK)
				if e != api.OK {
					return
				}
				_, is, _ := line.Kept(s, y)
				expect.Equal(t, "the values keep", is, true)
				expect.Equal(t, "the difference is the distance", y[b]-y[a], d[a][b].most)
			}
		}
	})
}
