package line_test

import (
	"math"
	"math/rand/v2"
	"slices"
	"testing"

	"merestone/api"
	"merestone/expect"
	"merestone/line"
)

// A5: distances, and points without a path.
func TestDistance(t *testing.T) {
	s := chapter()
	for _, x := range []struct {
		a, b, want int
		is         bool
	}{{0, 2, 8, true}, {0, 1, 5, true}, {2, 0, -3, true}, {2, 1, -1, true}, {1, 2, 3, true}, {1, 0, -2, true}, {0, 0, 0, true}, {3, 3, 0, true}, {0, 3, 0, false}, {3, 0, 0, false}, {3, 1, 0, false}} {
		d, is, e := line.Distance(s, x.a, x.b)
		expect.Equal(t, "Distance", d, x.want)
		expect.Equal(t, "Distance", is, x.is)
		expect.Errno(t, "Distance", e, api.OK)
	}
	l, is, e := line.Distances(s, 2)
	expect.List(t, "Distances", l, -3, -1, 0, 0)
	expect.Errno(t, "Distances", e, api.OK)
	if !slices.Equal(is, []bool{true, true, true, false}) {
		t.Errorf("Distances: %v", is)
	}
	l, is, e = line.Distances(api.System{N: 1}, 0)
	expect.List(t, "Distances of one point", l, 0)
	expect.Errno(t, "Distances of one point", e, api.OK)
	if !slices.Equal(is, []bool{true}) {
		t.Errorf("Distances of one point: %v", is)
	}
	least, _, _ := line.Distance(chain(128, -1000000), 0, 127)
	expect.Equal(t, "the least distance", least, -127000000)
	greatest, _, _ := line.Distance(chain(128, 1000000), 0, 127)
	expect.Equal(t, "the greatest distance", greatest, 127000000)
	back, _, _ := line.Distance(turned(chain(128, 3)), 127, 0)
	expect.Equal(t, "a long way back", back, 381)
}

// turned returns a system whose bounds lead the other way.
func turned(s api.System) api.System {
	out := api.System{N: s.N}
	for _, b := range s.Bounds {
		out.Bounds = append(out.Bounds, api.Bound{From: b.To, To: b.From, Most: b.Most, Record: b.Record})
	}
	return out
}

// A5, P1.9: distances are those that the test's own search finds, in whatever order the bounds are.
func TestDistancesAreLeast(t *testing.T) {
	eachConsistent(t, 3000, func(t *testing.T, r *rand.Rand, s api.System, d table) {
		other := api.System{N: s.N, Bounds: slices.Clone(s.Bounds)}
		r.Shuffle(len(s.Bounds), func(i, j int) { other.Bounds[i], other.Bounds[j] = other.Bounds[j], other.Bounds[i] })
		for a := range s.N {
			l, is, e := line.Distances(s, a)
			expect.Errno(t, "Distances", e, api.OK)
			again, same, _ := line.Distances(other, a)
			if len(l) != s.N || !slices.Equal(l, again) || !slices.Equal(is, same) {
				t.Errorf("Distances: %v %v, in another order %v %v", l, is, again, same)
			}
			for b := range s.N {
				expect.Equal(t, "Distances", cell{l[b], is[b]}, d[a][b])
				one, ok, e := line.Distance(s, a, b)
				expect.Equal(t, "Distance", cell{one, ok}, d[a][b])
				expect.Errno(t, "Distance", e, api.OK)
			}
		}
	})
}

// A6: which path is the first.
func TestPath(t *testing.T) {
	ways := api.System{N: 5, Bounds: []api.Bound{
		{From: 0, To: 1, Most: 1}, {From: 1, To: 3, Most: 1}, {From: 0, To: 2, Most: 1}, {From: 2, To: 3, Most: 1},
		{From: 1, To: 2}, {From: 2, To: 1}, {From: 0, To: 2, Most: 1}, {From: 0, To: 3, Most: 3}}}
	for _, x := range []struct {
		name string
		s    api.System
		a, b int
		want []int
		e    api.Errno
	}{
		{"the chapter's", chapter(), 0, 2, []int{0, 2}, api.OK},
		{"one bound", chapter(), 0, 1, []int{0}, api.OK},
		{"back", chapter(), 2, 0, []int{3, 1}, api.OK},
		{"no way", chapter(), 0, 3, nil, api.ErrNone},
		{"no way back", chapter(), 3, 0, nil, api.ErrNone},
		{"to itself", chapter(), 2, 2, nil, api.OK},
		{"to itself, alone", chapter(), 3, 3, nil, api.OK},
		{"to itself, with circles of 0", ways, 1, 1, nil, api.OK},
		{"of equal ones the least indices", ways, 0, 3, []int{0, 1}, api.OK},
		{"shorter before lesser indices", plus(ways, api.Bound{From: 0, To: 3, Most: 2}), 0, 3, []int{8}, api.OK},
		{"the first of two equal bounds", ways, 0, 2, []int{2}, api.OK},
		{"a lesser sum before a shorter path", plus(ways, api.Bound{From: 2, To: 3}), 0, 3, []int{2, 8}, api.OK},
		{"longer, for the distance", plus(ways, api.Bound{From: 3, To: 4}, api.Bound{From: 0, To: 4, Most: 3}), 0, 4, []int{0, 1, 8}, api.OK},
	} {
		l, e := line.Path(x.s, x.a, x.b)
		expect.List(t, x.name, l, x.want...)
		expect.Errno(t, x.name, e, x.e)
	}
	l, e := line.Path(chain(128, 1), 0, 127)
	expect.Equal(t, "a long path", len(l), 127)
	expect.Equal(t, "its end", l[126], 126)
	expect.Errno(t, "a long path", e, api.OK)
}

// A6, P1.2: Path is what a search through all paths finds first; CheckPath accepts it, and no path has a lesser sum.
func TestPathIsFirst(t *testing.T) {
	eachConsistent(t, 2000, func(t *testing.T, r *rand.Rand, s api.System, d table) {
		for a := range s.N {
			for b := range s.N {
				l, e := line.Path(s, a, b)
				if !d[a][b].is {
					expect.Errno(t, "Path", e, api.ErrNone)
					expect.List(t, "Path", l)
					continue
				}
				expect.Errno(t, "Path", e, api.OK)
				var want []int
				eachPath(s, a, b, func(l []int) {
					sum := sumOf(s, l)
					if a != b && sum == d[a][b].most && (want == nil || before(l, want)) {
						want = l
					}
					accepts(t, s, l, a, b, sum, true)
					accepts(t, s, l, a, b, sum-1, false)
					accepts(t, s, l, a, b, d[a][b].most-1, false)
				})
				expect.List(t, "Path", l, want...)
				accepts(t, s, l, a, b, d[a][b].most, true)
				accepts(t, s, l, a, b, d[a][b].most-1, false)
			}
		}
	})
}

// accepts fails unless CheckPath returns what it should.
func accepts(t *testing.T, s api.System, l []int, a, b, most int, want bool) {
	t.Helper()
	is, e := line.CheckPath(s, l, a, b, most)
	expect.Errno(t, "CheckPath", e, api.OK)
	if is != want {
		t.Errorf("CheckPath(%v, %d, %d, %d): %v", l, a, b, most, is)
	}
}

// A6: what CheckPath accepts.
func TestCheckPath(t *testing.T) {
	s := chapter()
	for _, x := range []struct {
		name       string
		l          []int
		a, b, most int
		want       bool
	}{
		{"the chapter's", []int{0, 2}, 0, 2, 8, true},
		{"one less", []int{0, 2}, 0, 2, 7, false},
		{"one more", []int{0, 2}, 0, 2, 9, true},
		{"far more", []int{0, 2}, 0, 2, math.MaxInt, true},
		{"far less", []int{0, 2}, 0, 2, math.MinInt, false},
		{"longer than the distance", []int{4}, 0, 2, 9, true},
		{"longer than the distance, one less", []int{4}, 0, 2, 8, false},
		{"bounds twice", []int{0, 1, 0, 1, 0, 2, 3, 2}, 0, 2, 16, true},
		{"bounds twice, one less", []int{0, 1, 0, 1, 0, 2, 3, 2}, 0, 2, 15, false},
		{"to itself", []int{0, 1}, 0, 0, 3, true},
		{"nothing", nil, 2, 2, 0, true},
		{"an empty list", []int{}, 3, 3, 0, true},
		{"nothing, for less than 0", nil, 2, 2, -1, false},
		{"nothing, to another point", nil, 1, 2, 9, false},
		{"another beginning", []int{2}, 0, 2, 9, false},
		{"another end", []int{0, 2}, 0, 1, 9, false},
		{"another end, without a way", []int{0, 2}, 0, 3, 99, false},
		{"a gap", []int{0, 3}, 0, 1, 99, false},
		{"backwards", []int{2, 0}, 0, 2, 99, false},
		{"beyond the last bound", []int{0, 5}, 0, 2, 99, false},
		{"before the first bound", []int{0, -1}, 0, 2, 99, false},
		{"far away", []int{math.MinInt}, 0, 2, 99, false},
	} {
		is, e := line.CheckPath(s, x.l, x.a, x.b, x.most)
		expect.Equal(t, x.name, is, x.want)
		expect.Errno(t, x.name, e, api.OK)
	}
	is, e := line.CheckPath(contradiction(), []int{0, 2, 5}, 0, 0, -1)
	expect.Equal(t, "of a contradiction", is, true)
	expect.Errno(t, "of a contradiction", e, api.OK)
}

// A6: 2000 bounds are a path, one or two more are none.
func TestCheckLongPath(t *testing.T) {
	s := api.System{N: 2, Bounds: []api.Bound{{From: 0, To: 1, Most: 1000000}, {From: 1, To: 0, Most: 1000000}}}
	way := slices.Repeat([]int{0, 1}, 1001)
	accepts(t, s, way[:2000], 0, 0, 2000000000, true)
	accepts(t, s, way[:2000], 0, 0, 1999999999, false)
	accepts(t, s, way[:1999], 0, 1, 1999000000, true)
	accepts(t, s, way[:2001], 0, 1, math.MaxInt, false)
	accepts(t, s, way[:2002], 0, 0, math.MaxInt, false)
}
