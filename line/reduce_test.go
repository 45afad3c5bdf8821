package line_test

import (
	"math/rand/v2"
	"slices"
	"testing"

	"merestone/api"
	"merestone/expect"
	"merestone/line"
)

// A11: which bounds are left out.
func TestNeedless(t *testing.T) {
	twins := []api.Bound{{From: 0, To: 1, Most: 3}, {From: 0, To: 1, Most: 3}, {From: 0, To: 1, Most: 3}}
	for _, x := range []struct {
		name string
		s    api.System
		want []int
	}{
		{"the chapter's", chapter(), []int{4}},
		{"one point", api.System{N: 1}, nil},
		{"none", chain(5, 2), nil},
		{"of equal ones all but the first", api.System{N: 2, Bounds: twins}, []int{1, 2}},
		{"a weaker one before", api.System{N: 2, Bounds: []api.Bound{{From: 0, To: 1, Most: 4}, {From: 0, To: 1, Most: 3}}}, []int{0}},
		{"just implied", plus(chain(4, 2), api.Bound{From: 0, To: 3, Most: 6}), []int{3}},
		{"not implied", plus(chain(4, 2), api.Bound{From: 0, To: 3, Most: 5}), nil},
		{"just implied, before", api.System{N: 3, Bounds: []api.Bound{{From: 0, To: 2, Most: 4}, {From: 0, To: 1, Most: 2}, {From: 1, To: 2, Most: 2}}}, []int{0}},
		{"of those that imply one another the last", api.System{N: 3, Bounds: []api.Bound{{From: 1, To: 2}, {From: 2, To: 1}, {From: 0, To: 1, Most: 3}, {From: 0, To: 2, Most: 3}}}, []int{3}},
		{"what implied one is left out later", api.System{N: 3, Bounds: []api.Bound{{From: 0, To: 1, Most: 1}, {From: 1, To: 2, Most: 1}, {From: 0, To: 1, Most: 2}, {From: 0, To: 2, Most: 9}}}, []int{2, 3}},
		{"a circle of 0", api.System{N: 2, Bounds: []api.Bound{{From: 0, To: 1, Most: 3}, {From: 1, To: 0, Most: -3}}}, nil},
	} {
		l, e := line.Needless(x.s)
		expect.List(t, x.name, l, x.want...)
		expect.Errno(t, x.name, e, api.OK)
	}
	l, e := line.Needless(repeated(2000))
	expect.Errno(t, "2000 equal bounds", e, api.OK)
	expect.Equal(t, "2000 equal bounds", len(l), 1999)
}

// A11, P1.6: without the needless bounds all distances stay; without one more some distance changes.
func TestNeedlessIsExact(t *testing.T) {
	eachConsistent(t, 2000, func(t *testing.T, r *rand.Rand, s api.System, d table) {
		l, e := line.Needless(s)
		expect.Errno(t, "Needless", e, api.OK)
		expect.List(t, "Needless", l, leftOut(s)...)
		kept := subset(s, func(i int) bool { return !slices.Contains(l, i) })
		same(t, "without the needless bounds", kept, d, true)
		for i := range kept.Bounds {
			same(t, "without one more", subset(kept, func(k int) bool { return k != i }), d, false)
		}
		if t.Failed() {
			t.Log(s)
		}
	})
}

// leftOut leaves out bounds from the last one to the first, as A11 says.
func leftOut(s api.System) []int {
	out := map[int]bool{}
	for i := len(s.Bounds) - 1; i >= 0; i-- {
		b := s.Bounds[i]
		out[i] = true
		d, _ := measured(subset(s, func(k int) bool { return !out[k] }))
		if c := d[b.From][b.To]; !c.is || c.most > b.Most {
			delete(out, i)
		}
	}
	var l []int
	for i := range s.Bounds {
		if out[i] {
			l = append(l, i)
		}
	}
	return l
}

// subset returns a system with some of its bounds.
func subset(s api.System, has func(i int) bool) api.System {
	out := api.System{N: s.N}
	for i, b := range s.Bounds {
		if has(i) {
			out.Bounds = append(out.Bounds, b)
		}
	}
	return out
}

// same fails unless the distances of a system are, or are not, d.
func same(t *testing.T, name string, s api.System, d table, want bool) {
	t.Helper()
	got, is := measured(s)
	expect.Equal(t, name, is && slices.EqualFunc(got, d, slices.Equal[[]cell]), want)
}

// A13: the closure, in its order.
func TestClose(t *testing.T) {
	c, e := line.Close(chapter())
	expect.Errno(t, "Close", e, api.OK)
	expect.Equal(t, "Close", c.N, 4)
	want := []api.Bound{{From: 0, To: 1, Most: 5}, {From: 0, To: 2, Most: 8}, {From: 1, To: 0, Most: -2}, {From: 1, To: 2, Most: 3}, {From: 2, To: 0, Most: -3}, {From: 2, To: 1, Most: -1}}
	if !slices.Equal(c.Bounds, want) {
		t.Errorf("Close: %v, want %v", c.Bounds, want)
	}
	c, e = line.Close(api.System{N: 128})
	if e != api.OK || c.N != 128 || len(c.Bounds) != 0 {
		t.Errorf("Close of no bounds: %v, error %d", c, e)
	}
}

// A13: how many bounds, and how great ones, a closure has at most.
func TestCloseLimits(t *testing.T) {
	for _, x := range []struct {
		name  string
		s     api.System
		e     api.Errno
		count int
	}{
		{"2000 bounds", star(28, 68), api.OK, 2000},
		{"2001 bounds", star(25, 76), api.ErrLimit, 0},
		{"45 points", ring(45), api.OK, 1980},
		{"46 points", ring(46), api.ErrLimit, 0},
		{"1000000", api.System{N: 3, Bounds: []api.Bound{{From: 0, To: 1, Most: 600000}, {From: 1, To: 2, Most: 400000}}}, api.OK, 3},
		{"1000001", api.System{N: 3, Bounds: []api.Bound{{From: 0, To: 1, Most: 600000}, {From: 1, To: 2, Most: 400001}}}, api.ErrLimit, 0},
		{"-1000000", api.System{N: 3, Bounds: []api.Bound{{From: 0, To: 1, Most: -600000}, {From: 1, To: 2, Most: -400000}}}, api.OK, 3},
		{"-1000001", api.System{N: 3, Bounds: []api.Bound{{From: 0, To: 1, Most: -600000}, {From: 1, To: 2, Most: -400001}}}, api.ErrLimit, 0},
	} {
		c, e := line.Close(x.s)
		expect.Errno(t, x.name, e, x.e)
		expect.Equal(t, x.name, len(c.Bounds), x.count)
	}
}

// star returns a system in which some points lead to one point, and this to others.
func star(in, out int) api.System {
	s := api.System{N: in + out + 1}
	for p := 1; p < s.N; p++ {
		b := api.Bound{From: p, To: 0, Most: 1}
		if p > in {
			b = api.Bound{From: 0, To: p, Most: 1}
		}
		s.Bounds = append(s.Bounds, b)
	}
	return s
}

// ring returns a system in which each point leads to each other one.
func ring(n int) api.System {
	return plus(chain(n, 1), api.Bound{From: n - 1, To: 0, Most: 1})
}

// A13, P1.7: the closure has the same distances, all of them, and is its own closure.
func TestCloseIsExact(t *testing.T) {
	eachConsistent(t, 2000, func(t *testing.T, r *rand.Rand, s api.System, d table) {
		c, e := line.Close(s)
		expect.Errno(t, "Close", e, api.OK)
		expect.Equal(t, "Close", c.N, s.N)
		var want []api.Bound
		for a := range d {
			for b, x := range d[a] {
				if a != b && x.is {
					want = append(want, api.Bound{From: a, To: b, Most: x.most})
				}
			}
		}
		if !slices.Equal(c.Bounds, want) {
			t.Errorf("Close(%v): %v, want %v", s, c.Bounds, want)
		}
		same(t, "the closure", c, d, true)
		again, e := line.Close(c)
		expect.Errno(t, "Close of the closure", e, api.OK)
		if !slices.Equal(again.Bounds, c.Bounds) {
			t.Errorf("Close of the closure: %v, want %v", again.Bounds, c.Bounds)
		}
	})
}

// P1.9: more bounds narrow all ranges, or leave them; a contradiction stays one.
func TestMoreBounds(t *testing.T) {
	eachRandom(t, 3000, func(t *testing.T, r *rand.Rand, s api.System) {
		more := randomSystem(r)
		more.N = s.N
		more = subset(more, func(i int) bool { return more.Bounds[i].From < s.N && more.Bounds[i].To < s.N })
		j, e := line.Join(s, more)
		expect.Errno(t, "Join", e, api.OK)
		before, _ := line.Consistent(s)
		after, _ := line.Consistent(j)
		if after && !before {
			t.Errorf("%v: more bounds take away a contradiction", s)
		}
		if !after {
			return
		}
		for a := range s.N {
			for b := range s.N {
				x, _ := line.Between(s, a, b)
				y, _ := line.Between(j, a, b)
				if x.Highest && (!y.Highest || y.High > x.High) || x.Lowest && (!y.Lowest || y.Low < x.Low) {
					t.Errorf("%v: more bounds change the range from %v to %v", s, x, y)
				}
			}
		}
	})
}
