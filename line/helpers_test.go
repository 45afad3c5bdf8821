package line_test

import (
	"math/rand/v2"
	"slices"
	"testing"

	"merestone/api"
	"merestone/line"
)

// chapter is the system of the chapter's examples.
func chapter() api.System {
	return api.System{N: 4, Bounds: []api.Bound{{From: 0, To: 1, Most: 5, Record: 1}, {From: 1, To: 0, Most: -2, Record: 2}, {From: 1, To: 2, Most: 3, Record: 3}, {From: 2, To: 1, Most: -1, Record: 3}, {From: 0, To: 2, Most: 9, Record: 4}}}
}

// plus returns a system with more bounds behind its own.
func plus(s api.System, l ...api.Bound) api.System {
	return api.System{N: s.N, Bounds: slices.Concat(s.Bounds, l)}
}

// contradiction is the chapter's system with a negative circle.
func contradiction() api.System {
	return plus(chapter(), api.Bound{From: 2, To: 0, Most: -9, Record: 5})
}

// eachRandom runs a test on small systems, about half of them consistent; the numbers always come in the same order.
func eachRandom(t *testing.T, count int, test func(t *testing.T, r *rand.Rand, s api.System)) {
	t.Helper()
	r := rand.New(rand.NewPCG(3, 7))
	for range count {
		test(t, r, randomSystem(r))
		if t.Failed() {
			return
		}
	}
}

// eachConsistent runs a test on small consistent systems, with the distances that the test's own search finds.
func eachConsistent(t *testing.T, count int, test func(t *testing.T, r *rand.Rand, s api.System, d table)) {
	t.Helper()
	eachRandom(t, count, func(t *testing.T, r *rand.Rand, s api.System) {
		if d, is := measured(s); is {
			test(t, r, s, d)
		}
	})
}

// randomSystem returns a system of up to 6 points and 13 bounds.
func randomSystem(r *rand.Rand) api.System {
	s := api.System{N: 1 + r.IntN(6)}
	if s.N == 1 {
		return s
	}
	shift := r.IntN(5)
	for range r.IntN(14) {
		a := r.IntN(s.N)
		b := (a + 1 + r.IntN(s.N-1)) % s.N
		s.Bounds = append(s.Bounds, api.Bound{From: a, To: b, Most: r.IntN(9) - shift, Record: r.IntN(5)})
	}
	return s
}

// table is distances, by From and To.
type table [][]cell

// cell is a distance, if there is a path.
type cell struct {
	most int
	is   bool
}

// measured returns the distances of a system, and true, if no point is nearer to itself than 0.
func measured(s api.System) (table, bool) {
	d := make(table, s.N)
	for p := range d {
		d[p] = make([]cell, s.N)
		d[p][p] = cell{0, true}
	}
	for _, b := range s.Bounds {
		d[b.From][b.To] = lesser(d[b.From][b.To], cell{b.Most, true})
	}
	for m := range d {
		for a := range d {
			for b := range d {
				if d[a][m].is && d[m][b].is {
					d[a][b] = lesser(d[a][b], cell{d[a][m].most + d[m][b].most, true})
				}
			}
		}
	}
	for p := range d {
		if d[p][p].most < 0 {
			return nil, false
		}
	}
	return d, true
}

// lesser returns the lesser one of two distances.
func lesser(a, b cell) cell {
	if !a.is || b.is && b.most < a.most {
		return b
	}
	return a
}

// before orders lists by their length, then element by element.
func before(a, b []int) bool {
	if len(a) != len(b) {
		return len(a) < len(b)
	}
	return slices.Compare(a, b) < 0
}

// sumOf adds up the numbers of bounds.
func sumOf(s api.System, l []int) int {
	sum := 0
	for _, i := range l {
		sum += s.Bounds[i].Most
	}
	return sum
}

// eachPath calls a function with each path from a to b that is at no point but its last one twice.
func eachPath(s api.System, a, b int, found func(l []int)) {
	left := make([]bool, s.N)
	var walk func(at int, l []int)
	walk = func(at int, l []int) {
		if at == b && (a != b || len(l) > 0) {
			found(slices.Clone(l))
			return
		}
		left[at] = true
		for i, x := range s.Bounds {
			if x.From == at && (!left[x.To] || x.To == b) {
				walk(x.To, append(l, i))
			}
		}
		left[at] = false
	}
	walk(a, nil)
}

// firstNegative returns the first of the shortest negative circles, by going through all of them.
func firstNegative(s api.System) ([]int, bool) {
	var first []int
	for p := range s.N {
		eachPath(s, p, p, func(l []int) {
			if sumOf(s, l) < 0 && l[0] == slices.Min(l) && (first == nil || before(l, first)) {
				first = l
			}
		})
	}
	return first, first != nil
}

// tied returns a system in which some points have values.
func tied(s api.System, y map[int]int) api.System {
	var l []api.Bound
	for p, v := range y {
		if p == 0 && v != 0 {
			panic("the point 0 has the value 0")
		}
		if p != 0 {
			l = append(l, api.Bound{From: 0, To: p, Most: v}, api.Bound{From: p, To: 0, Most: -v})
		}
	}
	return plus(s, l...)
}

// can says whether a system has values with some that are given.
func can(s api.System, y map[int]int) bool {
	_, is := measured(tied(s, y))
	return is
}

// search returns values as Some says, number by number.
func search(s api.System) ([]int, bool) {
	d, is := measured(s)
	if !is {
		return nil, false
	}
	y := map[int]int{}
	for p := range s.N {
		if d[0][p].is {
			y[p] = d[0][p].most
		}
	}
	for p := range s.N {
		if _, is := y[p]; is {
			continue
		}
		y[p] = 0
		for !can(s, y) && y[p] < 200 {
			y[p]++
		}
		for !can(s, y) {
			if y[p] > 0 {
				y[p] = 0
			}
			y[p]--
		}
	}
	l := make([]int, s.N)
	for p, v := range y {
		l[p] = v
	}
	return l, true
}

// eachValues calls a function with all values from -most to most that keep a system.
func eachValues(s api.System, most int, found func(y []int)) {
	y := make([]int, s.N)
	var fill func(p int)
	fill = func(p int) {
		if p == s.N {
			if _, is, _ := line.Kept(s, y); is {
				found(slices.Clone(y))
			}
			return
		}
		for v := -most; v <= most; v++ {
			y[p] = v
			fill(p + 1)
		}
		y[p] = 0
	}
	fill(1)
}

// chain returns a system of n points, each at most most more than the one before.
func chain(n, most int) api.System {
	s := api.System{N: n}
	for p := 1; p < n; p++ {
		s.Bounds = append(s.Bounds, api.Bound{From: p - 1, To: p, Most: most, Record: p})
	}
	return s
}

// repeated returns a system of two points with some bounds that say the same.
func repeated(count int) api.System {
	return api.System{N: 2, Bounds: slices.Repeat([]api.Bound{{From: 0, To: 1, Most: 3, Record: 1}}, count)}
}
