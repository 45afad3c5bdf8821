package plan_test

import (
	"math/rand/v2"
	"slices"
	"testing"

	"merestone/api"
	"merestone/expect"
)

// ground is the system of the chapter's examples: three points from 0 to 10, of which the second lies 5 above the first.
func ground() api.System {
	s := api.System{N: 4}
	for p := 1; p <= 3; p++ {
		s.Bounds = append(s.Bounds, bound(0, p, 10, 1), bound(p, 0, 0, 1))
	}
	return plus(s, bound(1, 2, 5, 2), bound(2, 1, -5, 2))
}

// offered is the measures of the chapter's examples.
func offered() []api.Measure {
	return []api.Measure{{A: 0, B: 1, Cost: 7}, {A: 0, B: 3, Cost: 4}, {A: 3, B: 2, Cost: 2}, {A: 1, B: 3, Cost: 9}}
}

// read is the readings of the chapter's examples, of 3 points.
func read() []api.Reading {
	return []api.Reading{{From: 0, To: 1, Size: 100, Slack: 1, Weight: 1}, {From: 1, To: 2, Size: 50, Slack: 1, Weight: 1}, {From: 0, To: 2, Size: 156, Slack: 1, Weight: 2}}
}

// bound returns a bound.
func bound(from, to, most, record int) api.Bound {
	return api.Bound{From: from, To: to, Most: most, Record: record}
}

// plus returns a system with more bounds behind its own.
func plus(s api.System, l ...api.Bound) api.System {
	return api.System{N: s.N, Bounds: slices.Concat(s.Bounds, l)}
}

// contradiction is the chapter's system with a negative circle.
func contradiction() api.System { return plus(ground(), bound(0, 3, -1, 3)) }

// with returns a list after a change of one item.
func with[T any](l []T, i int, x T) []T {
	l = slices.Clone(l)
	l[i] = x
	return l
}

// lists fails unless the lists of a result are what they should be.
func lists(t *testing.T, name string, got [][]int, want ...[]int) {
	t.Helper()
	if !slices.EqualFunc(got, want, slices.Equal) {
		t.Errorf("%s: %v, want %v", name, got, want)
	}
}

// far stands for a distance where there is no path.
const far = 1 << 40

// distances returns the distances of a system, and whether it is consistent.
func distances(s api.System) ([][]int, bool) {
	d := make([][]int, s.N)
	for p := range d {
		d[p] = slices.Repeat([]int{far}, s.N)
		d[p][p] = 0
	}
	for _, b := range s.Bounds {
		d[b.From][b.To] = min(d[b.From][b.To], b.Most)
	}
	for m := range d {
		for a := range d {
			for b := range d {
				if d[a][m] < far && d[m][b] < far {
					d[a][b] = min(d[a][b], d[a][m]+d[m][b])
				}
			}
		}
	}
	for p := range d {
		if d[p][p] < 0 {
			return d, false
		}
	}
	return d, true
}

// joins returns the classes of n points in which pairs of points are joined, by flooding.
func joins(n int, together func(a, b int) bool) [][]int {
	var classes [][]int
	placed := make([]bool, n)
	for p := range n {
		if placed[p] {
			continue
		}
		class := []int{p}
		placed[p] = true
		for i := 0; i < len(class); i++ {
			for q := range n {
				if !placed[q] && together(class[i], q) {
					class = append(class, q)
					placed[q] = true
				}
			}
		}
		slices.Sort(class)
		classes = append(classes, class)
	}
	return classes
}

// classesOf returns the classes of points that a set ties to one another.
func classesOf(s api.System, l []api.Measure, set []int) [][]int {
	d, _ := distances(s)
	return joins(s.N, func(a, b int) bool {
		return d[a][b] < far && d[a][b] == -d[b][a] || slices.ContainsFunc(set, func(i int) bool {
			return l[i].A == a && l[i].B == b || l[i].A == b && l[i].B == a
		})
	})
}

// tiesAll says whether a set ties points.
func tiesAll(s api.System, l []api.Measure, set []int, points ...int) bool {
	first := classesOf(s, l, set)[0]
	return !slices.ContainsFunc(points, func(p int) bool { return !slices.Contains(first, p) })
}

// costOf returns the cost of a set.
func costOf(l []api.Measure, set []int) int {
	cost := 0
	for _, i := range set {
		cost += l[i].Cost
	}
	return cost
}

// setsOf returns all sets of n measures.
func setsOf(n int) [][]int {
	var sets [][]int
	for bits := range 1 << n {
		var set []int
		for i := range n {
			if bits>>i&1 == 1 {
				set = append(set, i)
			}
		}
		sets = append(sets, set)
	}
	return sets
}

// least returns the least cost of a set that ties points; -1 if none does.
func least(s api.System, l []api.Measure, points ...int) int {
	best := -1
	for _, set := range setsOf(len(l)) {
		if cost := costOf(l, set); (best < 0 || cost < best) && tiesAll(s, l, set, points...) {
			best = cost
		}
	}
	return best
}

// keeps says whether values keep a system that is enlarged.
func keeps(s api.System, times int, y []int) bool {
	return y[0] == 0 && !slices.ContainsFunc(s.Bounds, func(b api.Bound) bool { return y[b.To]-y[b.From] > times*b.Most })
}

// randomSystem returns a system of up to 6 points, and values that keep it; some of its points are rigid.
func randomSystem(r *rand.Rand) (api.System, []int) {
	s := api.System{N: 1 + r.IntN(6)}
	y := make([]int, s.N)
	for p := 1; p < s.N; p++ {
		y[p] = r.IntN(11) - 5
	}
	if s.N == 1 {
		return s, y
	}
	blur := 1 + r.IntN(5)
	for range r.IntN(3 * s.N) {
		a := r.IntN(s.N)
		b := (a + 1 + r.IntN(s.N-1)) % s.N
		s.Bounds = append(s.Bounds, bound(a, b, y[b]-y[a]+r.IntN(blur), r.IntN(4)))
		if r.IntN(3) == 0 {
			s.Bounds = append(s.Bounds, bound(b, a, y[a]-y[b]+r.IntN(blur), r.IntN(4)))
		}
	}
	return s, y
}

// randomMeasures returns up to 7 measures of n points, some of them of the same points, or for nothing.
func randomMeasures(r *rand.Rand, n int) []api.Measure {
	var l []api.Measure
	if n == 1 {
		return l
	}
	for range r.IntN(8) {
		a := r.IntN(n)
		l = append(l, api.Measure{A: a, B: (a + 1 + r.IntN(n-1)) % n, Cost: r.IntN(7)})
	}
	return l
}

// randomSet returns some set of n measures.
func randomSet(r *rand.Rand, n int) []int {
	var set []int
	for i := range n {
		if r.IntN(2) == 0 {
			set = append(set, i)
		}
	}
	return set
}

// eachGround runs a test with small systems, values that keep them, and measures; the numbers always come in the same order.
func eachGround(t *testing.T, count int, test func(r *rand.Rand, s api.System, y []int, l []api.Measure)) {
	t.Helper()
	r := rand.New(rand.NewPCG(6, 19))
	for range count {
		s, y := randomSystem(r)
		l := randomMeasures(r, s.N)
		test(r, s, y, l)
		if t.Failed() {
			t.Logf("the system %v, the measures %v", s, l)
			return
		}
	}
}

// randomReadings returns up to 7 readings of n points, near those of some values.
func randomReadings(r *rand.Rand, n int) []api.Reading {
	var l []api.Reading
	y := make([]int, n)
	for p := range y {
		y[p] = r.IntN(21) - 10
	}
	if n == 1 {
		return l
	}
	blur := r.IntN(4)
	for range r.IntN(8) {
		a := r.IntN(n)
		b := (a + 1 + r.IntN(n-1)) % n
		size := y[b] - y[a] + r.IntN(2*blur+1) - blur
		if r.IntN(8) == 0 {
			size += 20
		}
		l = append(l, api.Reading{From: a, To: b, Size: size, Slack: r.IntN(3), Weight: 1 + r.IntN(3)})
	}
	return l
}

// eachReadings runs a test with small lists of readings.
func eachReadings(t *testing.T, count int, test func(r *rand.Rand, n int, l []api.Reading)) {
	t.Helper()
	r := rand.New(rand.NewPCG(19, 6))
	for range count {
		n := 1 + r.IntN(4)
		l := randomReadings(r, n)
		test(r, n, l)
		if t.Failed() {
			t.Logf("%d points, the readings %v", n, l)
			return
		}
	}
}

// systemOf returns what readings say, as bounds.
func systemOf(n int, l []api.Reading) api.System {
	s := api.System{N: n}
	for k, r := range l {
		s.Bounds = append(s.Bounds, bound(r.From, r.To, r.Size+r.Slack, k+1), bound(r.To, r.From, r.Slack-r.Size, k+1))
	}
	return s
}

// agree says whether readings agree.
func agree(n int, l []api.Reading) bool {
	_, is := distances(systemOf(n, l))
	return is
}

// shuffled returns readings in another order, some of them turned around.
func shuffled(r *rand.Rand, l []api.Reading) []api.Reading {
	l = slices.Clone(l)
	r.Shuffle(len(l), func(i, j int) { l[i], l[j] = l[j], l[i] })
	for i, x := range l {
		if r.IntN(2) == 0 {
			l[i] = api.Reading{From: x.To, To: x.From, Size: -x.Size, Slack: x.Slack, Weight: x.Weight}
		}
	}
	return l
}

// enough fails unless a kind of case occurred often enough for a test to mean something.
func enough(t *testing.T, name string, count, least int) {
	t.Helper()
	expect.Equal(t, name+" occurred often enough", count >= least, true)
}
