package area_test

import (
	"math/rand/v2"
	"slices"
	"strconv"
	"testing"

	"merestone/api"
	"merestone/deed"
	"merestone/expect"
)

// example is the field of the chapter's examples: stations a, b and c, limits south (points 1 to 3) and north (4 to 6), and a parcel between them.
func example() api.Field {
	f, _ := deed.ParseField("station a 0\nstation b 10\nstation c 30\nlimit south\nlimit north\nparcel land south a c\n")
	return f
}

// bounded is the system of the chapter's examples: the south limit lies from 0 to 5, the north one 10 to 20 above it.
func bounded() api.System {
	s := api.System{N: 7}
	for i := 1; i <= 3; i++ {
		s.Bounds = append(s.Bounds, bound(0, i, 5, 1), bound(i, 0, 0, 1), bound(i, i+3, 20, 2), bound(i+3, i, -10, 2))
	}
	return s
}

// bound returns a bound.
func bound(from, to, most, record int) api.Bound {
	return api.Bound{From: from, To: to, Most: most, Record: record}
}

// plus returns a system with more bounds behind its own.
func plus(s api.System, l ...api.Bound) api.System {
	return api.System{N: s.N, Bounds: slices.Concat(s.Bounds, l)}
}

// contradiction is the chapter's system with a negative circle.
func contradiction() api.System { return plus(bounded(), bound(4, 1, -21, 9)) }

// with returns a list after a change of one item.
func with(l []int, i, x int) []int {
	l = slices.Clone(l)
	l[i] = x
	return l
}

// list returns a list with a number at one place, and 0 elsewhere.
func list(n, at, x int) []int { return with(make([]int, n), at, x) }

// sum adds up numbers.
func sum(l []int) int {
	total := 0
	for _, x := range l {
		total += x
	}
	return total
}

// negative returns the opposite numbers.
func negative(l []int) []int {
	m := make([]int, len(l))
	for i, x := range l {
		m[i] = -x
	}
	return m
}

// formOf returns the sum of values with weights, but that of the point 0.
func formOf(w, y []int) int {
	total := 0
	for p := 1; p < len(w); p++ {
		total += w[p] * y[p]
	}
	return total
}

// keeps says whether values keep a system.
func keeps(s api.System, y []int) bool {
	return y[0] == 0 && !slices.ContainsFunc(s.Bounds, func(b api.Bound) bool { return y[b.To]-y[b.From] > b.Most })
}

// brought returns what a flow brings to a point, less what it takes away.
func brought(s api.System, flow []int, p int) int {
	total := 0
	for i, b := range s.Bounds {
		if b.To == p {
			total += flow[i]
		}
		if b.From == p {
			total -= flow[i]
		}
	}
	return total
}

// costOf returns the cost of a flow.
func costOf(s api.System, flow []int) int {
	total := 0
	for i, b := range s.Bounds {
		total += b.Most * flow[i]
	}
	return total
}

// proved fails unless values keep a system, and a flow carries weights at the cost that is the form of the values.
func proved(t *testing.T, name string, s api.System, w []int, form int, y, flow []int) {
	t.Helper()
	expect.Equal(t, name+": as many values as points", len(y), s.N)
	expect.Equal(t, name+": as many amounts as bounds", len(flow), len(s.Bounds))
	if t.Failed() {
		return
	}
	expect.Equal(t, name+": values that keep the system", keeps(s, y), true)
	expect.Equal(t, name+": values in range", slices.Min(y) >= -400000000 && slices.Max(y) <= 400000000, true)
	expect.Equal(t, name+": the form", formOf(w, y), form)
	for p := 1; p < s.N; p++ {
		expect.Equal(t, name+": what the flow brings", brought(s, flow, p), w[p])
	}
	expect.Equal(t, name+": amounts in range", len(flow) == 0 || slices.Min(flow) >= 0 && slices.Max(flow) <= 1000000000, true)
	expect.Equal(t, name+": the cost", costOf(s, flow), form)
}

// consistent says whether a system has no point that is less than itself.
func consistent(s api.System) bool {
	const far = 1 << 40
	d := make([][]int, s.N)
	for p := range d {
		d[p] = slices.Repeat([]int{far}, s.N)
		d[p][p] = 0
	}
	for _, b := range s.Bounds {
		d[b.From][b.To] = min(d[b.From][b.To], b.Most)
	}
	for m := range d {
		for a := range d {
			for b := range d {
				d[a][b] = min(d[a][b], d[a][m]+d[m][b])
			}
		}
	}
	for p := range d {
		if d[p][p] < 0 {
			return false
		}
	}
	return true
}

// open says whether a form of a consistent system has no greatest value: whether some points can all rise, or all fall, without end, and it rises with them.
func open(s api.System, w []int) bool {
	for set := 2; set < 1<<s.N; set += 2 {
		in := func(p int) bool { return set>>p&1 == 1 }
		rises, falls, gain := true, true, 0
		for _, b := range s.Bounds {
			rises = rises && (in(b.From) || !in(b.To))
			falls = falls && (in(b.To) || !in(b.From))
		}
		for p := 1; p < s.N; p++ {
			if in(p) {
				gain += w[p]
			}
		}
		if rises && gain > 0 || falls && gain < 0 {
			return true
		}
	}
	return false
}

// eachValues calls a function with all values from -most to most that keep a system; it must not keep them.
func eachValues(s api.System, most int, found func(y []int)) {
	y := make([]int, s.N)
	var fill func(p int)
	fill = func(p int) {
		if p == s.N {
			if keeps(s, y) {
				found(y)
			}
			return
		}
		for y[p] = -most; y[p] <= most; y[p]++ {
			fill(p + 1)
		}
		y[p] = 0
	}
	fill(1)
}

// randomBound returns a bound between two of n points.
func randomBound(r *rand.Rand, n, low, high int) api.Bound {
	a := r.IntN(n)
	return bound(a, (a+1+r.IntN(n-1))%n, low+r.IntN(high-low+1), r.IntN(5))
}

// randomSystem returns a system of up to 4 points and 9 bounds.
func randomSystem(r *rand.Rand) api.System {
	s := api.System{N: 1 + r.IntN(4)}
	if s.N == 1 {
		return s
	}
	low := -r.IntN(4)
	for range r.IntN(10) {
		s.Bounds = append(s.Bounds, randomBound(r, s.N, low, 3))
	}
	return s
}

// randomWeights returns small weights.
func randomWeights(r *rand.Rand, n int) []int {
	w := make([]int, n)
	for p := range w {
		if r.IntN(3) > 0 {
			w[p] = r.IntN(9) - 4
		}
	}
	return w
}

// eachSystem runs a test with small systems and weights; the numbers always come in the same order.
func eachSystem(t *testing.T, count int, test func(r *rand.Rand, s api.System, w []int)) {
	t.Helper()
	r := rand.New(rand.NewPCG(5, 15))
	for range count {
		s := randomSystem(r)
		w := randomWeights(r, s.N)
		test(r, s, w)
		if t.Failed() {
			t.Logf("the system %v, the weights %v", s, w)
			return
		}
	}
}

// name returns a name with a number.
func name(s string, n int) string { return s + "-" + strconv.Itoa(n) }

// randomField returns a field of 2 to 4 stations and 2 to 4 limits, with parcels anywhere.
func randomField(r *rand.Rand) api.Field {
	var f api.Field
	x := r.IntN(5)
	for i := range 2 + r.IntN(3) {
		f.Stations = append(f.Stations, api.Station{Name: name("at", i), X: x})
		x += 1 + r.IntN(12)
	}
	for i := range 2 + r.IntN(3) {
		f.Limits = append(f.Limits, name("limit", i))
	}
	for south := range len(f.Limits) - 1 {
		for from := r.IntN(2); from < len(f.Stations)-1; {
			to := min(from+1+r.IntN(3), len(f.Stations)-1)
			f.Parcels = append(f.Parcels, api.Parcel{Name: name("land", len(f.Parcels)), South: south, From: from, To: to})
			from = to + r.IntN(2)
		}
	}
	r.Shuffle(len(f.Parcels), func(i, j int) { f.Parcels[i], f.Parcels[j] = f.Parcels[j], f.Parcels[i] })
	return f
}

// at returns the point of a corner.
func at(f api.Field, limit, station int) int { return 1 + limit*len(f.Stations) + station }

// points returns the number of points of a field.
func points(f api.Field) int { return at(f, len(f.Limits), 0) }

// randomDrawing returns values in which no limit crosses another one.
func randomDrawing(r *rand.Rand, f api.Field, most int) []int {
	y := make([]int, points(f))
	for station := range f.Stations {
		v := r.IntN(9)
		for limit := range f.Limits {
			y[at(f, limit, station)] = v
			if r.IntN(4) > 0 {
				v += r.IntN(most + 1)
			}
		}
	}
	return y
}

// around returns a system that a drawing keeps: most corners lie at most blur from where it has them, and some widths and steps are known.
func around(r *rand.Rand, f api.Field, y []int, blur int) api.System {
	s := api.System{N: len(y)}
	s.Bounds, _ = deed.Nature(f)
	for p := 1; p < s.N; p++ {
		if r.IntN(6) > 0 {
			s.Bounds = append(s.Bounds, bound(0, p, y[p]+r.IntN(blur+1), p), bound(p, 0, r.IntN(blur+1)-y[p], p))
		}
		if q := 1 + r.IntN(s.N-1); q != p {
			s.Bounds = append(s.Bounds, bound(q, p, y[p]-y[q]+r.IntN(blur+1), 100+p))
		}
	}
	return s
}

// eachField runs a test with small fields that have parcels, with a drawing, and with a system that the drawing keeps.
func eachField(t *testing.T, count int, test func(r *rand.Rand, f api.Field, s api.System, y []int)) {
	t.Helper()
	r := rand.New(rand.NewPCG(15, 5))
	for range count {
		f := randomField(r)
		if len(f.Parcels) == 0 {
			continue
		}
		y := randomDrawing(r, f, 6)
		s := around(r, f, y, 4)
		test(r, f, s, y)
		if t.Failed() {
			t.Logf("the field:\n%sthe drawing: %v\nthe bounds: %v", deed.PrintField(f), y, s.Bounds)
			return
		}
	}
}

// doubled returns the doubled area of a parcel: twice the trapezia between its stations, by their corners.
func doubled(f api.Field, p api.Parcel, y []int) int {
	total := 0
	for i := p.From; i < p.To; i++ {
		west, east := f.Stations[i].X, f.Stations[i+1].X
		corners := [][2]int{
			{west, y[at(f, p.South, i)]}, {east, y[at(f, p.South, i+1)]},
			{east, y[at(f, p.South+1, i+1)]}, {west, y[at(f, p.South+1, i)]},
		}
		for k, c := range corners {
			d := corners[(k+1)%4]
			total += c[0]*d[1] - d[0]*c[1]
		}
	}
	return total
}
