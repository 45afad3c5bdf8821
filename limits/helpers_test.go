package limits_test

import (
	"math"
	"math/rand/v2"
	"slices"
	"strconv"
	"testing"

	"merestone/api"
	"merestone/deed"
	"merestone/expect"
	"merestone/limits"
)

// exampleSource is the source of the field of the chapter's examples, with a declination.
const exampleSource = `station ash 0
station oak 1000
station elm 2000
limit dyke
limit burn
parcel croft dyke ash elm
variation 1700 0
`

// example is the field of the chapter's examples; its limits are 0 and 1, and its points 1 to 6.
func example() api.Field {
	f, _ := deed.ParseField(exampleSource)
	return f
}

// The corners of the example.
func dyke(station int) api.Corner { return api.Corner{Limit: 0, Station: station} }
func burn(station int) api.Corner { return api.Corner{Limit: 1, Station: station} }

// record returns a record of a call, by a deed of its course's year.
func record(id int, c api.Call) api.Record {
	return api.Record{Id: id, Day: 10, Deed: "grant", Year: max(c.Course.Year, 1), Rank: 5, Call: c}
}

// read returns records of the lines of calls, with the Ids from 1 on.
func read(f api.Field, lines ...string) []api.Record {
	var l []api.Record
	for i, text := range lines {
		c, e := deed.ReadCall(f, text, 1750)
		if e != api.OK {
			panic("no right call: " + text)
		}
		l = append(l, record(i+1, c))
	}
	return l
}

// examples returns the records of the chapter's examples, and more behind them.
func examples(lines ...string) []api.Record {
	return read(example(), append([]string{"stone dyke ash 200 10", "level dyke ash oak 50 5", "width dyke burn oak 300 0"}, lines...)...)
}

// with returns records after a change of one of them.
func with(l []api.Record, i int, change func(r *api.Record)) []api.Record {
	l = slices.Clone(l)
	change(&l[i])
	return l
}

// chosen returns the records with some Ids.
func chosen(l []api.Record, ids []int) []api.Record {
	return slices.DeleteFunc(slices.Clone(l), func(r api.Record) bool { return !slices.Contains(ids, r.Id) })
}

// others returns the records but the one with an Id.
func others(l []api.Record, id int) []api.Record {
	return slices.DeleteFunc(slices.Clone(l), func(r api.Record) bool { return r.Id == id })
}

// idsOf returns the Ids of records.
func idsOf(l []api.Record) []int {
	var ids []int
	for _, r := range l {
		ids = append(ids, r.Id)
	}
	return ids
}

// corners returns all corners of a field, in the order of their points.
func corners(f api.Field) []api.Corner {
	var l []api.Corner
	for limit := range f.Limits {
		for station := range f.Stations {
			l = append(l, api.Corner{Limit: limit, Station: station})
		}
	}
	return l
}

// at returns the point of a corner.
func at(f api.Field, limit, station int) int { return 1 + limit*len(f.Stations) + station }

// name returns a name with a number.
func name(s string, n int) string { return s + "-" + strconv.Itoa(n) }

// fieldOf returns a field with some stations and limits, 30 links from one station to the next, and no parcels.
func fieldOf(stations, limits int) api.Field {
	f := api.Field{Variations: []api.Variation{{Year: 1, East: 0}}}
	for i := range stations {
		f.Stations = append(f.Stations, api.Station{Name: name("at", i), X: 30 * i})
	}
	for i := range limits {
		f.Limits = append(f.Limits, name("limit", i))
	}
	return f
}

// withParcels returns a field with parcels anywhere.
func withParcels(r *rand.Rand, f api.Field) api.Field {
	for south := range len(f.Limits) - 1 {
		for from := r.IntN(2); from < len(f.Stations)-1; {
			to := min(from+1+r.IntN(2), len(f.Stations)-1)
			f.Parcels = append(f.Parcels, api.Parcel{Name: name("land", len(f.Parcels)), South: south, From: from, To: to})
			from = to + r.IntN(2)
		}
	}
	r.Shuffle(len(f.Parcels), func(i, j int) { f.Parcels[i], f.Parcels[j] = f.Parcels[j], f.Parcels[i] })
	return f
}

// truth returns a drawing that nature allows, in which neighbours often meet.
func truth(r *rand.Rand, f api.Field, most int) []int {
	y := make([]int, at(f, len(f.Limits), 0))
	for station := range f.Stations {
		column := make([]int, len(f.Limits))
		for i := range column {
			column[i] = r.IntN(most + 1)
			if i > 0 && r.IntN(4) == 0 {
				column[i] = column[i-1]
			}
		}
		slices.Sort(column)
		for limit, v := range column {
			y[at(f, limit, station)] = v
		}
	}
	return y
}

// callOf returns a call that has the form of its kind, and is often what a drawing shows, give or take a little.
func callOf(r *rand.Rand, f api.Field, y []int) api.Call {
	stations, count := len(f.Stations), len(f.Limits)
	c := api.Call{Kind: uint8(1 + r.IntN(5)), Limit: r.IntN(count), From: r.IntN(stations)}
	if c.Kind == api.CallWidth || c.Kind == api.CallAlong {
		c.Limit = r.IntN(max(1, count-1))
		c.Other = c.Limit + 1 + r.IntN(max(1, count-1-c.Limit))
	}
	switch c.Kind {
	case api.CallAlong:
		c.From = r.IntN(stations - 1)
		c.To = c.From + 1 + r.IntN(stations-1-c.From)
		return c
	case api.CallCourse, api.CallLevel:
		c.To = (c.From + 1 + r.IntN(stations-1)) % stations
	}
	here := y[at(f, c.Limit, c.From)]
	blur := r.IntN(3) - 1
	if r.IntN(6) == 0 {
		blur *= 8
	}
	switch c.Kind {
	case api.CallStone:
		c.Size, c.Error = max(0, here+blur), r.IntN(4)
	case api.CallWidth:
		c.Size, c.Error = max(0, y[at(f, min(c.Other, count-1), c.From)]-here+blur), r.IntN(4)
	case api.CallLevel:
		c.Size, c.Error = y[at(f, c.Limit, c.To)]-here+blur, r.IntN(4)
	case api.CallCourse:
		c.Course = towards(r, f.Stations[c.To].X-f.Stations[c.From].X, y[at(f, c.Limit, c.To)]-here+blur)
	}
	return c
}

// towards returns a course that roughly means a step, where no needle turns it.
func towards(r *rand.Rand, dx, dy int) api.Course {
	bearing := int(math.Round(math.Atan2(float64(dx), float64(dy)) * 180 / math.Pi))
	return api.Course{
		Bearing: (bearing + 360) % 360, Needle: 2 + r.IntN(5), Links: max(1, int(math.Hypot(float64(dx), float64(dy)))),
		Year: 1750, Chain: api.Chain{Slack: 100 + r.IntN(101)},
	}
}

// recordOf returns a right record of what callOf says.
func recordOf(r *rand.Rand, f api.Field, y []int, id int) api.Record {
	for {
		if c := callOf(r, f, y); deed.CheckCall(f, c) == api.OK && (c.Kind != api.CallAlong || r.IntN(3) == 0) {
			return record(id, c)
		}
	}
}

// eachField runs a test with small fields and records, of which about two thirds agree; the numbers always come in the same order.
// The field has up to 4 stations and 4 limits.
func eachField(t *testing.T, count int, test func(r *rand.Rand, f api.Field, l []api.Record)) {
	t.Helper()
	r := rand.New(rand.NewPCG(4, 12))
	for range count {
		f := withParcels(r, fieldOf(2+r.IntN(3), 1+r.IntN(4)))
		y := truth(r, f, 12)
		var l []api.Record
		id := 0
		for range r.IntN(9) {
			id += 1 + r.IntN(3)
			l = append(l, recordOf(r, f, y, id))
		}
		test(r, f, l)
		if t.Failed() {
			logAll(t, f, l)
			return
		}
	}
}

// logAll shows a field and records.
func logAll(t *testing.T, f api.Field, l []api.Record) {
	t.Helper()
	t.Logf("the field:\n%s", deed.PrintField(f))
	for _, r := range l {
		text, _ := deed.WriteCall(f, r.Call)
		t.Logf("%d: %s", r.Id, text)
	}
}

// scene is a field with records, of which stones leave each corner few offsets, and all drawings that they allow.
type scene struct {
	f   api.Field
	l   []api.Record
	all [][]int
}

// eachScene runs a test with small fields whose drawings can be counted; in about a quarter there is none.
func eachScene(t *testing.T, count int, test func(r *rand.Rand, s scene)) {
	t.Helper()
	r := rand.New(rand.NewPCG(9, 44))
	for range count {
		s := randomScene(r)
		test(r, s)
		if t.Failed() {
			logAll(t, s.f, s.l)
			t.Logf("%d drawings", len(s.all))
			return
		}
	}
}

// eachAgreed is eachScene with those in which there is a drawing.
func eachAgreed(t *testing.T, count int, test func(r *rand.Rand, s scene)) {
	t.Helper()
	eachScene(t, count, func(r *rand.Rand, s scene) {
		if len(s.all) > 0 {
			test(r, s)
		}
	})
}

// randomScene returns a scene of 2 to 6 corners.
func randomScene(r *rand.Rand) scene {
	sizes := [][3]int{{2, 1, 3}, {2, 2, 2}, {3, 2, 1}, {2, 3, 1}, {3, 1, 2}}
	size := sizes[r.IntN(len(sizes))]
	f := withParcels(r, fieldOf(size[0], size[1]))
	y := truth(r, f, 9)
	var l []api.Record
	for _, c := range corners(f) {
		l = append(l, record(len(l)+1, api.Call{Kind: api.CallStone, Limit: c.Limit, From: c.Station, Size: y[at(f, c.Limit, c.Station)], Error: size[2]}))
	}
	for range r.IntN(5) {
		l = append(l, recordOf(r, f, y, len(l)+1))
	}
	return scene{f, l, drawings(f, l, y, size[2])}
}

// drawings returns all drawings that records allow, where these leave no corner further than most from where a drawing y has it.
func drawings(f api.Field, l []api.Record, y []int, most int) [][]int {
	var all [][]int
	next := make([]int, len(y))
	var fill func(p int)
	fill = func(p int) {
		if p == len(y) {
			if allAllow(f, l, next) {
				all = append(all, slices.Clone(next))
			}
			return
		}
		for next[p] = y[p] - most; next[p] <= y[p]+most; next[p]++ {
			fill(p + 1)
		}
	}
	fill(1)
	return all
}

// allAllow says whether nature and all records allow a drawing.
func allAllow(f api.Field, l []api.Record, y []int) bool {
	for p := 1; p < len(y); p++ {
		if y[p] < 0 || p > len(f.Stations) && y[p] < y[p-len(f.Stations)] {
			return false
		}
	}
	return !slices.ContainsFunc(l, func(r api.Record) bool {
		is, _ := deed.Allows(f, r.Call, y)
		return !is
	})
}

// bounded returns the nature of a field and the bounds of records.
func bounded(f api.Field, l []api.Record) api.System {
	s := api.System{N: 1 + len(f.Limits)*len(f.Stations)}
	s.Bounds, _ = deed.Nature(f)
	for _, r := range l {
		b, _ := deed.Bounds(f, r.Call, r.Id)
		s.Bounds = append(s.Bounds, b...)
	}
	return s
}

// distances returns how much greater the value of each point can be than that of each other one, and whether there is a drawing.
func distances(f api.Field, l []api.Record) ([][]int, bool) {
	s := bounded(f, l)
	const far = 1 << 40
	d := make([][]int, s.N)
	for p := range d {
		d[p] = slices.Repeat([]int{far}, s.N)
		d[p][p] = 0
	}
	for _, b := range s.Bounds {
		d[b.From][b.To] = min(d[b.From][b.To], b.Most)
	}
	for m := range d {
		for a := range d {
			for b := range d {
				d[a][b] = min(d[a][b], d[a][m]+d[m][b])
			}
		}
	}
	for p := range d {
		if d[p][p] < 0 {
			return nil, false
		}
	}
	return d, true
}

// agree says whether there is a drawing.
func agree(f api.Field, l []api.Record) bool {
	_, is := distances(f, l)
	return is
}

// values returns the values of a point in drawings.
func values(all [][]int, p int) []int {
	var l []int
	for _, y := range all {
		l = append(l, y[p])
	}
	return l
}

// isOneOf says whether a drawing is one of some.
func isOneOf(all [][]int, y []int) bool {
	return slices.ContainsFunc(all, func(x []int) bool { return slices.Equal(x, y) })
}

// region is Region, which has no error.
func region(t *testing.T, f api.Field, l []api.Record, c api.Corner) [2]int {
	t.Helper()
	low, high, e := limits.Region(f, l, c)
	expect.Errno(t, "Region", e, api.OK)
	return [2]int{low, high}
}
