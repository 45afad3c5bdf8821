package deed_test

import (
	"math"
	"math/rand/v2"
	"slices"
	"strconv"
	"strings"
	"testing"

	"merestone/api"
	"merestone/course"
	"merestone/deed"
	"merestone/expect"
)

// exampleSource is the source of the field of the chapter's examples.
const exampleSource = `station ash 0
station oak 866
limit wall
limit hedge
parcel home wall ash oak
variation 1700 10
`

// example is the field of the chapter's examples.
func example() api.Field {
	return api.Field{
		Stations:   []api.Station{{Name: "ash"}, {Name: "oak", X: 866}},
		Limits:     []string{"wall", "hedge"},
		Parcels:    []api.Parcel{{Name: "home", From: 0, To: 1}},
		Variations: []api.Variation{{Year: 1700, East: 10}},
	}
}

// rich is a field with several of everything.
func rich() api.Field {
	return api.Field{
		Stations: []api.Station{{Name: "ash", X: 100}, {Name: "oak", X: 966}, {Name: "elm", X: 2000}, {Name: "yew", X: 5000}},
		Limits:   []string{"wall", "hedge", "burn", "dyke"},
		Parcels: []api.Parcel{
			{Name: "home", South: 0, From: 0, To: 1}, {Name: "croft", South: 0, From: 1, To: 3}, {Name: "mead", South: 2, From: 0, To: 2},
			{Name: "glebe", South: 1, From: 1, To: 2}, {Name: "toft", South: 1, From: 2, To: 3},
		},
		Variations: []api.Variation{{Year: 1700, East: 10}, {Year: 1800, East: -12}},
	}
}

// label returns a name with a number.
func label(name string, n int) string { return name + "-" + strconv.Itoa(n) }

// greatest is a field with as many of everything as there may be.
func greatest() api.Field {
	var f api.Field
	for i := range 12 {
		f.Stations = append(f.Stations, api.Station{Name: label("at", i), X: 100000 - 9000*(11-i)})
	}
	f.Stations[0].X = 0
	for i := range 10 {
		f.Limits = append(f.Limits, label("limit", i))
	}
	for i := range 40 {
		f.Parcels = append(f.Parcels, api.Parcel{Name: label("land", i), South: i % 9, From: i / 9, To: i/9 + 1})
	}
	for i := range 40 {
		f.Variations = append(f.Variations, api.Variation{Year: 1 + 76*i, East: i - 60})
	}
	return f
}

// changed returns a field after a change.
func changed(f api.Field, change func(f *api.Field)) api.Field {
	change(&f)
	return f
}

// The calls of the examples, and one of each kind, in the example's field and in the rich one.
func stone() api.Call {
	return api.Call{Kind: api.CallStone, Limit: 0, From: 1, Size: 250, Error: 2}
}
func width() api.Call {
	return api.Call{Kind: api.CallWidth, Limit: 0, Other: 1, From: 0, Size: 100, Error: 3}
}
func bearing() api.Call {
	return api.Call{Kind: api.CallCourse, Limit: 0, From: 0, To: 1, Course: api.Course{Bearing: 50, Needle: 2, Links: 1000, Year: 1750, Chain: api.Chain{Slack: 100}}}
}
func along() api.Call {
	return api.Call{Kind: api.CallAlong, Limit: 0, Other: 1, From: 0, To: 1}
}
func level() api.Call {
	return api.Call{Kind: api.CallLevel, Limit: 0, From: 0, To: 1, Size: 5, Error: 5}
}

// allKinds returns a call of each kind.
func allKinds() []api.Call { return []api.Call{stone(), width(), bearing(), along(), level()} }

// with returns a call after a change.
func with(c api.Call, change func(c *api.Call)) api.Call {
	change(&c)
	return c
}

// randomField returns a valid field.
func randomField(r *rand.Rand) api.Field {
	var f api.Field
	x := r.IntN(3)
	for i := range 2 + r.IntN(11) {
		f.Stations = append(f.Stations, api.Station{Name: label("at", i), X: x})
		x += 1 + r.IntN(8000)
	}
	for i := range 1 + r.IntN(10) {
		f.Limits = append(f.Limits, label("limit", i))
	}
	for south := range len(f.Limits) - 1 {
		for from := r.IntN(3); from < len(f.Stations)-1 && len(f.Parcels) < 40; {
			to := min(from+1+r.IntN(4), len(f.Stations)-1)
			f.Parcels = append(f.Parcels, api.Parcel{Name: label("land", len(f.Parcels)), South: south, From: from, To: to})
			from = to + r.IntN(2)
		}
	}
	r.Shuffle(len(f.Parcels), func(i, j int) { f.Parcels[i], f.Parcels[j] = f.Parcels[j], f.Parcels[i] })
	for i := range r.IntN(5) {
		f.Variations = append(f.Variations, api.Variation{Year: 1 + 700*i + r.IntN(500), East: r.IntN(121) - 60})
	}
	return f
}

// randomDrawing returns a drawing that nature allows, with offsets up to most.
func randomDrawing(r *rand.Rand, f api.Field, most int) []int {
	n := len(f.Stations)
	y := make([]int, 1+n*len(f.Limits))
	for station := range n {
		var column []int
		for range f.Limits {
			column = append(column, r.IntN(most+1))
		}
		slices.Sort(column)
		for limit, v := range column {
			y[1+limit*n+station] = v
		}
	}
	return y
}

// randomCall returns a call that has the form of its kind, and whose course points roughly to where it leads.
func randomCall(r *rand.Rand, f api.Field) api.Call {
	limits, stations := len(f.Limits), len(f.Stations)
	c := api.Call{Kind: uint8(1 + r.IntN(5)), Limit: r.IntN(limits), From: r.IntN(stations)}
	switch c.Kind {
	case api.CallWidth, api.CallAlong:
		c.Limit = r.IntN(max(1, limits-1))
		c.Other = c.Limit + 1 + r.IntN(max(1, limits-1-c.Limit))
	}
	switch c.Kind {
	case api.CallAlong:
		c.From = r.IntN(stations - 1)
		c.To = c.From + 1 + r.IntN(stations-1-c.From)
	case api.CallCourse, api.CallLevel:
		c.To = (c.From + 1 + r.IntN(stations-1)) % stations
	}
	switch c.Kind {
	case api.CallStone, api.CallWidth:
		c.Size, c.Error = r.IntN(300), r.IntN(100)
	case api.CallLevel:
		c.Size, c.Error = r.IntN(601)-300, r.IntN(100)
	case api.CallCourse:
		c.Course = towards(r, f.Stations[c.To].X-f.Stations[c.From].X, r.IntN(601)-300)
	}
	return c
}

// towards returns a course that roughly means a step where no needle turns it.
func towards(r *rand.Rand, dx, dy int) api.Course {
	bearing := int(math.Round(math.Atan2(float64(dx), float64(dy)) * 180 / math.Pi))
	return api.Course{
		Bearing: (bearing + 360) % 360, Needle: 1 + r.IntN(20), Year: 1 + r.IntN(3000),
		Links: max(1, min(100000, int(math.Hypot(float64(dx), float64(dy))))), Chain: api.Chain{Wear: r.IntN(3) - 1, Slack: r.IntN(201)},
	}
}

// rightCall returns a right call.
func rightCall(r *rand.Rand, f api.Field) api.Call {
	for {
		if c := randomCall(r, f); deed.CheckCall(f, c) == api.OK {
			return c
		}
	}
}

// difference says whether two numbers differ by some size, give or take an error.
func difference(high, low, size, err int) bool {
	d := high - low - size
	return -err <= d && d <= err
}

// allowed says whether a call allows a drawing, as the table of calls says it.
func allowed(f api.Field, c api.Call, y []int) bool {
	at := func(limit, station int) int { return y[1+limit*len(f.Stations)+station] }
	switch c.Kind {
	case api.CallStone:
		return difference(at(c.Limit, c.From), 0, c.Size, c.Error)
	case api.CallWidth:
		return difference(at(c.Other, c.From), at(c.Limit, c.From), c.Size, c.Error)
	case api.CallCourse:
		is, e := course.Fits(f.Variations, c.Course, f.Stations[c.To].X-f.Stations[c.From].X, at(c.Limit, c.To)-at(c.Limit, c.From))
		return is && e == api.OK
	case api.CallAlong:
		for s := c.From; s <= c.To; s++ {
			if at(c.Limit, s) != at(c.Other, s) {
				return false
			}
		}
		return true
	}
	return difference(at(c.Limit, c.To), at(c.Limit, c.From), c.Size, c.Error)
}

// natural says whether a list is a drawing that nature allows.
func natural(f api.Field, y []int) bool {
	n := len(f.Stations)
	if len(y) != 1+n*len(f.Limits) || y[0] != 0 {
		return false
	}
	for p := 1; p < len(y); p++ {
		if y[p] < 0 || y[p] > 100000 || p > n && y[p] < y[p-n] {
			return false
		}
	}
	return true
}

// kept says whether a list keeps some bounds.
func kept(l []api.Bound, y []int) bool {
	return !slices.ContainsFunc(l, func(b api.Bound) bool { return y[b.To]-y[b.From] > b.Most })
}

// eachRandom runs a test with valid fields; the numbers always come in the same order.
func eachRandom(t *testing.T, count int, test func(r *rand.Rand, f api.Field)) {
	t.Helper()
	r := rand.New(rand.NewPCG(3, 14))
	for range count {
		f := randomField(r)
		expect.Errno(t, "CheckField of a random field", deed.CheckField(f), api.OK)
		test(r, f)
		if t.Failed() {
			t.Logf("the field:\n%s", deed.PrintField(f))
			return
		}
	}
}

// messyLine returns a line with more blanks, and perhaps with a comment.
func messyLine(r *rand.Rand, text string) string {
	blanks := func(least int) string { return strings.Repeat(" ", least+r.IntN(3)) }
	words := strings.Split(text, " ")
	text = blanks(0) + words[0]
	for _, w := range words[1:] {
		text += blanks(1) + w
	}
	return text + blanks(0) + []string{"", "", "# a comment", "#", "##\t\xff # stone"}[r.IntN(5)]
}

// messy returns a source with comments, more blanks and more lines, and perhaps without its last line feed.
func messy(r *rand.Rand, src string) string {
	var lines []string
	for text := range strings.Lines(src) {
		if r.IntN(3) == 0 {
			lines = append(lines, []string{"", "   ", "# a comment", "  # limit wall", "#"}[r.IntN(5)])
		}
		lines = append(lines, messyLine(r, strings.TrimSuffix(text, "\n")))
	}
	return strings.Join(lines, "\n") + []string{"", "\n", "\n\n", "\n  ", "\n#"}[r.IntN(5)]
}

// sameField fails unless two fields are equal.
func sameField(t *testing.T, name string, got, want api.Field) {
	t.Helper()
	expect.List(t, name+": stations", got.Stations, want.Stations...)
	expect.List(t, name+": limits", got.Limits, want.Limits...)
	expect.List(t, name+": parcels", got.Parcels, want.Parcels...)
	expect.List(t, name+": variations", got.Variations, want.Variations...)
}

// sameDeeds fails unless some deeds are equal.
func sameDeeds(t *testing.T, name string, got, want []api.Deed) {
	t.Helper()
	expect.Equal(t, name+": how many", len(got), len(want))
	for i := range min(len(got), len(want)) {
		expect.Equal(t, name+": name", got[i].Name, want[i].Name)
		expect.Equal(t, name+": year", got[i].Year, want[i].Year)
		expect.Equal(t, name+": rank", got[i].Rank, want[i].Rank)
		expect.List(t, name+": calls", got[i].Calls, want[i].Calls...)
	}
}

// names of each kind: those that are names, and those that are none.
func goodNames() []string {
	return []string{"a", "z", "a0", "z9", "a-", "a--b", "station", "deed", "by", "x-1-y", strings.Repeat("a", 24), "a" + strings.Repeat("-", 23)}
}
func badNames() []string {
	return []string{"0", "9a", "-", "-a", "A", "aB", "a_b", "a.b", "\u00e9", "a\u00e9", "a\xff", "a\x00", "a\tb", "\t", "a\r", strings.Repeat("a", 25), "a" + strings.Repeat("0", 24), strings.Repeat("z", 1000), "`", "{", "a/", "a:"}
}
