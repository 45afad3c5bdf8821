package deed_test

import (
	"fmt"
	"math"
	"math/rand/v2"
	"slices"
	"strings"
	"testing"

	"merestone/api"
	"merestone/deed"
	"merestone/expect"
)

// deedWith returns the deed patent, with the calls of all kinds, after a change.
func deedWith(change func(d *api.Deed)) api.Deed {
	d := patent()
	d.Calls = allKinds()
	change(&d)
	return d
}

// wrongDeed is a deed after a change, and its error.
type wrongDeed struct {
	name   string
	change func(d *api.Deed)
	want   api.Errno
}

// wrongDeeds returns, class by class, what can be wrong with a deed, in the order in which the chapter names it.
func wrongDeeds() [][]wrongDeed {
	append1 := func(c api.Call) func(d *api.Deed) {
		return func(d *api.Deed) { d.Calls = append(slices.Clone(d.Calls), c) }
	}
	early := with(bearing(), func(c *api.Call) { c.Course.Year = 1600 })
	classes := [][]wrongDeed{
		{
			{"21 good calls", func(d *api.Deed) { d.Calls = slices.Repeat([]api.Call{along()}, 21) }, api.ErrLimit},
			{"21 calls", func(d *api.Deed) { d.Calls = slices.Concat(d.Calls, make([]api.Call, 21)) }, api.ErrLimit},
		}, {
			{"no name", func(d *api.Deed) { d.Name = "" }, api.ErrForm},
			{"a name that begins with a digit", func(d *api.Deed) { d.Name = "1a" }, api.ErrForm},
			{"a name of 25 bytes", func(d *api.Deed) { d.Name = strings.Repeat("a", 25) }, api.ErrForm},
		}, {
			{"the rank -1", func(d *api.Deed) { d.Rank = -1 }, api.ErrArg},
			{"the rank 1001", func(d *api.Deed) { d.Rank = 1001 }, api.ErrArg},
			{"a great rank", func(d *api.Deed) { d.Rank = math.MaxInt }, api.ErrArg},
			{"the year 0", func(d *api.Deed) { d.Year = 0 }, api.ErrArg},
			{"the year 3001", func(d *api.Deed) { d.Year = 3001 }, api.ErrArg},
			{"the least year", func(d *api.Deed) { d.Year = math.MinInt }, api.ErrArg},
		}, {
			{"the year of the course is another one", func(d *api.Deed) { d.Year = 1751 }, api.ErrArg},
			{"a course of another year", append1(with(bearing(), func(c *api.Call) { c.Course.Year = 1751 })), api.ErrArg},
			{"a call of no kind", append1(api.Call{}), api.ErrArg},
			{"an early course of another year", append1(early), api.ErrCompass},
			{"nothing fits", append1(with(bearing(), func(c *api.Call) { c.Course.Bearing = 300 })), api.ErrNone},
			{"nothing fits, in another year", append1(with(bearing(), func(c *api.Call) { c.Course.Bearing, c.Course.Year = 300, 1800 })), api.ErrNone},
			{"nothing fits, before an early course", func(d *api.Deed) {
				d.Calls = []api.Call{with(bearing(), func(c *api.Call) { c.Course.Bearing = 300 }), early, {}}
			}, api.ErrNone},
			{"an early course before what has no kind", func(d *api.Deed) { d.Calls = []api.Call{stone(), early, {}} }, api.ErrCompass},
		},
	}
	for _, name := range badNames() {
		classes[1] = append(classes[1], wrongDeed{"the name " + name, func(d *api.Deed) { d.Name = name }, api.ErrForm})
	}
	return classes
}

// C8: deeds, and the order of their errors.
func TestCheckDeed(t *testing.T) {
	for _, d := range []api.Deed{
		patent(), {Name: "a", Year: 1}, {Name: strings.Repeat("z", 24), Year: 3000, Rank: 1000}, {Name: "a-1", Year: 1, Calls: []api.Call{stone()}},
		deedWith(func(d *api.Deed) {}), deedWith(func(d *api.Deed) { d.Calls = slices.Repeat([]api.Call{along()}, 20) }),
	} {
		expect.Errno(t, d.Name, deed.CheckDeed(rich(), d), api.OK)
		expect.Errno(t, d.Name, deed.CheckDeeds(rich(), []api.Deed{d}), api.OK)
	}
	classes := wrongDeeds()
	for i, class := range classes {
		for _, x := range class {
			for _, later := range append(slices.Concat(classes[i+1:]...), wrongDeed{"nothing else", func(d *api.Deed) {}, api.OK}) {
				d := deedWith(func(d *api.Deed) { later.change(d); x.change(d) })
				expect.Errno(t, x.name+" and "+later.name, deed.CheckDeed(rich(), d), x.want)
			}
			d := deedWith(x.change)
			expect.Equal(t, "PrintDeeds with "+x.name, deed.PrintDeeds(rich(), []api.Deed{patent(), d}), "")
		}
	}
}

// many returns some deeds without calls.
func many(count int) []api.Deed {
	var l []api.Deed
	for i := range count {
		l = append(l, api.Deed{Name: label("deed", i), Year: 1 + i})
	}
	return l
}

// C8: several deeds.
func TestCheckDeeds(t *testing.T) {
	bad := deedWith(func(d *api.Deed) { d.Calls = append(d.Calls, with(bearing(), func(c *api.Call) { c.Course.Year = 5 })) })
	for _, x := range []struct {
		name string
		l    []api.Deed
		want api.Errno
	}{
		{"none", nil, api.OK}, {"60", many(60), api.OK}, {"61", many(61), api.ErrLimit}, {"61 bad ones", make([]api.Deed, 61), api.ErrLimit}, {"60 bad ones", make([]api.Deed, 60), api.ErrForm},
		{"a name twice", append(many(9), many(1)...), api.ErrTwice}, {"a name twice before a bad one", append(append(many(9), many(1)...), bad), api.ErrTwice},
		{"a bad one before a name twice", append([]api.Deed{patent(), bad}, patent()), api.ErrCompass}, {"a bad one with a name of before", []api.Deed{patent(), bad}, api.ErrCompass},
		{"a bad year with a name of before", append(many(2), api.Deed{Name: "deed-0"}), api.ErrArg}, {"the last is bad", append(many(59), bad), api.ErrCompass},
	} {
		expect.Errno(t, x.name, deed.CheckDeeds(rich(), x.l), x.want)
		expect.Equal(t, x.name+": PrintDeeds", deed.PrintDeeds(rich(), x.l) != "", x.want == api.OK && len(x.l) > 0)
	}
}

// C14: the source of deeds.
func TestPrintDeeds(t *testing.T) {
	back := with(bearing(), func(c *api.Call) { c.From, c.To, c.Course.Bearing = 1, 0, 230 })
	l := []api.Deed{
		{Name: "grant", Year: 1750, Rank: 1000, Calls: []api.Call{stone(), width(), bearing(), along(), level(), back}},
		{Name: "empty", Year: 1},
		{Name: "last", Year: 3000, Rank: 7, Calls: []api.Call{stone()}},
	}
	want := strings.Join([]string{
		"deed grant 1750 1000", "stone wall oak 250 2", "width wall hedge ash 100 3", "course wall ash oak 10 chains by north 50 east give 2 wear 0 slack 100", "along wall hedge ash oak", "level wall ash oak 5 5",
		"course wall oak ash 10 chains by south 50 west give 2 wear 0 slack 100", "deed empty 1 0", "deed last 3000 7", "stone wall oak 250 2", "",
	}, "\n")
	expect.Equal(t, "PrintDeeds", deed.PrintDeeds(example(), l), want)
	got, fault := deed.ParseDeeds(example(), want)
	expect.Equal(t, "ParseDeeds", fault, api.Fault{})
	sameDeeds(t, "ParseDeeds", got, l)
	got, fault = deed.ParseDeeds(example(), "")
	expect.Equal(t, "no deeds", fault, api.Fault{})
	expect.Equal(t, "no deeds", len(got), 0)
}

// faultyDeeds fails unless a source of deeds has a fault, and nothing else.
func faultyDeeds(t *testing.T, name, src string, want api.Fault) {
	t.Helper()
	l, fault := deed.ParseDeeds(rich(), src)
	expect.Equal(t, name, fault, want)
	expect.Equal(t, name+": how many deeds", len(l), 0)
}

// C14: each error of a line, in their order.
func TestParseDeedsFaults(t *testing.T) {
	const start = "deed grant 1750 5\nstone wall oak 250 2\n"
	full := "deed full 1750 5\n" + strings.Repeat("stone wall oak 250 2\n", 20)
	course := "course wall ash oak 10 chains by north 50 east give 2 wear 0 slack 100\n"
	for _, x := range []struct {
		name, src string
		err       api.Errno
		line      int
	}{
		{"a call before the first deed", "stone wall oak 250 2", api.ErrForm, 1}, {"a call before the first deed", "\n# x\nstone burn elm 999999 2\ndeed a 1 1", api.ErrForm, 3},
		{"a line of a field", start + "station ash 5", api.ErrForm, 3}, {"no form", start + "stone wall oak 250", api.ErrForm, 3},
		{"no form", start + "nothing", api.ErrForm, 3}, {"a tab", start + "\tstone wall oak 250 2", api.ErrForm, 3}, {"a carriage return", "deed a 1 1\r\nstone wall oak 1 1\r\n", api.ErrForm, 1},
		{"a deed without a rank", start + "deed a 1", api.ErrForm, 3}, {"a word more", start + "deed a 1 1 1", api.ErrForm, 3}, {"a deed with a sign", start + "deed a 1 -1", api.ErrForm, 3}, {"a deed with a sign", start + "deed a -1 1", api.ErrForm, 3},
		{"a deed alone", start + "deed", api.ErrForm, 3}, {"DEED", start + "DEED a 1 1", api.ErrForm, 3}, {"a deed with a rank of 10 digits", start + "deed a 1 1000000000", api.ErrForm, 3},
		{"21 calls", full + "stone wall oak 250 2", api.ErrLimit, 22}, {"21 calls, nothing is there", full + "stone nothing oak 250 2", api.ErrLimit, 22}, {"21 calls, not right", full + "stone wall oak 999999 2", api.ErrLimit, 22},
		{"21 calls without a form", full + "stone wall oak 250", api.ErrForm, 22}, {"20 calls of the next deed", full + "deed b 5 5\n" + full[len("deed full 1750 5\n"):] + "nothing", api.ErrForm, 43},
		{"no such limit", start + "stone ditch oak 250 2", api.ErrNone, 3}, {"no such station", start + "stone wall fir 250 2", api.ErrNone, 3}, {"no such station, not right", start + "stone wall fir 999999 2", api.ErrNone, 3},
		{"Size out of range", start + "stone wall oak 100001 2", api.ErrArg, 3}, {"limits in the other order", start + "width hedge wall oak 5 2", api.ErrArg, 3},
		{"an early course", "deed a 1699 5\n" + course, api.ErrCompass, 2}, {"nothing fits", start + strings.Replace(course, "east", "west", 1), api.ErrNone, 3},
		{"a needle out of range", "deed a 1699 5\n" + strings.Replace(course, "give 2", "give 31", 1), api.ErrArg, 2},
		{"the year 0", start + "deed a 0 1", api.ErrArg, 3}, {"the year 3001", start + "deed a 3001 1", api.ErrArg, 3}, {"the rank 1001", start + "deed a 1 1001", api.ErrArg, 3},
		{"a name twice", start + "deed grant 1 1", api.ErrTwice, 3}, {"a name twice, the year 0", start + "deed grant 0 1", api.ErrArg, 3}, {"a name twice, without a form", start + "deed grant 1 01", api.ErrForm, 3},
		{"61 deeds", deed.PrintDeeds(rich(), many(60)) + "deed more 1 1", api.ErrLimit, 61}, {"61 deeds, the year 0", deed.PrintDeeds(rich(), many(60)) + "deed deed-0 0 1", api.ErrLimit, 61},
		{"61 deeds without a form", deed.PrintDeeds(rich(), many(60)) + "deed more 1", api.ErrForm, 61}, {"60 deeds, a call", deed.PrintDeeds(rich(), many(60)) + "stone wall oak 999999 1", api.ErrArg, 61},
		{"the first line that is refused", start + "stone ditch oak 250 2\nnothing\n", api.ErrNone, 3}, {"the first line that is refused", start + "nothing\nstone ditch oak 250 2\n", api.ErrForm, 3},
	} {
		faultyDeeds(t, x.name, x.src, api.Fault{Err: x.err, Line: x.line})
	}
	for _, name := range badNames() {
		faultyDeeds(t, name, start+"deed "+name+" 1 1", api.Fault{Err: api.ErrForm, Line: 3})
	}
	for _, name := range goodNames() {
		l, fault := deed.ParseDeeds(rich(), start+"deed "+name+" 1 1")
		expect.Equal(t, name, fault, api.Fault{})
		expect.Equal(t, name, len(l), 2)
	}
	for _, n := range numbers() {
		for _, form := range []string{"deed a %s 1", "deed a 1 %s"} {
			_, fault := deed.ParseDeeds(rich(), fmt.Sprintf(form, n.text))
			expect.Equal(t, fmt.Sprintf(form, n.text), fault == api.Fault{Err: api.ErrForm, Line: 1}, !n.is)
		}
	}
}

// C14: years, ranks and counts at their ends; the year of a course is that of its deed.
func TestParseDeedsEnds(t *testing.T) {
	l, fault := deed.ParseDeeds(rich(), "deed a 1 0\ndeed b 3000 1000")
	expect.Equal(t, "ends", fault, api.Fault{})
	sameDeeds(t, "ends", l, []api.Deed{{Name: "a", Year: 1}, {Name: "b", Year: 3000, Rank: 1000}})
	l, fault = deed.ParseDeeds(rich(), deed.PrintDeeds(rich(), many(60)))
	expect.Equal(t, "60 deeds", fault, api.Fault{})
	sameDeeds(t, "60 deeds", l, many(60))
	twenty := []api.Deed{{Name: "a", Year: 5, Calls: slices.Repeat([]api.Call{along()}, 20)}, {Name: "b", Year: 5, Calls: slices.Repeat([]api.Call{stone()}, 20)}}
	l, fault = deed.ParseDeeds(rich(), deed.PrintDeeds(rich(), twenty))
	expect.Equal(t, "20 calls", fault, api.Fault{})
	sameDeeds(t, "20 calls", l, twenty)
	course := "course wall ash oak 10 chains by north 50 east give 2 wear 0 slack 100\n"
	l, fault = deed.ParseDeeds(rich(), "deed a 1700 0\n"+course+"deed b 1799 0\n"+course)
	expect.Equal(t, "years", fault, api.Fault{})
	expect.Equal(t, "years", [2]int{l[0].Calls[0].Course.Year, l[1].Calls[0].Course.Year}, [2]int{1700, 1799})
}

// C14: sources of 20000 bytes, and of one more.
func TestParseDeedsSize(t *testing.T) {
	src := "deed a 1 0\nstone wall oak 250 2\n"
	for _, pad := range []string{"#", " ", "\n"} {
		for _, feed := range []string{"", "\n"} {
			s := src + strings.Repeat(pad, 20000-len(src)-len(feed)) + feed
			l, fault := deed.ParseDeeds(rich(), s)
			expect.Equal(t, "20000 bytes", fault, api.Fault{})
			expect.Equal(t, "20000 bytes", len(l), 1)
			faultyDeeds(t, "20001 bytes", s+" ", api.Fault{Err: api.ErrLimit})
		}
	}
	faultyDeeds(t, "20001 bytes without a form", strings.Repeat("x", 20001), api.Fault{Err: api.ErrLimit})
	_, fault := deed.ParseDeeds(changed(rich(), atX(0, -1)), strings.Repeat("x", 20001))
	expect.Equal(t, "a field that is not valid comes first", fault, api.Fault{Err: api.ErrArg})
}

// C14: deeds are printed whole, also if their source is longer than what is read.
func TestPrintDeedsLong(t *testing.T) {
	l := many(60)
	for i := range l {
		l[i].Calls = slices.Repeat([]api.Call{along()}, 20)
	}
	src := deed.PrintDeeds(rich(), l)
	expect.Equal(t, "the lines", strings.Count(src, "\n"), 60+1200)
	expect.Equal(t, "the calls", strings.Count(src, "along wall hedge ash oak\n"), 1200)
	faultyDeeds(t, "more than 20000 bytes", src, api.Fault{Err: api.ErrLimit})
}

// randomDeeds returns right deeds whose source is short enough to be read.
func randomDeeds(r *rand.Rand, f api.Field) []api.Deed {
	l := many(r.IntN(12))
	for i := range l {
		l[i].Year, l[i].Rank = 1+r.IntN(3000), r.IntN(1001)
		for range r.IntN(12) {
			c := rightCall(r, f)
			if c.Kind == api.CallCourse {
				c.Course.Year = l[i].Year
			}
			if deed.CheckCall(f, c) == api.OK {
				l[i].Calls = append(l[i].Calls, c)
			}
		}
	}
	return l
}

// P3.3: what is printed is read again; comments, blanks and empty lines change nothing, but the line of a fault.
func TestParseDeedsInverts(t *testing.T) {
	eachRandom(t, 200, func(r *rand.Rand, f api.Field) {
		l := randomDeeds(r, f)
		expect.Errno(t, "CheckDeeds", deed.CheckDeeds(f, l), api.OK)
		src := deed.PrintDeeds(f, l)
		got, fault := deed.ParseDeeds(f, src)
		expect.Equal(t, "ParseDeeds", fault, api.Fault{})
		sameDeeds(t, "ParseDeeds", got, l)
		expect.Equal(t, "PrintDeeds again", deed.PrintDeeds(f, got), src)
		src = messy(r, src)
		if len(src) > 19900 {
			return
		}
		got, fault = deed.ParseDeeds(f, src)
		expect.Equal(t, "ParseDeeds of a messy source", fault, api.Fault{})
		sameDeeds(t, "ParseDeeds of a messy source", got, l)
		lines := strings.Split(src, "\n")
		at := r.IntN(len(lines))
		lines = slices.Insert(lines, at, []string{"nothing", "limit wall", "deed a 01 1 # x", "  stone  5"}[r.IntN(4)])
		got, fault = deed.ParseDeeds(f, strings.Join(lines, "\n"))
		expect.Equal(t, "a line without a form", fault, api.Fault{Err: api.ErrForm, Line: at + 1})
		expect.Equal(t, "a line without a form", len(got), 0)
	})
}
