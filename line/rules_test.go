package line_test

import (
	"math"
	"math/rand/v2"
	"reflect"
	"slices"
	"testing"

	"merestone/api"
	"merestone/expect"
	"merestone/line"
)

// call is a function of the package with its other arguments chosen; its results without the error, and the error.
type call struct {
	name  string
	sound bool // the function is marked with *
	run   func(s api.System) ([]any, api.Errno)
}

// calls returns all functions, with arguments for a system of at least 3 points and 6 bounds.
func calls() []call {
	type results = []any
	return []call{
		{"Check", false, func(s api.System) (results, api.Errno) { return nil, line.Check(s) }},
		{"Kept", false, func(s api.System) (results, api.Errno) {
			return expect.Two(line.Kept(s, make([]int, max(0, min(s.N, 200)))))
		}},
		{"Consistent", false, func(s api.System) (results, api.Errno) { return expect.One(line.Consistent(s)) }},
		{"Circle", false, func(s api.System) (results, api.Errno) { return expect.Two(line.Circle(s)) }},
		{"CheckCircle", false, func(s api.System) (results, api.Errno) { return expect.One(line.CheckCircle(s, []int{0, 2, 5})) }},
		{"Blame", false, func(s api.System) (results, api.Errno) { return expect.One(line.Blame(s)) }},
		{"Distance", true, func(s api.System) (results, api.Errno) { return expect.Two(line.Distance(s, 0, 2)) }},
		{"Distances", true, func(s api.System) (results, api.Errno) { return expect.Two(line.Distances(s, 0)) }},
		{"Path", true, func(s api.System) (results, api.Errno) { return expect.One(line.Path(s, 0, 2)) }},
		{"CheckPath", false, func(s api.System) (results, api.Errno) { return expect.One(line.CheckPath(s, []int{0, 2}, 0, 2, 8)) }},
		{"Range", true, func(s api.System) (results, api.Errno) { return expect.One(line.Range(s, 2)) }},
		{"Between", true, func(s api.System) (results, api.Errno) { return expect.One(line.Between(s, 1, 2)) }},
		{"Greatest", true, func(s api.System) (results, api.Errno) { return expect.One(line.Greatest(s)) }},
		{"Least", true, func(s api.System) (results, api.Errno) { return expect.One(line.Least(s)) }},
		{"Some", true, func(s api.System) (results, api.Errno) { return expect.One(line.Some(s)) }},
		{"Through", false, func(s api.System) (results, api.Errno) { return expect.Two(line.Through(s, 1, 3)) }},
		{"Rigid", true, func(s api.System) (results, api.Errno) { return expect.One(line.Rigid(s)) }},
		{"Needless", true, func(s api.System) (results, api.Errno) { return expect.One(line.Needless(s)) }},
		{"Records", false, func(s api.System) (results, api.Errno) { return expect.One(line.Records(s, []int{4, 3, 2})) }},
		{"Close", true, func(s api.System) (results, api.Errno) { return expect.One(line.Close(s)) }},
		{"Without", false, func(s api.System) (results, api.Errno) { return expect.One(line.Without(s, []int{3})) }},
		{"Join", false, func(s api.System) (results, api.Errno) { return expect.One(line.Join(s, chapter())) }},
	}
}

// empty says whether all results are zero values, where empty slices are as good as nil.
func empty(l []any) bool {
	for _, x := range l {
		v := reflect.ValueOf(x)
		if v.Kind() == reflect.Slice && v.Len() == 0 {
			continue
		}
		if s, is := x.(api.System); is && s.N == 0 && len(s.Bounds) == 0 {
			continue
		}
		if !v.IsZero() {
			return false
		}
	}
	return true
}

// R2: errors come with zero values, and those of Check before all others.
func TestErrorsOfCheck(t *testing.T) {
	bad := plus(chapter(), api.Bound{From: 2, To: 2})
	for _, x := range []struct {
		name string
		s    api.System
		want api.Errno
	}{
		{"no points", api.System{}, api.ErrArg},
		{"129 points", api.System{N: 129, Bounds: chapter().Bounds}, api.ErrLimit},
		{"2001 bounds", repeated(2001), api.ErrLimit},
		{"equal points", bad, api.ErrArg},
		{"equal points and a contradiction", plus(contradiction(), bad.Bounds...), api.ErrArg},
		{"far away", api.System{N: math.MinInt, Bounds: []api.Bound{{From: math.MinInt, To: math.MaxInt, Most: math.MinInt, Record: math.MaxInt}}}, api.ErrArg},
		{"far away in a good place", api.System{N: 4, Bounds: []api.Bound{{From: math.MinInt, To: math.MaxInt}}}, api.ErrArg},
	} {
		for _, c := range calls() {
			l, e := c.run(x.s)
			expect.Errno(t, c.name+" of "+x.name, e, x.want)
			expect.Equal(t, c.name+" of "+x.name+" is empty", empty(l), true)
		}
	}
}

// The functions that are marked with * refuse a contradiction, and no others do.
func TestErrorsOfContradictions(t *testing.T) {
	for _, c := range calls() {
		l, e := c.run(contradiction())
		want := api.OK
		if c.sound {
			want = api.ErrCircle
		}
		expect.Errno(t, c.name, e, want)
		if c.sound {
			expect.Equal(t, c.name+" is empty", empty(l), true)
		}
	}
	// The point 3 has no greatest and no least value, and there is no path to it.
	for _, call := range []func(api.System) ([]int, api.Errno){line.Greatest, line.Least} {
		_, e := call(contradiction())
		expect.Errno(t, "ErrCircle before ErrNone", e, api.ErrCircle)
	}
	_, e := line.Path(contradiction(), 0, 3)
	expect.Errno(t, "ErrCircle before ErrNone", e, api.ErrCircle)
	s := plus(contradiction(), api.Bound{From: 0, To: 3, Most: 1000000}, api.Bound{From: 2, To: 3, Most: 1000000})
	_, e = line.Close(s)
	expect.Errno(t, "ErrCircle before ErrLimit", e, api.ErrCircle)
	_, e = line.Close(plus(ring(60), api.Bound{From: 1, To: 0, Most: -2}))
	expect.Errno(t, "ErrCircle before ErrLimit", e, api.ErrCircle)
}

// Points that there are not: ErrArg, behind Check and before ErrCircle.
func TestErrorsOfPoints(t *testing.T) {
	type point func(s api.System, p int) ([]any, api.Errno)
	type results = []any
	for name, run := range map[string]point{
		"Distance from":  func(s api.System, p int) (results, api.Errno) { return expect.Two(line.Distance(s, p, 1)) },
		"Distance to":    func(s api.System, p int) (results, api.Errno) { return expect.Two(line.Distance(s, 1, p)) },
		"Distance":       func(s api.System, p int) (results, api.Errno) { return expect.Two(line.Distance(s, p, p)) },
		"Distances":      func(s api.System, p int) (results, api.Errno) { return expect.Two(line.Distances(s, p)) },
		"Path from":      func(s api.System, p int) (results, api.Errno) { return expect.One(line.Path(s, p, 1)) },
		"Path to":        func(s api.System, p int) (results, api.Errno) { return expect.One(line.Path(s, 1, p)) },
		"Path":           func(s api.System, p int) (results, api.Errno) { return expect.One(line.Path(s, p, p)) },
		"CheckPath from": func(s api.System, p int) (results, api.Errno) { return expect.One(line.CheckPath(s, nil, p, 1, 0)) },
		"CheckPath to":   func(s api.System, p int) (results, api.Errno) { return expect.One(line.CheckPath(s, nil, 1, p, 0)) },
		"CheckPath":      func(s api.System, p int) (results, api.Errno) { return expect.One(line.CheckPath(s, nil, p, p, 0)) },
		"Range":          func(s api.System, p int) (results, api.Errno) { return expect.One(line.Range(s, p)) },
		"Between a":      func(s api.System, p int) (results, api.Errno) { return expect.One(line.Between(s, p, 1)) },
		"Between b":      func(s api.System, p int) (results, api.Errno) { return expect.One(line.Between(s, 1, p)) },
		"Between":        func(s api.System, p int) (results, api.Errno) { return expect.One(line.Between(s, p, p)) },
		"Through":        func(s api.System, p int) (results, api.Errno) { return expect.Two(line.Through(s, p, 0)) },
	} {
		for _, p := range []int{-1, 4, 5, 127, 128, math.MinInt, math.MaxInt} {
			for _, s := range []api.System{chapter(), contradiction()} {
				l, e := run(s, p)
				expect.Errno(t, name, e, api.ErrArg)
				expect.Equal(t, name+" is empty", empty(l), true)
			}
			_, e := run(api.System{N: 129}, p)
			expect.Errno(t, name+" of a bad system", e, api.ErrLimit)
		}
		for p := range 4 {
			_, e := run(chapter(), p)
			expect.Equal(t, name+" takes the point", e == api.OK || e == api.ErrNone, true)
		}
	}
}

// R3: arguments stay as they are, also behind the end of slices; results are new memory.
func TestMemory(t *testing.T) {
	behind := api.Bound{From: 77, To: 77, Most: 77, Record: 77}
	for _, base := range []api.System{chapter(), contradiction(), {N: 3}} {
		for _, c := range calls() {
			k := len(base.Bounds)
			room := append(slices.Clone(base.Bounds), behind, behind, behind, behind, behind, behind, behind)
			s := api.System{N: base.N, Bounds: room[:k]}
			first, e := c.run(s)
			want, _ := c.run(api.System{N: base.N, Bounds: slices.Clone(base.Bounds)})
			if !slices.Equal(room[:k], base.Bounds) || slices.ContainsFunc(room[k:], func(b api.Bound) bool { return b != behind }) {
				t.Errorf("%s changes its argument to %v", c.name, room)
			}
			clear(room)
			if !alike(first, want) {
				t.Errorf("%s: %v with the argument's memory, want %v", c.name, first, want)
			}
			spoil(first)
			again, f := c.run(base)
			if !alike(again, want) || e != f {
				t.Errorf("%s: %v and error %d, at first %v and %d", c.name, again, f, want, e)
			}
		}
	}
}

// alike says whether results are equal, where empty slices are as good as nil.
func alike(l, m []any) bool {
	return empty(l) && empty(m) || reflect.DeepEqual(l, m)
}

// spoil overwrites results, also behind the end of slices.
func spoil(l []any) {
	for _, x := range l {
		switch y := x.(type) {
		case []int:
			fill(y[:cap(y)], -5)
		case []bool:
			fill(y[:cap(y)], true)
		case [][]int:
			for _, z := range y {
				fill(z[:cap(z)], -5)
			}
		case api.System:
			fill(y.Bounds[:cap(y.Bounds)], api.Bound{From: -5})
		}
	}
}

// fill overwrites a slice.
func fill[T any](l []T, x T) {
	for i := range l {
		l[i] = x
	}
}

// R3: lists of numbers stay as they are, also behind their end; slices of one result share no memory.
func TestMemoryOfLists(t *testing.T) {
	s := contradiction()
	room := []int{5, 2, 0, 4, 3}
	l := room[:3]
	line.Records(s, l)
	line.Without(s, l)
	line.CheckCircle(s, l)
	line.CheckPath(s, l, 2, 2, 0)
	line.Kept(s, []int{0, 1, 2, 3, 4}[:4])
	expect.List(t, "the list", room, 5, 2, 0, 4, 3)
	classes, _ := line.Rigid(api.System{N: 5})
	for _, c := range classes {
		_ = append(c, 99)
	}
	for p, c := range classes {
		expect.List(t, "a class", c, p)
	}
	c := chapter()
	for range 2 {
		j, _ := line.Join(c, api.System{N: 4})
		k, _ := line.Join(api.System{N: 4}, c)
		w, _ := line.Without(c, nil)
		x, _ := line.Without(c, []int{99})
		for _, y := range []api.System{j, k, w, x} {
			expect.Equal(t, "the first bound", y.Bounds[0], chapter().Bounds[0])
			y.Bounds[0].Most = 99
		}
	}
	expect.Equal(t, "the argument's first bound", c.Bounds[0], chapter().Bounds[0])
}

// R3: nil and empty lists of bounds are the same.
func TestNilAndEmpty(t *testing.T) {
	for _, c := range calls() {
		l, e := c.run(api.System{N: 3})
		m, f := c.run(api.System{N: 3, Bounds: []api.Bound{}})
		expect.Equal(t, c.name, alike(l, m), true)
		expect.Errno(t, c.name, e, f)
	}
}

// R4: what a call returns depends on its arguments alone, whatever was called before.
func TestCallsAreAlone(t *testing.T) {
	r := rand.New(rand.NewPCG(5, 5))
	list := calls()
	first := map[string][]any{}
	for range 20 {
		r.Shuffle(len(list), func(i, j int) { list[i], list[j] = list[j], list[i] })
		for _, c := range list {
			c.run(contradiction())
			l, _ := c.run(chapter())
			if want, is := first[c.name]; is && !alike(l, want) {
				t.Errorf("%s: %v, at first %v", c.name, l, want)
			}
			first[c.name] = l
		}
	}
}

// R1: whatever the arguments are, all functions return.
func TestWildArguments(t *testing.T) {
	wild := []int{math.MinInt, math.MinInt + 1, -400000001, -1, 0, 1, 2, 3, 4, 127, 128, 1000001, 400000001, math.MaxInt}
	r := rand.New(rand.NewPCG(2, 9))
	pick := func() int { return wild[r.IntN(len(wild))] }
	list := func() []int {
		l := make([]int, r.IntN(4))
		for i := range l {
			l[i] = pick()
		}
		return l
	}
	for range 3000 {
		s := api.System{N: pick()}
		for range r.IntN(4) {
			s.Bounds = append(s.Bounds, api.Bound{From: pick(), To: pick(), Most: pick(), Record: pick()})
		}
		if r.IntN(2) == 0 {
			s = []api.System{chapter(), contradiction()}[r.IntN(2)]
		}
		for _, c := range calls() {
			c.run(s)
		}
		line.Kept(s, list())
		line.CheckCircle(s, list())
		line.Distance(s, pick(), pick())
		line.Distances(s, pick())
		line.Path(s, pick(), pick())
		line.CheckPath(s, list(), pick(), pick(), pick())
		line.Range(s, pick())
		line.Between(s, pick(), pick())
		line.Through(s, pick(), pick())
		line.Records(s, list())
		line.Without(s, list())
		line.Join(s, api.System{N: pick(), Bounds: s.Bounds})
	}
}

// R1: systems of 128 points and 2000 bounds are worked out, consistent or not.
func TestGreatSystems(t *testing.T) {
	r := rand.New(rand.NewPCG(8, 1))
	for _, low := range []int{0, -1, -20} {
		s := ring(128)
		for len(s.Bounds) < 2000 {
			a := r.IntN(128)
			s.Bounds = append(s.Bounds, api.Bound{From: a, To: (a + 1 + r.IntN(127)) % 128, Most: 500 + low*30*r.IntN(2), Record: len(s.Bounds)})
		}
		for _, c := range calls() {
			_, e := c.run(s)
			expect.Equal(t, c.name, e == api.OK || e == api.ErrCircle || c.name == "Close" && e == api.ErrLimit || c.name == "Join" && e == api.ErrArg, true)
		}
		l, is, _ := line.Circle(s)
		if is {
			ok, _ := line.CheckCircle(s, l)
			expect.Equal(t, "CheckCircle", ok, true)
		}
		y, e := line.Some(s)
		expect.Equal(t, "Some or Circle", e == api.OK, !is)
		if e == api.OK {
			_, kept, _ := line.Kept(s, y)
			expect.Equal(t, "Some keeps", kept, true)
		}
	}
}

// The section Limits, and the error codes.
func TestNumbers(t *testing.T) {
	for _, x := range []struct {
		name      string
		got, want int
	}{
		{"MaxPoints", api.MaxPoints, 128}, {"MaxBounds", api.MaxBounds, 2000}, {"MaxMost", api.MaxMost, 1000000}, {"MaxId", api.MaxId, 1000000}, {"MaxValue", api.MaxValue, 400000000},
	} {
		expect.Equal(t, x.name, x.got, x.want)
	}
	for _, x := range []struct {
		name string
		got  api.Errno
		want int
	}{
		{"OK", api.OK, 0}, {"ErrArg", api.ErrArg, 1}, {"ErrLimit", api.ErrLimit, 2}, {"ErrNil", api.ErrNil, 3}, {"ErrForm", api.ErrForm, 4}, {"ErrNone", api.ErrNone, 5}, {"ErrTwice", api.ErrTwice, 6}, {"ErrTime", api.ErrTime, 7}, {"ErrState", api.ErrState, 8},
		{"ErrCircle", api.ErrCircle, 10}, {"ErrCompass", api.ErrCompass, 20}, {"ErrOrder", api.ErrOrder, 30}, {"ErrConflict", api.ErrConflict, 40}, {"ErrOpen", api.ErrOpen, 50}, {"ErrShare", api.ErrShare, 51}, {"ErrFar", api.ErrFar, 60}, {"ErrShort", api.ErrShort, 70}, {"ErrUnlike", api.ErrUnlike, 71},
		{"ErrProof", api.ErrProof, 80}, {"ErrEarly", api.ErrEarly, 81}, {"ErrLate", api.ErrLate, 82}, {"ErrDown", api.ErrDown, 90}, {"ErrSpoilt", api.ErrSpoilt, 91}, {"ErrFull", api.ErrFull, 92}, {"ErrDuty", api.ErrDuty, 93}, {"ErrLink", api.ErrLink, 100}, {"ErrArea", api.ErrArea, 101},
	} {
		expect.Equal(t, x.name, int(x.got), x.want)
	}
}
