package plan_test

import (
	"math"
	"math/rand/v2"
	"reflect"
	"slices"
	"testing"

	"merestone/api"
	"merestone/expect"
	"merestone/plan"
)

// The first lines of the chapter's table of examples.
func TestExamplesOfMeasures(t *testing.T) {
	s, l := ground(), offered()
	classes, e := plan.Tied(s, l, nil)
	expect.Errno(t, "Tied", e, api.OK)
	lists(t, "Tied by nothing", classes, []int{0}, []int{1, 2}, []int{3})
	classes, _ = plan.Tied(s, l, []int{0})
	lists(t, "Tied by the measure 0", classes, []int{0, 1, 2}, []int{3})
	is, e := plan.Ties(s, l, []int{0}, 2)
	expect.Errno(t, "Ties", e, api.OK)
	expect.Equal(t, "Ties", is, true)
	is, _ = plan.Ties(s, l, []int{3}, 1)
	expect.Equal(t, "Ties", is, false)
	costs, e := plan.Costs(s, l)
	expect.Errno(t, "Costs", e, api.OK)
	expect.List(t, "Costs", costs, 0, 6, 6, 4)
	x, e := plan.Cheapest(s, l, 1)
	expect.Errno(t, "Cheapest", e, api.OK)
	expect.List(t, "Cheapest: the set", x.Set, 1, 2)
	expect.Equal(t, "Cheapest: the cost", x.Cost, 6)
	expect.List(t, "Cheapest: the values", x.Values, 0, 6, 6, 4)
	x.Set, x.Cost = []int{0}, 7
	is, e = plan.CheckCheapest(s, l, 1, x)
	expect.Errno(t, "CheckCheapest", e, api.OK)
	expect.Equal(t, "CheckCheapest", is, false)
	x, e = plan.Tree(s, l, []int{1, 3})
	expect.Errno(t, "Tree", e, api.OK)
	expect.List(t, "Tree", x.Set, 1, 2)
	expect.Equal(t, "Tree", x.Cost, 6)
	left, e := plan.Trim(s, l, []int{0, 1, 2, 3}, []int{1, 3})
	expect.Errno(t, "Trim", e, api.OK)
	expect.List(t, "Trim", left, 0, 1)
	out, e := plan.Outcome(s, l, []int{1}, []int{0, 2, 7, 3})
	expect.Errno(t, "Outcome", e, api.OK)
	expect.List(t, "Outcome", out.Bounds[8:], bound(0, 3, 3, 0), bound(3, 0, -3, 0))
	w, is, e := plan.Witness(s, l, []int{1}, 2)
	expect.Errno(t, "Witness", e, api.OK)
	expect.Equal(t, "Witness", is && isWitness(s, l, []int{1}, 2, w), true)
	is, e = plan.CheckWitness(s, l, []int{1}, 2, split())
	expect.Errno(t, "CheckWitness", e, api.OK)
	expect.Equal(t, "CheckWitness", is, true)
}

// The further lines of the chapter's table of examples.
func TestExamplesOfReadings(t *testing.T) {
	r := read()
	circle, by, is, e := plan.Misclosure(3, r)
	expect.Errno(t, "Misclosure", e, api.OK)
	expect.List(t, "Misclosure", slices.Sorted(slices.Values(circle)), 0, 1, 2)
	expect.Equal(t, "Misclosure", by, 3)
	expect.Equal(t, "Misclosure", is, true)
	suspects, e := plan.Suspects(3, r)
	expect.Errno(t, "Suspects", e, api.OK)
	expect.List(t, "Suspects", suspects, 0, 1, 2)
	span, e := plan.Truth(3, r, 2)
	expect.Errno(t, "Truth", e, api.OK)
	expect.Equal(t, "Truth", span, api.Span{Low: 148, High: 152, Lowest: true, Highest: true})
	x, e := plan.Adjust(3, r)
	expect.Errno(t, "Adjust", e, api.OK)
	expect.Equal(t, "Adjust", x.Den, 5)
	expect.List(t, "Adjust", x.Num, 0, 512, 774)
	residuals, e := plan.Residuals(3, r, x)
	expect.Errno(t, "Residuals", e, api.OK)
	expect.List(t, "Residuals", residuals, -12, -12, 6)
	sum, e := plan.Squares(3, r, x)
	expect.Errno(t, "Squares", e, api.OK)
	expect.Equal(t, "Squares", sum, api.Frac{Num: 72, Den: 5})
	is, e = plan.Balanced(3, r, api.Adjusted{Den: 1, Num: []int{0, 102, 155}})
	expect.Errno(t, "Balanced", e, api.OK)
	expect.Equal(t, "Balanced", is, false)
}

// arguments is all that functions of the package may be given.
type arguments struct {
	s                                      api.System
	l                                      []api.Measure
	r                                      []api.Reading
	x                                      api.Errand
	w                                      api.Split
	a                                      api.Adjusted
	set, y, points, circle                 []int
	point, measured, read, by, reading, at int
}

// good returns arguments with which no function has an error.
func good() arguments {
	return arguments{
		s: ground(), l: offered(), r: read(), x: errand(), w: split(), a: api.Adjusted{Den: 5, Num: []int{0, 512, 774}},
		set: []int{1}, y: []int{0, 2, 7, 3}, points: []int{3}, circle: []int{0, 1, 2}, point: 1, measured: 4, read: 3, by: 3, reading: 2,
	}
}

// lists returns all lists of numbers.
func (a *arguments) lists() []*[]int {
	return []*[]int{&a.set, &a.y, &a.points, &a.circle, &a.x.Set, &a.x.Values, &a.w.One, &a.w.Two, &a.a.Num}
}

// clone returns arguments in memory of their own.
func (a arguments) clone() arguments {
	a.s.Bounds, a.l, a.r = slices.Clone(a.s.Bounds), slices.Clone(a.l), slices.Clone(a.r)
	for _, l := range a.lists() {
		*l = slices.Clone(*l)
	}
	return a
}

type results = []any

// call is a function of the package; its results without the error, and the error.
type call struct {
	name               string
	system, set, point bool // what it is given: a system, or else readings
	run                func(a arguments) (results, api.Errno)
}

// calls returns all functions.
func calls() []call { return slices.Concat(systemCalls(), readingCalls()) }

// errandResults returns the parts of an errand.
func errandResults(x api.Errand, e api.Errno) (results, api.Errno) {
	return results{x.Set, x.Cost, x.Values}, e
}

// systemCalls returns the functions with a system.
func systemCalls() []call {
	return []call{
		{"Tied", true, true, false, func(a arguments) (results, api.Errno) { return expect.One(plan.Tied(a.s, a.l, a.set)) }},
		{"Ties", true, true, true, func(a arguments) (results, api.Errno) {
			return expect.One(plan.Ties(a.s, a.l, a.set, a.point))
		}},
		{"Outcome", true, true, false, func(a arguments) (results, api.Errno) {
			s, e := plan.Outcome(a.s, a.l, a.set, a.y)
			return results{s.N, s.Bounds}, e
		}},
		{"Costs", true, false, false, func(a arguments) (results, api.Errno) { return expect.One(plan.Costs(a.s, a.l)) }},
		{"Cheapest", true, false, true, func(a arguments) (results, api.Errno) {
			return errandResults(plan.Cheapest(a.s, a.l, a.point))
		}},
		{"CheckCheapest", true, false, true, func(a arguments) (results, api.Errno) {
			return expect.One(plan.CheckCheapest(a.s, a.l, a.point, a.x))
		}},
		{"Tree", true, false, true, func(a arguments) (results, api.Errno) {
			return errandResults(plan.Tree(a.s, a.l, a.points))
		}},
		{"Trim", true, true, true, func(a arguments) (results, api.Errno) {
			return expect.One(plan.Trim(a.s, a.l, a.set, a.points))
		}},
		{"Witness", true, true, true, func(a arguments) (results, api.Errno) {
			x, is, e := plan.Witness(a.s, a.l, a.set, a.point)
			return results{x.Times, x.One, x.Two, is}, e
		}},
		{"CheckWitness", true, true, true, func(a arguments) (results, api.Errno) {
			return expect.One(plan.CheckWitness(a.s, a.l, a.set, a.point, a.w))
		}},
	}
}

// readingCalls returns the functions with readings.
func readingCalls() []call {
	return []call{
		{"Joined", false, false, false, func(a arguments) (results, api.Errno) { return expect.One(plan.Joined(a.read, a.r)) }},
		{"Loose", false, false, false, func(a arguments) (results, api.Errno) {
			s, e := plan.Loose(a.read, a.r)
			return results{s.N, s.Bounds}, e
		}},
		{"Misclosure", false, false, false, func(a arguments) (results, api.Errno) {
			return expect.Three(plan.Misclosure(a.read, a.r))
		}},
		{"CheckMisclosure", false, false, false, func(a arguments) (results, api.Errno) {
			return expect.One(plan.CheckMisclosure(a.read, a.r, a.circle, a.by))
		}},
		{"Suspects", false, false, false, func(a arguments) (results, api.Errno) { return expect.One(plan.Suspects(a.read, a.r)) }},
		{"Truth", false, false, false, func(a arguments) (results, api.Errno) {
			return expect.One(plan.Truth(a.read, a.r, a.reading))
		}},
		{"Adjust", false, false, false, func(a arguments) (results, api.Errno) {
			x, e := plan.Adjust(a.read, a.r)
			return results{x.Num, x.Den}, e
		}},
		{"Residuals", false, false, false, func(a arguments) (results, api.Errno) {
			return expect.One(plan.Residuals(a.read, a.r, a.a))
		}},
		{"Balanced", false, false, false, func(a arguments) (results, api.Errno) {
			return expect.One(plan.Balanced(a.read, a.r, a.a))
		}},
		{"Squares", false, false, false, func(a arguments) (results, api.Errno) {
			return expect.One(plan.Squares(a.read, a.r, a.a))
		}},
		{"CheckMeasures", false, false, false, func(a arguments) (results, api.Errno) {
			return nil, plan.CheckMeasures(a.measured, a.l)
		}},
		{"CheckReadings", false, false, false, func(a arguments) (results, api.Errno) {
			return nil, plan.CheckReadings(a.read, a.r)
		}},
	}
}

// empty says whether all results are zero values, where empty slices are as good as nil.
func empty(l results) bool {
	return !slices.ContainsFunc(l, func(x any) bool {
		v := reflect.ValueOf(x)
		return !v.IsZero() && (v.Kind() != reflect.Slice || v.Len() > 0)
	})
}

// alike says whether results are equal, where empty slices are as good as nil.
func alike(l, m results) bool {
	return slices.EqualFunc(l, m, func(x, y any) bool {
		return empty(results{x}) && empty(results{y}) || reflect.DeepEqual(x, y)
	})
}

// refused fails unless a call has an error, and nothing else.
func refused(t *testing.T, name string, c call, a arguments, want api.Errno) {
	t.Helper()
	l, e := c.run(a)
	expect.Errno(t, c.name+" with "+name, e, want)
	expect.Equal(t, c.name+" with "+name+" is empty", empty(l), true)
}

// The section Errors: those of the system come first, then those of measures, of a set and a point, then ErrCircle, then all others.
func TestErrorsInOrder(t *testing.T) {
	wrong := func() arguments {
		a := good()
		a.set, a.point, a.points, a.y, a.x, a.w = []int{9}, 9, []int{9}, []int{9}, api.Errand{Set: []int{9}}, api.Split{}
		return a
	}
	for _, c := range systemCalls() {
		for _, a := range []arguments{good(), wrong()} {
			a.l = slices.Repeat([]api.Measure{{A: 1, B: 1}}, 201)
			for name, x := range wrongSystems() {
				a.s = x.s
				refused(t, name+" and 201 measures", c, a, x.want)
			}
			a.s = contradiction()
			refused(t, "201 measures and a contradiction", c, a, api.ErrLimit)
			a.l = []api.Measure{{A: 0, B: 4}}
			refused(t, "a measure of no point and a contradiction", c, a, api.ErrArg)
		}
		a := good()
		a.s = contradiction()
		refused(t, "a contradiction", c, a, api.ErrCircle)
		a = wrong()
		a.s, a.point, a.points = contradiction(), 1, []int{1}
		want := api.ErrCircle
		if c.set {
			want = api.ErrArg
		}
		refused(t, "a wrong set and a contradiction", c, a, want)
		a.set, a.point, a.points = nil, 4, []int{4}
		want = api.ErrCircle
		if c.point {
			want = api.ErrArg
		}
		refused(t, "a wrong point and a contradiction", c, a, want)
		a.point, a.points = 1, []int{1}
		refused(t, "a contradiction and what is wrong else", c, a, api.ErrCircle)
	}
}

// wrongSystems returns systems that are not valid, with their errors.
func wrongSystems() map[string]struct {
	s    api.System
	want api.Errno
} {
	return map[string]struct {
		s    api.System
		want api.Errno
	}{
		"no points":                      {api.System{}, api.ErrArg},
		"129 points":                     {api.System{N: 129}, api.ErrLimit},
		"2001 bounds":                    {api.System{N: 7, Bounds: slices.Repeat([]api.Bound{bound(0, 1, 1, 1)}, 2001)}, api.ErrLimit},
		"a bound of equal points":        {plus(ground(), bound(3, 3, 1, 1)), api.ErrArg},
		"a bound to no point":            {plus(ground(), bound(3, 4, 1, 1)), api.ErrArg},
		"a wrong bound, a contradiction": {plus(contradiction(), bound(3, 1, 1000001, 1)), api.ErrArg},
		"numbers from end to end":        {api.System{N: math.MinInt, Bounds: []api.Bound{bound(math.MinInt, math.MaxInt, math.MinInt, math.MaxInt)}}, api.ErrArg},
	}
}

// The errors of readings come before all others.
func TestErrorsOfReadings(t *testing.T) {
	for _, c := range readingCalls() {
		if c.name == "CheckMeasures" {
			continue
		}
		wrong := good()
		wrong.reading, wrong.a, wrong.circle = -1, api.Adjusted{}, []int{-1}
		for _, a := range []arguments{good(), wrong} {
			a.r = slices.Repeat([]api.Reading{{}}, 41)
			for _, n := range []int{math.MinInt, -1, 0, 41, math.MaxInt} {
				a.read = n
				refused(t, "no such points", c, a, api.ErrArg)
			}
			a.read = 3
			refused(t, "41 readings", c, a, api.ErrLimit)
			a.r = append(read(), api.Reading{From: 1, To: 1, Weight: 1})
			refused(t, "a wrong reading", c, a, api.ErrArg)
		}
	}
}

// R3, R4: arguments stay as they are, also behind their end, results are new memory, and a call says the same again.
func TestMemory(t *testing.T) {
	for _, c := range calls() {
		a := roomy(good())
		before := a.clone()
		first, e := c.run(a)
		expect.Errno(t, c.name, e, api.OK)
		expect.Equal(t, c.name+" leaves its arguments", reflect.DeepEqual(a, before), true)
		expect.Equal(t, c.name+" leaves what lies behind them", untouched(a), true)
		want, _ := c.run(good())
		spoil(a)
		expect.Equal(t, c.name+" keeps no memory", alike(first, want), true)
		for i, x := range first {
			if v := reflect.ValueOf(x); v.Kind() == reflect.Slice {
				v.Slice(0, v.Cap()).Clear()
				for k := i + 1; k < len(first); k++ {
					expect.Equal(t, c.name+": results apart", reflect.DeepEqual(first[k], want[k]), true)
				}
			}
		}
		for range 3 {
			again, _ := c.run(good())
			expect.Equal(t, c.name+" says the same again", alike(again, want), true)
		}
	}
}

// R3: classes share no memory with each other.
func TestMemoryOfClasses(t *testing.T) {
	one, _ := plan.Tied(ground(), offered(), nil)
	two, _ := plan.Joined(3, read()[:1])
	for _, classes := range [][][]int{one, two} {
		for i := range classes {
			_ = append(classes[i], 77)
		}
		for i, class := range classes {
			expect.Equal(t, "a class", class[0] == 77 || i > 0 && class[0] <= classes[i-1][0], false)
		}
	}
}

// roomy returns arguments whose lists have room behind their end, with 77 in it.
func roomy(a arguments) arguments {
	for _, l := range a.lists() {
		*l = append(slices.Clone(*l), slices.Repeat([]int{77}, 9)...)[:len(*l)]
	}
	a.s.Bounds = append(slices.Clone(a.s.Bounds), slices.Repeat([]api.Bound{bound(77, 77, 77, 77)}, 9)...)[:len(a.s.Bounds)]
	a.l = append(slices.Clone(a.l), slices.Repeat([]api.Measure{{A: 77}}, 9)...)[:len(a.l)]
	a.r = append(slices.Clone(a.r), slices.Repeat([]api.Reading{{From: 77}}, 9)...)[:len(a.r)]
	return a
}

// behind returns what lies behind the end of a list.
func behind[T any](l []T) []T { return l[len(l) : len(l)+9] }

// untouched says whether nothing has changed behind the lists of roomy arguments.
func untouched(a arguments) bool {
	for _, l := range a.lists() {
		if !slices.Equal(behind(*l), slices.Repeat([]int{77}, 9)) {
			return false
		}
	}
	return slices.Equal(behind(a.s.Bounds), slices.Repeat([]api.Bound{bound(77, 77, 77, 77)}, 9)) &&
		slices.Equal(behind(a.l), slices.Repeat([]api.Measure{{A: 77}}, 9)) && slices.Equal(behind(a.r), slices.Repeat([]api.Reading{{From: 77}}, 9))
}

// spoil overwrites the memory of arguments.
func spoil(a arguments) {
	for _, l := range a.lists() {
		clear(*l)
	}
	clear(a.s.Bounds)
	clear(a.l)
	clear(a.r)
}

// R3: nil and empty lists are the same.
func TestNilAndEmpty(t *testing.T) {
	for _, c := range calls() {
		one := arguments{s: api.System{N: 4}, measured: 4, read: 3}
		two := arguments{s: api.System{N: 4, Bounds: []api.Bound{}}, l: []api.Measure{}, r: []api.Reading{}, measured: 4, read: 3}
		for _, l := range two.lists() {
			*l = []int{}
		}
		for _, base := range []arguments{{}, good()} {
			one.point, two.point = base.point, base.point
			one.a.Den, two.a.Den = base.a.Den, base.a.Den
			l, e := c.run(one)
			m, g := c.run(two)
			expect.Equal(t, c.name, alike(l, m), true)
			expect.Errno(t, c.name, g, e)
		}
	}
}

// some returns a number that is often small, and otherwise at an end of what is allowed.
func some(r *rand.Rand) int {
	if r.IntN(3) > 0 {
		return r.IntN(6)
	}
	ends := []int{
		math.MinInt, math.MinInt + 1, -1000000000000, -100000000000, -400000001, -1000001, -1000000, -100000, -1, 0, 1, 3, 4, 40, 41, 128, 129, 200, 201,
		100000, 100001, 1000000, 1000001, 20000000, 20000001, 400000001, 100000000000, 100000000001, 1000000000000, 1000000000001, math.MaxInt - 1, math.MaxInt,
	}
	return ends[r.IntN(len(ends))]
}

// wild returns good arguments of which some are replaced by anything.
func wild(r *rand.Rand) arguments {
	a := good()
	for _, l := range a.lists() {
		if r.IntN(3) == 0 {
			*l = make([]int, r.IntN(6))
		}
		if len(*l) > 0 && r.IntN(3) == 0 {
			(*l)[r.IntN(len(*l))] = some(r)
		}
	}
	for _, p := range []*int{&a.point, &a.measured, &a.read, &a.by, &a.reading, &a.x.Cost, &a.w.Times, &a.a.Den} {
		if r.IntN(3) == 0 {
			*p = some(r)
		}
	}
	switch r.IntN(5) {
	case 0:
		a.s.N = some(r)
	case 1:
		a.s.Bounds[r.IntN(8)] = bound(some(r), some(r), some(r), some(r))
	case 2:
		a.s.Bounds = a.s.Bounds[:r.IntN(9)]
	}
	switch r.IntN(4) {
	case 0:
		a.l[r.IntN(4)] = api.Measure{A: some(r), B: some(r), Cost: some(r)}
	case 1:
		a.r[r.IntN(3)] = api.Reading{From: some(r), To: some(r), Size: some(r), Slack: some(r), Weight: some(r)}
	case 2:
		a.l, a.r = a.l[:r.IntN(5)], a.r[:r.IntN(4)]
	}
	return a
}

// R1, R2: whatever the arguments are, all functions return, and errors leave nothing.
func TestWildArguments(t *testing.T) {
	r := rand.New(rand.NewPCG(1, 19))
	for range 8000 {
		a := wild(r)
		for _, c := range calls() {
			if l, e := c.run(a); e != api.OK && !empty(l) {
				t.Fatalf("%s has error %d and %v of %v", c.name, e, l, a)
			}
		}
	}
}

// The section Limits, and the numbers of errors.
func TestNumbers(t *testing.T) {
	for _, x := range []struct {
		name      string
		got, want int
	}{
		{"MaxMeasures", api.MaxMeasures, 200}, {"MaxReadings", api.MaxReadings, 40}, {"MaxCost", api.MaxCost, 100000}, {"MaxTimes", api.MaxTimes, 200},
		{"MaxTree", api.MaxTree, 6}, {"MaxKnots", api.MaxKnots, 4}, {"MaxTies", api.MaxTies, 10}, {"MaxHeavy", api.MaxHeavy, 3}, {"MaxMost", api.MaxMost, 1000000},
		{"MaxBounds", api.MaxBounds, 2000}, {"ErrFar", int(api.ErrFar), 60}, {"ErrCircle", int(api.ErrCircle), 10},
	} {
		expect.Equal(t, x.name, x.got, x.want)
	}
}
