package right_test

import (
	"math"
	"math/rand/v2"
	"reflect"
	"slices"
	"testing"

	"merestone/api"
	"merestone/expect"
	"merestone/right"
)

// The chapter's table of examples: what is asked of the register.
func TestExamplesOfRolls(t *testing.T) {
	l := example(t)
	expect.Equal(t, "Total", right.Total(l, 0), 1400)
	expect.Equal(t, "Total", right.Total(l, 8), 1400)
	expect.List(t, "Lots", right.Lots(l, 8), 11, 12, 20)
	expect.Equal(t, "Parts", right.Parts(l, 5, 10, 3), 2520)
	expect.Equal(t, "Parts", right.Parts(l, 8, 12, 3), 2520)
	expect.Equal(t, "Parts", right.Parts(l, 9, 11, 1), 5040)
	expect.List(t, "Over", right.Over(l, 8, 12), 20)
	expect.List(t, "For", right.For(l, 8, 20), 11, 12)
	expect.List(t, "For", right.For(l, 12, 20), 11)
	expect.Equal(t, "Beasts", right.Beasts(l, 8, 11), 12)
	expect.Equal(t, "Grazes", right.Grazes(l, 8, 12, 4), 12)
	changed, e := right.Changed(l, 8, 9)
	expect.Errno(t, "Changed", e, api.OK)
	expect.List(t, "Changed", changed, 11)
	expect.List(t, "Owns", right.Owns(l, 12, 3), 12)
}

// The chapter's table of examples: titles, what falls, and what is refused.
func TestExamplesOfTitles(t *testing.T) {
	l := example(t)
	line, e := right.Line(l, 12)
	expect.Errno(t, "Line", e, api.OK)
	expect.List(t, "Line", line, 1, 6)
	roots, e := right.Roots(l, 12)
	expect.Errno(t, "Roots", e, api.OK)
	expect.List(t, "Roots", roots, 10)
	for id, want := range map[int][]int{3: {3, 7}, 4: {4, 8}, 1: {1, 3, 4, 5, 6, 7, 8}} {
		falls, e := right.Falls(l, id)
		expect.Errno(t, "Falls", e, api.OK)
		expect.List(t, "Falls", falls, want...)
	}
	needs, e := right.Needs(l, 7)
	expect.Errno(t, "Needs", e, api.OK)
	expect.List(t, "Needs", needs, 1, 3, 6)
	for line, want := range map[string]api.Errno{"9 12 merge 13 11 12": api.ErrUnlike, "9 12 grant 12 3 5 2521": api.ErrShort, "9 12 enter 10 1 5": api.ErrTwice} {
		_, e := right.Append(l, deal(t, line))
		expect.Errno(t, "Append of "+line, e, want)
	}
}

// arguments is all that functions of the package may be given.
type arguments struct {
	l                                    []api.Deal
	x                                    api.Deal
	a, b                                 api.Roll
	line                                 string
	day, from, to, lot, owner, other, id int
}

// good returns arguments with which no function has an error, or an empty result.
func good(t *testing.T) arguments {
	t.Helper()
	a := arguments{l: example(t), x: deal(t, "9 12 divide 11 13 150 14 250"), line: "1 0 divide 5 6 7 8 9", day: 9, from: 0, to: 12, lot: 11, owner: 3, other: 20, id: 6}
	a.l = append(a.l, deal(t, "15 12 grant 12 3 1 2520"), deal(t, "16 13 way 20 12"))
	a.a, _ = right.Roll(a.l, 8)
	a.b, _ = right.Roll(a.l, 8)
	return a
}

// cloneRoll returns a roll in memory of its own.
func cloneRoll(x api.Roll) api.Roll {
	x.Lots, x.Eases, x.Stints = slices.Clone(x.Lots), slices.Clone(x.Eases), slices.Clone(x.Stints)
	for i := range x.Lots {
		x.Lots[i].Holdings = slices.Clone(x.Lots[i].Holdings)
	}
	return x
}

// clone returns arguments in memory of their own.
func (a arguments) clone() arguments {
	a.l, a.x = clone(a.l), clone([]api.Deal{a.x})[0]
	a.a, a.b = cloneRoll(a.a), cloneRoll(a.b)
	return a
}

type results = []any

// call is a function of the package; its results without the error, and the error, if it returns one.
type call struct {
	name     string
	register bool // it is given a register
	errs     bool // it returns an error
	run      func(a arguments) (results, api.Errno)
}

// calls returns all functions.
func calls() []call { return slices.Concat(rollCalls(), titleCalls(), otherCalls()) }

// rollCalls returns the functions that ask for what is there on a day.
func rollCalls() []call {
	plain := func(x any) (results, api.Errno) { return results{x}, api.OK }
	return []call{
		{"Roll", true, true, func(a arguments) (results, api.Errno) {
			x, e := right.Roll(a.l, a.day)
			return results{x.Lots, x.Eases, x.Stints}, e
		}},
		{"Total", true, false, func(a arguments) (results, api.Errno) { return plain(right.Total(a.l, a.day)) }},
		{"Lots", true, false, func(a arguments) (results, api.Errno) { return plain(right.Lots(a.l, a.day)) }},
		{"LotOf", true, true, func(a arguments) (results, api.Errno) {
			x, e := right.LotOf(a.l, a.day, a.lot)
			return results{x.Number, x.Size, x.Holdings}, e
		}},
		{"Parts", true, false, func(a arguments) (results, api.Errno) { return plain(right.Parts(a.l, a.day, a.lot, 1)) }},
		{"Owns", true, false, func(a arguments) (results, api.Errno) { return plain(right.Owns(a.l, a.day, a.owner)) }},
		{"Over", true, false, func(a arguments) (results, api.Errno) { return plain(right.Over(a.l, a.day, a.lot)) }},
		{"For", true, false, func(a arguments) (results, api.Errno) { return plain(right.For(a.l, a.day, a.other)) }},
		{"May", true, false, func(a arguments) (results, api.Errno) { return plain(right.May(a.l, a.day, a.other, a.lot)) }},
		{"Beasts", true, false, func(a arguments) (results, api.Errno) { return plain(right.Beasts(a.l, a.day, a.lot)) }},
		{"Grazes", true, false, func(a arguments) (results, api.Errno) { return plain(right.Grazes(a.l, a.day, a.lot, 4)) }},
		{"Changed", true, true, func(a arguments) (results, api.Errno) { return expect.One(right.Changed(a.l, a.from, a.to)) }},
		{"Tidy", true, true, func(a arguments) (results, api.Errno) { return expect.One(right.Tidy(a.l, a.day)) }},
	}
}

// titleCalls returns the functions that ask for deals.
func titleCalls() []call {
	return []call{
		{"Line", true, true, func(a arguments) (results, api.Errno) { return expect.One(right.Line(a.l, a.lot)) }},
		{"Roots", true, true, func(a arguments) (results, api.Errno) { return expect.One(right.Roots(a.l, a.lot)) }},
		{"Falls", true, true, func(a arguments) (results, api.Errno) { return expect.One(right.Falls(a.l, a.id)) }},
		{"Without", true, true, func(a arguments) (results, api.Errno) { return expect.One(right.Without(a.l, a.id-1)) }},
		{"Needs", true, true, func(a arguments) (results, api.Errno) { return expect.One(right.Needs(a.l, a.id)) }},
	}
}

// otherCalls returns the functions that take any list, or none.
func otherCalls() []call {
	return []call{
		{"Check", false, true, func(a arguments) (results, api.Errno) {
			_, e := right.Check(a.l)
			return nil, e
		}},
		{"CheckDeal", false, true, func(a arguments) (results, api.Errno) { return nil, right.CheckDeal(a.x) }},
		{"Append", false, true, func(a arguments) (results, api.Errno) {
			a.l = a.l[:min(len(a.l), 8)]
			return expect.One(right.Append(a.l, a.x))
		}},
		{"On", false, false, func(a arguments) (results, api.Errno) { return results{right.On(a.l, a.day)}, api.OK }},
		{"Write", false, true, func(a arguments) (results, api.Errno) { return expect.One(right.Write(a.x)) }},
		{"Read", false, true, func(a arguments) (results, api.Errno) {
			x, e := right.Read(a.line)
			return results{x.Id, x.Kind, x.Lot, x.Into, x.Sizes}, e
		}},
		{"Same", false, false, func(a arguments) (results, api.Errno) { return results{right.Same(a.a, a.b)}, api.OK }},
	}
}

// empty says whether all results are zero values, where empty slices are as good as nil.
func empty(l results) bool {
	return !slices.ContainsFunc(l, func(x any) bool {
		v := reflect.ValueOf(x)
		return !v.IsZero() && (v.Kind() != reflect.Slice || v.Len() > 0)
	})
}

// alike says whether two results are equal, where empty lists are as good as nil.
func alike(x, y any) bool {
	l, deals := x.([]api.Deal)
	m, too := y.([]api.Deal)
	return deals && too && slices.EqualFunc(l, m, isSame) || reflect.DeepEqual(x, y)
}

// The error of Check comes first; functions without an error return zero values then.
func TestErrorsInOrder(t *testing.T) {
	for _, c := range calls() {
		l, e := c.run(good(t))
		expect.Errno(t, c.name, e, api.OK)
		expect.Equal(t, c.name+" says something", len(l) == 0 || !empty(l), true)
		if !c.register {
			continue
		}
		for line, want := range map[string]api.Errno{
			"6 20 enter 50 1 1": api.ErrTwice, "99 1 enter 50 1 1": api.ErrTime, "99 20 end 10 1": api.ErrNone, "99 20 enter 10 1 1": api.ErrTwice,
			"99 20 grant 12 7 1 1": api.ErrShort, "99 20 divide 12 50 1 51 1": api.ErrUnlike,
		} {
			a := good(t)
			a.l = append(a.l, deal(t, line))
			wrong := a.clone()
			wrong.day, wrong.lot, wrong.id = -1, -1, -1
			for _, a := range []arguments{a, wrong} {
				l, e := c.run(a)
				expect.Equal(t, c.name+" of what is refused is empty", empty(l), true)
				if c.errs {
					expect.Errno(t, c.name+" of what is refused", e, want)
				}
			}
		}
		a := good(t)
		a.l = append(a.l, make([]api.Deal, 500)...)
		l, e = c.run(a)
		expect.Equal(t, c.name+" of zero deals is empty", empty(l), true)
		if c.errs {
			expect.Errno(t, c.name+" of zero deals", e, api.ErrArg)
		}
	}
}

// R3, R4: arguments stay as they are, also behind their end, results are new memory, and a call says the same again.
func TestMemory(t *testing.T) {
	for _, c := range calls() {
		a := roomy(good(t))
		before := a.clone()
		first, e := c.run(a)
		expect.Errno(t, c.name, e, api.OK)
		expect.Equal(t, c.name+" leaves its arguments", reflect.DeepEqual(a, before), true)
		expect.Equal(t, c.name+" leaves what lies behind them", untouched(a), true)
		want, _ := c.run(good(t))
		spoil(a)
		expect.Equal(t, c.name+" keeps no memory", slices.EqualFunc(first, want, alike), true)
		for i, x := range first {
			if v := reflect.ValueOf(x); v.Kind() == reflect.Slice {
				v.Slice(0, v.Cap()).Clear()
				for k := i + 1; k < len(first); k++ {
					expect.Equal(t, c.name+": results apart", reflect.DeepEqual(first[k], want[k]), true)
				}
			}
		}
		for range 3 {
			again, _ := c.run(good(t))
			expect.Equal(t, c.name+" says the same again", reflect.DeepEqual(again, want), true)
		}
	}
}

// R3: lists within results share no memory with each other.
func TestMemoryWithinResults(t *testing.T) {
	roll, _ := right.Roll(example(t), 8)
	for i := range roll.Lots {
		_ = append(roll.Lots[i].Holdings, api.Holding{Owner: 77})
		clear(roll.Lots[i].Holdings)
		for k := i + 1; k < len(roll.Lots); k++ {
			expect.Equal(t, "a holding of another lot", roll.Lots[k].Holdings[0].Parts > 0, true)
		}
	}
	l := example(t)
	for _, lists := range [][]api.Deal{right.On(l, 8), left(right.Without(l, 8)), left(right.Append(l, deal(t, "9 12 end 11 4")))} {
		clear(lists[5].Into)
		clear(lists[5].Sizes)
		expect.List(t, "Into of the argument", l[5].Into, 11, 12)
		expect.List(t, "Sizes of the argument", l[5].Sizes, 400, 500)
	}
	x := deal(t, "9 12 divide 12 15 200 16 300")
	longer, _ := right.Append(l, x)
	clear(longer[8].Into)
	clear(longer[8].Sizes)
	expect.List(t, "Into of the deal", x.Into, 15, 16)
	expect.List(t, "Sizes of the deal", x.Sizes, 200, 300)
}

// left returns the first result of a call.
func left(l []api.Deal, _ api.Errno) []api.Deal { return l }

// room is what lies behind the lists of roomy arguments.
var room = api.Deal{Id: 77}

// roomy returns arguments whose lists have room behind their end, with 77 in it.
func roomy(a arguments) arguments {
	behind := func(l []int) []int { return append(slices.Clone(l), 77, 77, 77)[:len(l)] }
	for i := range a.l {
		a.l[i].Into, a.l[i].Sizes = behind(a.l[i].Into), behind(a.l[i].Sizes)
	}
	a.x.Into, a.x.Sizes = behind(a.x.Into), behind(a.x.Sizes)
	a.l = append(slices.Clone(a.l), room, room, room)[:len(a.l)]
	return a
}

// untouched says whether nothing has changed behind the lists of roomy arguments.
func untouched(a arguments) bool {
	whole := func(l []int) bool { return slices.Equal(l[len(l):len(l)+3], []int{77, 77, 77}) }
	for _, x := range append(slices.Clone(a.l), a.x) {
		if !whole(x.Into) || !whole(x.Sizes) {
			return false
		}
	}
	return slices.EqualFunc(a.l[len(a.l):len(a.l)+3], []api.Deal{room, room, room}, isSame)
}

// spoil overwrites the memory of arguments.
func spoil(a arguments) {
	for _, x := range append(slices.Clone(a.l), a.x) {
		clear(x.Into)
		clear(x.Sizes)
	}
	clear(a.l)
	for _, x := range []api.Roll{a.a, a.b} {
		for _, lot := range x.Lots {
			clear(lot.Holdings)
		}
		clear(x.Lots)
		clear(x.Eases)
		clear(x.Stints)
	}
}

// R3: nil and empty lists are the same.
func TestNilAndEmpty(t *testing.T) {
	for _, c := range calls() {
		one := arguments{day: 5}
		two := arguments{l: []api.Deal{}, x: api.Deal{Into: []int{}, Sizes: []int{}}, a: api.Roll{Lots: []api.Lot{}, Eases: []api.Ease{}, Stints: []api.Stint{}}, day: 5}
		l, e := c.run(one)
		m, g := c.run(two)
		expect.Errno(t, c.name, g, e)
		expect.Equal(t, c.name, empty(l) == empty(m), true)
		filled, hollow := good(t), good(t)
		for i := range hollow.l {
			hollow.l[i].Into, hollow.l[i].Sizes = append([]int{}, hollow.l[i].Into...), append([]int{}, hollow.l[i].Sizes...)
		}
		l, _ = c.run(filled)
		m, e = c.run(hollow)
		expect.Errno(t, c.name, e, api.OK)
		expect.Equal(t, c.name, len(l) == len(m) && empty(l) == empty(m), true)
	}
}

// strange returns a number that is often small, and otherwise at an end of what is allowed.
func strange(r *rand.Rand) int {
	if r.IntN(2) > 0 {
		return r.IntN(25)
	}
	ends := []int{
		math.MinInt, math.MinInt + 1, -1000001, -1, 0, 1, 1000, 1001, 5040, 5041, 100000, 100001, 1000000, 1000001, 10000000000, 10000000001, math.MaxInt - 1, math.MaxInt,
	}
	return ends[r.IntN(len(ends))]
}

// wild returns good arguments of which some are replaced by anything.
func wild(t *testing.T, r *rand.Rand) arguments {
	a := good(t)
	for _, p := range []*int{&a.day, &a.from, &a.to, &a.lot, &a.owner, &a.other, &a.id} {
		if r.IntN(3) == 0 {
			*p = strange(r)
		}
	}
	for _, x := range []*api.Deal{&a.x, &a.l[r.IntN(len(a.l))]} {
		if r.IntN(3) == 0 {
			continue
		}
		for _, p := range []*int{&x.Id, &x.Day, &x.Lot, &x.Other, &x.From, &x.To, &x.Parts, &x.Size} {
			if r.IntN(5) == 0 {
				*p = strange(r)
			}
		}
		if r.IntN(4) == 0 {
			x.Kind = uint8(r.IntN(11))
		}
		if r.IntN(4) == 0 {
			x.Into = []int{strange(r), strange(r), strange(r)}[:r.IntN(4)]
		}
		if r.IntN(4) == 0 {
			x.Sizes = []int{strange(r), strange(r), strange(r)}[:r.IntN(4)]
		}
	}
	if len(a.a.Lots) > 0 && r.IntN(3) == 0 {
		a.a.Lots[0] = api.Lot{Number: strange(r), Size: strange(r)}
	}
	at := r.IntN(len(a.line))
	a.line = a.line[:at] + string(rune(r.IntN(300))) + a.line[at:]
	return a
}

// R1, R2: whatever the arguments are, all functions return, and errors leave nothing.
func TestWildArguments(t *testing.T) {
	r := rand.New(rand.NewPCG(1, 27))
	for range 4000 {
		a := wild(t, r)
		for _, c := range calls() {
			if l, e := c.run(a); e != api.OK && !empty(l) {
				t.Fatalf("%s has error %d and %v of %v", c.name, e, l, a)
			}
		}
	}
}

// The section Limits, and the numbers of kinds and errors.
func TestNumbers(t *testing.T) {
	for _, x := range []struct {
		name      string
		got, want int
	}{
		{"Whole", api.Whole, 5040}, {"MaxDeals", api.MaxDeals, 400}, {"MaxInto", api.MaxInto, 10}, {"MaxSize", api.MaxSize, 10000000000}, {"MaxBeasts", api.MaxBeasts, 1000},
		{"MaxDay", api.MaxDay, 100000}, {"MaxId", api.MaxId, 1000000}, {"DealEnter", int(api.DealEnter), 1}, {"DealGrant", int(api.DealGrant), 2}, {"DealDivide", int(api.DealDivide), 3},
		{"DealMerge", int(api.DealMerge), 4}, {"DealWay", int(api.DealWay), 5}, {"DealRelease", int(api.DealRelease), 6}, {"DealStint", int(api.DealStint), 7}, {"DealEnd", int(api.DealEnd), 8},
		{"ErrShort", int(api.ErrShort), 70}, {"ErrUnlike", int(api.ErrUnlike), 71},
	} {
		expect.Equal(t, x.name, x.got, x.want)
	}
}
