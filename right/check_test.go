package right_test

import (
	"math"
	"math/rand/v2"
	"slices"
	"strconv"
	"testing"

	"merestone/api"
	"merestone/expect"
	"merestone/right"
)

// formed returns a well-formed deal of each kind.
func formed() []api.Deal {
	return []api.Deal{
		{Id: 1, Kind: api.DealEnter, Lot: 2, To: 3, Size: 4},
		{Id: 1, Kind: api.DealGrant, Lot: 2, From: 3, To: 4, Parts: 5},
		{Id: 1, Kind: api.DealDivide, Lot: 2, Into: []int{3, 4}, Sizes: []int{5, 6}},
		{Id: 1, Kind: api.DealMerge, Lot: 2, Into: []int{3, 4}},
		{Id: 1, Kind: api.DealWay, Lot: 2, Other: 3},
		{Id: 1, Kind: api.DealRelease, Lot: 2, Other: 3},
		{Id: 1, Kind: api.DealStint, Lot: 2, To: 3, Size: 4},
		{Id: 1, Kind: api.DealEnd, Lot: 2, To: 3},
	}
}

// numbers returns the numbers of a deal by their names.
func numbers(x *api.Deal) map[string]*int {
	return map[string]*int{"Id": &x.Id, "Day": &x.Day, "Lot": &x.Lot, "Other": &x.Other, "From": &x.From, "To": &x.To, "Parts": &x.Parts, "Size": &x.Size}
}

// highest returns the greatest number that a field of a kind may have; -1 if it is not used.
func highest(kind uint8, field string) int {
	switch {
	case field == "Id", field == "Lot":
		return 1000000
	case field == "Day":
		return 100000
	case field == "Size" && kind == api.DealEnter:
		return 10000000000
	case field == "Size" && kind == api.DealStint:
		return 1000
	case field == "Parts" && kind == api.DealGrant:
		return 5040
	case field == "From" && kind == api.DealGrant, field == "Other" && (kind == api.DealWay || kind == api.DealRelease):
		return 1000000
	case field == "To" && (kind == api.DealEnter || kind == api.DealGrant || kind == api.DealStint || kind == api.DealEnd):
		return 1000000
	}
	return -1
}

// G1: each number of each kind at its ends, and one beyond each; numbers that are not used.
func TestNumbersOfDeals(t *testing.T) {
	for _, base := range formed() {
		expect.Errno(t, "a deal", right.CheckDeal(base), api.OK)
		for name := range numbers(&base) {
			high := highest(base.Kind, name)
			low := 1
			if name == "Day" {
				low = 0
			}
			want := map[int]api.Errno{low - 1: api.ErrArg, low: api.OK, high: api.OK, high + 1: api.ErrArg, math.MinInt: api.ErrArg, math.MaxInt: api.ErrArg}
			if high < 0 {
				want = map[int]api.Errno{0: api.OK, 1: api.ErrArg, -1: api.ErrArg, math.MinInt: api.ErrArg, math.MaxInt: api.ErrArg}
			}
			for n, e := range want {
				x := base
				*numbers(&x)[name] = n
				expect.Errno(t, name+" "+strconv.Itoa(n)+" of the kind "+strconv.Itoa(int(x.Kind)), right.CheckDeal(x), e)
			}
		}
	}
}

// G1: kinds that there are not, lots and owners that must differ, and lists.
func TestShapesOfDeals(t *testing.T) {
	many := func(count int) []int {
		var l []int
		for i := range count {
			l = append(l, i+3)
		}
		return l
	}
	kind := func(k uint8) api.Deal { return formed()[k-1] }
	with := func(x api.Deal, into, sizes []int) api.Deal {
		x.Into, x.Sizes = into, sizes
		return x
	}
	for _, x := range []struct {
		name string
		x    api.Deal
		want api.Errno
	}{
		{"no kind", api.Deal{Id: 1, Lot: 2}, api.ErrArg},
		{"nothing", api.Deal{}, api.ErrArg},
		{"the kind 9", api.Deal{Id: 1, Kind: 9, Lot: 2, To: 3}, api.ErrArg},
		{"the kind 255", api.Deal{Id: 1, Kind: 255, Lot: 2, To: 3}, api.ErrArg},
		{"a grant to the owner", api.Deal{Id: 1, Kind: api.DealGrant, Lot: 2, From: 3, To: 3, Parts: 5}, api.ErrArg},
		{"a way over the lot", api.Deal{Id: 1, Kind: api.DealWay, Lot: 2, Other: 2}, api.ErrArg},
		{"a release of the lot", api.Deal{Id: 1, Kind: api.DealRelease, Lot: 2, Other: 2}, api.ErrArg},
		{"an owner with the number of the lot", api.Deal{Id: 1, Kind: api.DealEnd, Lot: 2, To: 2}, api.OK},
		{"into one", with(kind(3), many(1), many(1)), api.ErrArg},
		{"into none", with(kind(3), nil, nil), api.ErrArg},
		{"into ten", with(kind(3), many(10), many(10)), api.OK},
		{"into eleven", with(kind(3), many(11), many(11)), api.ErrArg},
		{"sizes too few", with(kind(3), many(3), many(2)), api.ErrArg},
		{"sizes too many", with(kind(3), many(2), many(3)), api.ErrArg},
		{"no sizes", with(kind(3), many(2), nil), api.ErrArg},
		{"a lot twice", with(kind(3), []int{3, 4, 3}, many(3)), api.ErrArg},
		{"into the lot itself", with(kind(3), []int{2, 4}, many(2)), api.OK},
		{"the lot 0", with(kind(3), []int{3, 0}, many(2)), api.ErrArg},
		{"the lot 1000000", with(kind(3), []int{3, 1000000}, many(2)), api.OK},
		{"the lot 1000001", with(kind(3), []int{3, 1000001}, many(2)), api.ErrArg},
		{"the size 0", with(kind(3), many(2), []int{1, 0}), api.ErrArg},
		{"the size 1", with(kind(3), many(2), []int{1, 1}), api.OK},
		{"the size 10000000000", with(kind(3), many(2), []int{1, 10000000000}), api.OK},
		{"the size 10000000001", with(kind(3), many(2), []int{1, 10000000001}), api.ErrArg},
		{"equal sizes", with(kind(3), many(2), []int{7, 7}), api.OK},
		{"merging one", with(kind(4), many(1), nil), api.ErrArg},
		{"merging none", with(kind(4), nil, nil), api.ErrArg},
		{"merging ten", with(kind(4), many(10), nil), api.OK},
		{"merging eleven", with(kind(4), many(11), nil), api.ErrArg},
		{"merging with sizes", with(kind(4), many(2), many(2)), api.ErrArg},
		{"merging a lot twice", with(kind(4), []int{3, 3}, nil), api.ErrArg},
		{"merging into one of them", with(kind(4), []int{2, 3}, nil), api.OK},
		{"merging the lot 0", with(kind(4), []int{0, 3}, nil), api.ErrArg},
		{"merging the lot 1000001", with(kind(4), []int{3, 1000001}, nil), api.ErrArg},
	} {
		expect.Errno(t, x.name, right.CheckDeal(x.x), x.want)
	}
	for _, x := range formed() {
		if x.Kind == api.DealDivide || x.Kind == api.DealMerge {
			continue
		}
		expect.Errno(t, "a list Into", right.CheckDeal(with(x, many(2), nil)), api.ErrArg)
		expect.Errno(t, "a list Sizes", right.CheckDeal(with(x, nil, many(2))), api.ErrArg)
		expect.Errno(t, "empty lists", right.CheckDeal(with(x, []int{}, []int{})), api.OK)
	}
}

// G1: which deals are possible, and why others are not, in the order of the errors.
func TestPossible(t *testing.T) {
	before := deals(t, `1 5 enter 10 1 900
2 5 enter 20 1 500
3 5 enter 30 2 500
4 5 way 10 20
5 5 stint 10 4 12
6 5 divide 30 31 200 32 300
7 5 enter 40 1 10000000000
8 5 enter 50 1 1
9 5 stint 20 4 12
10 5 grant 20 1 3 5
11 5 enter 60 1 7
12 5 stint 60 4 13
13 5 enter 70 1 7
14 5 enter 80 1 9999999999`)
	for line, want := range map[string]api.Errno{
		"99 5 enter 90 1 5":               api.OK,
		"99 5 enter 10 1 5":               api.ErrTwice,
		"99 5 enter 30 1 5":               api.ErrTwice,
		"99 5 enter 31 1 5":               api.ErrTwice,
		"99 5 grant 10 1 2 5040":          api.OK,
		"99 5 grant 20 1 2 5035":          api.OK,
		"99 5 grant 20 1 2 5036":          api.ErrShort,
		"99 5 grant 10 2 1 1":             api.ErrShort,
		"99 5 grant 30 2 1 1":             api.ErrNone,
		"99 5 grant 90 2 1 1":             api.ErrNone,
		"99 5 divide 10 11 400 12 500":    api.OK,
		"99 5 divide 10 11 400 12 501":    api.ErrUnlike,
		"99 5 divide 10 11 400 12 499":    api.ErrUnlike,
		"99 5 divide 10 11 1 12 1 10 1":   api.ErrTwice,
		"99 5 divide 10 11 400 20 501":    api.ErrTwice,
		"99 5 divide 10 30 400 12 500":    api.ErrTwice,
		"99 5 divide 30 33 200 34 300":    api.ErrNone,
		"99 5 divide 30 10 200 34 301":    api.ErrNone,
		"99 5 merge 90 31 32":             api.OK,
		"99 5 merge 90 50 70 13":          api.ErrNone,
		"99 5 merge 90 50 70":             api.OK,
		"99 5 merge 90 31 30":             api.ErrNone,
		"99 5 merge 31 30 32":             api.ErrNone,
		"99 5 merge 30 31 32":             api.ErrTwice,
		"99 5 merge 31 31 32":             api.ErrTwice,
		"99 5 merge 10 31 20":             api.ErrTwice,
		"99 5 merge 90 31 70":             api.ErrUnlike,
		"99 5 merge 90 10 20":             api.ErrUnlike,
		"99 5 merge 90 10 60":             api.ErrUnlike,
		"99 5 merge 90 10 70":             api.ErrUnlike,
		"99 5 merge 90 70 10":             api.ErrUnlike,
		"99 5 merge 90 40 50":             api.ErrUnlike,
		"99 5 merge 90 80 50":             api.OK,
		"99 5 merge 90 80 50 70":          api.ErrUnlike,
		"99 5 way 20 10":                  api.OK,
		"99 5 way 10 20":                  api.ErrTwice,
		"99 5 way 10 30":                  api.ErrNone,
		"99 5 way 30 10":                  api.ErrNone,
		"99 5 release 10 20":              api.OK,
		"99 5 release 20 10":              api.ErrNone,
		"99 5 release 30 90":              api.ErrNone,
		"99 5 stint 10 5 1000":            api.OK,
		"99 5 stint 10 4 12":              api.ErrTwice,
		"99 5 stint 31 4 12":              api.OK,
		"99 5 stint 30 4 12":              api.ErrNone,
		"99 5 end 10 4":                   api.OK,
		"99 5 end 10 5":                   api.ErrNone,
		"99 5 end 30 4":                   api.ErrNone,
		"5 5 enter 90 1 5":                api.ErrTwice,
		"5 4 enter 90 1 5":                api.ErrTwice,
		"99 4 enter 90 1 5":               api.ErrTime,
		"99 4 enter 10 1 5":               api.ErrTime,
		"99 0 grant 30 2 1 1":             api.ErrTime,
		"99 6 grant 10 1 2 5":             api.OK,
		"99 100000 merge 90 20 31 32 999": api.ErrNone,
	} {
		got, e := right.Append(before, deal(t, line))
		expect.Errno(t, "Append of "+line, e, want)
		at, e := right.Check(append(clone(before), deal(t, line)))
		expect.Errno(t, "Check of "+line, e, want)
		if want == api.OK {
			expect.Equal(t, "the index for "+line, at, 0)
			expect.Equal(t, "Append of "+line, slices.EqualFunc(got, append(clone(before), deal(t, line)), isSame), true)
			continue
		}
		expect.Equal(t, "the index for "+line, at, len(before))
		expect.Equal(t, "Append of "+line, len(got), 0)
	}
}

// G1: the first deal that is refused decides; more than 400.
func TestCheck(t *testing.T) {
	at, e := right.Check(nil)
	expect.Errno(t, "Check of none", e, api.OK)
	expect.Equal(t, "Check of none", at, 0)
	long := func(count int) []api.Deal {
		l := []api.Deal{{Id: 1, Kind: api.DealEnter, Lot: 1, To: 1, Size: 1}}
		for i := 1; i < count; i++ {
			l = append(l, api.Deal{Id: i + 1, Kind: api.DealStint, Lot: 1, To: i, Size: 1})
		}
		return l
	}
	for count, want := range map[int]api.Errno{1: api.OK, 399: api.OK, 400: api.OK, 401: api.ErrLimit, 999: api.ErrLimit} {
		at, e := right.Check(long(count))
		expect.Errno(t, "Check of many", e, want)
		expect.Equal(t, "Check of many", at, min(count, 401)/401*400)
	}
	l := long(401)
	l[400] = api.Deal{}
	at, e = right.Check(l)
	expect.Errno(t, "ErrLimit comes before ErrArg", e, api.ErrLimit)
	expect.Equal(t, "ErrLimit comes before ErrArg", at, 400)
	l[7], l[9] = l[6], api.Deal{}
	at, e = right.Check(l)
	expect.Errno(t, "the first one", e, api.ErrTwice)
	expect.Equal(t, "the first one", at, 7)
	l[7].Size = 0
	at, e = right.Check(l)
	expect.Errno(t, "ErrArg comes before ErrTwice", e, api.ErrArg)
	expect.Equal(t, "ErrArg comes before ErrTwice", at, 7)
	_, e = right.Append(long(400), api.Deal{})
	expect.Errno(t, "Append to 400", e, api.ErrLimit)
	_, e = right.Append(long(399), api.Deal{})
	expect.Errno(t, "Append of nothing", e, api.ErrArg)
	_, e = right.Append(long(401), api.Deal{})
	expect.Errno(t, "Append to 401", e, api.ErrLimit)
	_, e = right.Append(append(long(3), api.Deal{Id: 2}), api.Deal{})
	expect.Errno(t, "Append to what is refused", e, api.ErrArg)
	all, e := right.Append(long(399), api.Deal{Id: 1000000, Day: 9, Kind: api.DealEnd, Lot: 1, To: 7})
	expect.Errno(t, "Append to 399", e, api.OK)
	expect.Equal(t, "Append to 399", len(all), 400)
}

// G1: random deals are accepted and refused as the table says.
func TestRandomDeals(t *testing.T) {
	counts := map[api.Errno]int{}
	eachRegister(t, 400, func(r *rand.Rand, l []api.Deal) {
		at, e := right.Check(l)
		expect.Errno(t, "Check", e, api.OK)
		expect.Equal(t, "Check", at, 0)
		day := 0
		if len(l) > 0 {
			day = l[len(l)-1].Day
		}
		for range 5 {
			w := worldOf(l, math.MaxInt)
			x := randomDeal(r, w, 999, day)
			want := w.apply(x)
			got, e := right.Append(l, x)
			expect.Errno(t, "Append", e, want)
			if e == api.OK {
				expect.Equal(t, "Append", slices.EqualFunc(got, append(clone(l), x), isSame), true)
			}
			counts[want]++
		}
	})
	for e, least := range map[api.Errno]int{api.OK: 200, api.ErrNone: 200, api.ErrTwice: 100, api.ErrShort: 40, api.ErrUnlike: 40} {
		enough(t, "the error "+strconv.Itoa(int(e)), counts[e], least)
	}
}

// G2: the deals up to a day, of any list.
func TestOn(t *testing.T) {
	l := example(t)
	for day, want := range map[int]int{-1: 0, 0: 2, 4: 2, 5: 3, 6: 4, 11: 7, 12: 8, math.MaxInt: 8, math.MinInt: 0} {
		got := right.On(l, day)
		expect.Equal(t, "On", slices.EqualFunc(got, l[:want], isSame), true)
	}
	wild := []api.Deal{{Day: 7}, {Day: 3, Into: []int{5}}, {Day: 9}, {Day: math.MinInt}, {Day: 5, Sizes: []int{2}}}
	got := right.On(wild, 5)
	expect.Equal(t, "On of any list", slices.EqualFunc(got, []api.Deal{wild[1], wild[3], wild[4]}, isSame), true)
}
