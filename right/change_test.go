package right_test

import (
	"math"
	"math/rand/v2"
	"slices"
	"testing"

	"merestone/api"
	"merestone/expect"
	"merestone/right"
)

// about returns all that a roll says of a lot, without deals.
func about(x api.Roll, n int) (lot []api.Lot, eases []api.Ease, stints []api.Stint) {
	x = barely(x)
	for _, l := range x.Lots {
		if l.Number == n {
			lot = append(lot, l)
		}
	}
	for _, e := range x.Eases {
		if e.Over == n || e.For == n {
			eases = append(eases, e)
		}
	}
	for _, s := range x.Stints {
		if s.Lot == n {
			stints = append(stints, s)
		}
	}
	return lot, eases, stints
}

// G11, P7.9: what changed between two days.
func TestChanged(t *testing.T) {
	none, some := 0, 0
	eachRegister(t, 300, func(r *rand.Rand, l []api.Deal) {
		all := days(l)
		from, to := all[r.IntN(len(all))], all[r.IntN(len(all))]
		before, after := worldOf(l, from).roll(), worldOf(l, to).roll()
		var want []int
		for n := range 1001 {
			x, eases, stints := about(before, n)
			y, others, more := about(after, n)
			if !isRoll(api.Roll{Lots: x, Eases: eases, Stints: stints}, api.Roll{Lots: y, Eases: others, Stints: more}) {
				want = append(want, n)
			}
		}
		got, e := right.Changed(l, from, to)
		expect.Errno(t, "Changed", e, api.OK)
		expect.List(t, "Changed", got, want...)
		expect.Equal(t, "nothing changed exactly if the rolls are the same", len(got) == 0, right.Same(before, after))
		back, _ := right.Changed(l, to, from)
		expect.List(t, "Changed the other way", back, want...)
		if len(want) == 0 {
			none++
		} else {
			some++
		}
	})
	enough(t, "nothing that changed", none, 30)
	enough(t, "something that changed", some, 100)
}

// G11: each thing that can change, and deals that do not count.
func TestChangedOf(t *testing.T) {
	for line, want := range map[string][]int{
		"9 1 enter 5 1 60":              {5},
		"9 1 grant 1 1 2 60":            {1},
		"9 1 divide 1 5 20 6 40":        {1, 2, 3, 5, 6},
		"9 1 merge 5 1 2":               {1, 2, 3, 5},
		"9 1 way 3 2":                   {2, 3},
		"9 1 release 1 2":               {1, 2},
		"9 1 stint 3 9 7":               {3},
		"9 1 end 3 8":                   {3},
		"9 1 way 1 2":                   nil,
		"9 1 stint 3 8 7":               nil,
		"9 1 grant 3 1 2 5040":          {3},
		"9 1 release 3 1":               {1, 3},
		"9 2 way 3 2":                   nil,
		"9 1 divide 3 5 20 6 20 7 10":   nil,
		"9 1 divide 3 5 20 6 20 7 20":   {1, 3, 5, 6, 7},
		"9 1 merge 5 3 1":               nil,
		"9 1 merge 5 4 1":               nil,
		"9 1 divide 1 5 20 6 20 1 20":   nil,
		"9 1 divide 2 5 20 6 20 7 20":   {1, 2, 5, 6, 7},
		"9 1 divide 2 5 20 6 20 7 20 9": nil,
	} {
		l := deals(t, "1 0 enter 1 1 60\n2 0 enter 2 1 60\n3 0 enter 3 1 60\n4 0 way 1 2\n5 0 way 3 1\n6 0 stint 3 8 7")
		if x, e := right.Read(line); e == api.OK {
			if more, e := right.Append(l, x); e == api.OK {
				l = more
			}
		}
		got, e := right.Changed(l, 0, 1)
		expect.Errno(t, "Changed", e, api.OK)
		expect.List(t, "Changed by "+line, got, want...)
	}
	l := deals(t, "1 0 enter 1 1 60\n2 0 enter 2 1 60\n3 0 way 1 2\n4 0 stint 1 8 7\n5 1 release 1 2\n6 1 way 1 2\n7 1 end 1 8\n8 1 stint 1 8 7\n9 2 end 1 8\n10 2 stint 1 8 6")
	got, e := right.Changed(l, 0, 1)
	expect.Errno(t, "Changed", e, api.OK)
	expect.List(t, "Changed by what was only done anew", got)
	got, _ = right.Changed(l, 1, 2)
	expect.List(t, "Changed by one beast less", got, 1)
	got, _ = right.Changed(l, 2, 1)
	expect.List(t, "Changed by one beast more, backwards", got, 1)
	for day := -1; day < 4; day++ {
		got, e := right.Changed(l, day, day)
		expect.Errno(t, "Changed of a day and itself", e, api.OK)
		expect.List(t, "Changed of a day and itself", got)
	}
}

// G11: rolls that are the same, and ones that differ in one place.
func TestSame(t *testing.T) {
	roll := func() api.Roll {
		return api.Roll{
			Lots:   []api.Lot{{Number: 1, Size: 60, Holdings: []api.Holding{{Owner: 1, Parts: 40}, {Owner: 2, Parts: 5000}}}, {Number: 2, Size: 5}},
			Eases:  []api.Ease{{Over: 1, For: 2, Deal: 3}, {Over: 2, For: 1, Deal: 4}},
			Stints: []api.Stint{{Lot: 1, Owner: 2, Beasts: 3, Deal: 4}},
		}
	}
	for _, x := range []struct {
		name   string
		change func(x *api.Roll)
		want   bool
	}{
		{"the same", func(x *api.Roll) {}, true},
		{"another deal of an ease", func(x *api.Roll) { x.Eases[1].Deal = 9 }, true},
		{"another deal of a stint", func(x *api.Roll) { x.Stints[0].Deal = math.MinInt }, true},
		{"another number", func(x *api.Roll) { x.Lots[1].Number = 3 }, false},
		{"another size", func(x *api.Roll) { x.Lots[1].Size = 6 }, false},
		{"another owner", func(x *api.Roll) { x.Lots[0].Holdings[0].Owner = 3 }, false},
		{"other parts", func(x *api.Roll) { x.Lots[0].Holdings[1].Parts = 1 }, false},
		{"a holding more", func(x *api.Roll) { x.Lots[1].Holdings = []api.Holding{{}} }, false},
		{"no holdings, but not nil", func(x *api.Roll) { x.Lots[1].Holdings = []api.Holding{} }, true},
		{"holdings in another order", func(x *api.Roll) { slices.Reverse(x.Lots[0].Holdings) }, false},
		{"a lot less", func(x *api.Roll) { x.Lots = x.Lots[:1] }, false},
		{"a lot more", func(x *api.Roll) { x.Lots = append(x.Lots, api.Lot{}) }, false},
		{"an ease over another lot", func(x *api.Roll) { x.Eases[0].Over = 9 }, false},
		{"an ease for another lot", func(x *api.Roll) { x.Eases[0].For = 9 }, false},
		{"an ease less", func(x *api.Roll) { x.Eases = x.Eases[:1] }, false},
		{"eases in another order", func(x *api.Roll) { slices.Reverse(x.Eases) }, false},
		{"a stint on another lot", func(x *api.Roll) { x.Stints[0].Lot = 2 }, false},
		{"a stint of another owner", func(x *api.Roll) { x.Stints[0].Owner = 1 }, false},
		{"other beasts", func(x *api.Roll) { x.Stints[0].Beasts = 4 }, false},
		{"no stints", func(x *api.Roll) { x.Stints = nil }, false},
	} {
		other := roll()
		x.change(&other)
		expect.Equal(t, x.name, right.Same(roll(), other), x.want)
		expect.Equal(t, x.name+", the other way", right.Same(other, roll()), x.want)
	}
	expect.Equal(t, "empty ones", right.Same(api.Roll{}, api.Roll{Lots: []api.Lot{}, Eases: []api.Ease{}, Stints: []api.Stint{}}), true)
}

// G11, P7.7: a tidy register has the same roll, and is as the chapter says.
func TestTidy(t *testing.T) {
	shared := 0
	eachRegister(t, 200, func(r *rand.Rand, l []api.Deal) {
		day := r.IntN(12)
		got, e := right.Tidy(l, day)
		expect.Errno(t, "Tidy", e, api.OK)
		_, e = right.Check(got)
		expect.Errno(t, "Tidy is a register", e, api.OK)
		want, _ := right.Roll(l, day)
		roll, _ := right.Roll(got, day)
		expect.Equal(t, "Tidy has the same roll", right.Same(roll, want), true)
		var lines []api.Deal
		for _, lot := range want.Lots {
			great := lot.Holdings[0]
			for _, h := range lot.Holdings {
				if h.Parts > great.Parts {
					great = h
				}
			}
			lines = append(lines, api.Deal{Kind: api.DealEnter, Lot: lot.Number, To: great.Owner, Size: lot.Size})
			for _, h := range lot.Holdings {
				if h != great {
					lines = append(lines, api.Deal{Kind: api.DealGrant, Lot: lot.Number, From: great.Owner, To: h.Owner, Parts: h.Parts})
				}
			}
			if len(lot.Holdings) > 2 {
				shared++
			}
		}
		for _, x := range want.Eases {
			lines = append(lines, api.Deal{Kind: api.DealWay, Lot: x.Over, Other: x.For})
		}
		for _, x := range want.Stints {
			lines = append(lines, api.Deal{Kind: api.DealStint, Lot: x.Lot, To: x.Owner, Size: x.Beasts})
		}
		for i := range lines {
			lines[i].Id, lines[i].Day = i+1, day
		}
		expect.Equal(t, "Tidy", slices.EqualFunc(got, lines, isSame), true)
	})
	enough(t, "a lot of three owners", shared, 20)
}

// G11: of several owners with the same greatest parts the least one enters the lot.
func TestTidyOfEqualOwners(t *testing.T) {
	l := deals(t, `7 0 enter 2 9 60
6 0 enter 1 3 50
5 1 grant 2 9 8 2000
4 1 grant 2 9 4 1040
3 1 way 2 1
2 1 stint 2 1 7`)
	tidy, e := right.Tidy(l, 2)
	expect.Errno(t, "Tidy", e, api.OK)
	want := deals(t, "1 2 enter 1 3 50\n2 2 enter 2 8 60\n3 2 grant 2 8 4 1040\n4 2 grant 2 8 9 2000\n5 2 way 2 1\n6 2 stint 2 1 7")
	expect.Equal(t, "Tidy", slices.EqualFunc(tidy, want, isSame), true)
	tidy, e = right.Tidy(nil, 2)
	expect.Errno(t, "Tidy of no deals", e, api.OK)
	expect.Equal(t, "Tidy of no deals", len(tidy), 0)
}

// G11: the errors of Tidy, in their order.
func TestTidyErrors(t *testing.T) {
	l := example(t)
	for day, want := range map[int]api.Errno{-1: api.ErrTime, 0: api.OK, 100000: api.OK, 100001: api.ErrTime, math.MinInt: api.ErrTime, math.MaxInt: api.ErrTime} {
		got, e := right.Tidy(l, day)
		expect.Errno(t, "Tidy", e, want)
		expect.Equal(t, "Tidy", len(got) > 0, want == api.OK)
	}
	_, e := right.Tidy(append(l, api.Deal{}), -1)
	expect.Errno(t, "Tidy of what is refused", e, api.ErrArg)
	many := func(pieces int) []api.Deal {
		l := []api.Deal{{Id: 1, Kind: api.DealEnter, Lot: 1, To: 1, Size: 1000}}
		for i := range pieces {
			x := api.Deal{Id: i + 2, Kind: api.DealDivide, Lot: i + 1, Into: []int{i + 2}, Sizes: []int{1000 - 9*i - 9}}
			for k := range 9 {
				x.Into, x.Sizes = append(x.Into, 10000+10*i+k), append(x.Sizes, 1)
			}
			l = append(l, x)
		}
		return l
	}
	grown := many(44) // 397 lots
	for i := range 5 {
		grown = append(grown, api.Deal{Id: 100 + i, Day: i, Kind: api.DealStint, Lot: 45, To: i + 1, Size: 1})
	}
	for day, want := range map[int]api.Errno{0: api.OK, 2: api.OK, 3: api.ErrLimit, 100001: api.ErrTime} {
		got, e := right.Tidy(grown, day)
		expect.Errno(t, "Tidy of many", e, want)
		if want == api.OK {
			expect.Equal(t, "Tidy of many", len(got), 398+day)
		}
	}
}
