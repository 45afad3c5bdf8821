package right_test

import (
	"math"
	"math/rand/v2"
	"slices"
	"testing"

	"merestone/api"
	"merestone/expect"
	"merestone/right"
)

// days returns days before, within and behind a register.
func days(l []api.Deal) []int {
	all := []int{-1, 0, 1, math.MaxInt, math.MinInt}
	for _, x := range l {
		all = append(all, x.Day)
	}
	return all
}

// G3 to G6, P7.1, P7.6: the roll, and what else is asked of a register, on each day.
func TestRolls(t *testing.T) {
	eases, stints, shared := 0, 0, 0
	eachRegister(t, 90, func(r *rand.Rand, l []api.Deal) {
		all := days(l)
		for range 3 {
			day := all[r.IntN(len(all))]
			want := worldOf(l, day).roll()
			got, e := right.Roll(l, day)
			expect.Errno(t, "Roll", e, api.OK)
			expect.Equal(t, "Roll", isRoll(got, want), true)
			before, _ := right.Roll(right.On(l, day), day)
			expect.Equal(t, "the roll does not depend on later deals", isRoll(before, want), true)
			asked(t, r, l, day, want)
			eases += len(got.Eases)
			stints += len(got.Stints)
			for _, x := range got.Lots {
				shared += len(x.Holdings) - 1
			}
		}
	})
	enough(t, "an ease", eases, 100)
	enough(t, "a stint", stints, 100)
	enough(t, "a lot of several owners", shared, 100)
}

// asked fails unless what is asked of a register is as the roll says.
func asked(t *testing.T, r *rand.Rand, l []api.Deal, day int, x api.Roll) {
	t.Helper()
	total, entered := 0, 0
	var lots []int
	for _, lot := range x.Lots {
		total += lot.Size
		lots = append(lots, lot.Number)
		parts := 0
		for _, h := range lot.Holdings {
			parts += h.Parts
			expect.Equal(t, "a holding", h.Parts >= 1, true)
		}
		expect.Equal(t, "the parts of a lot", parts, 5040)
	}
	for _, d := range l {
		if d.Kind == api.DealEnter && d.Day <= day {
			entered += d.Size
		}
	}
	expect.Equal(t, "Total", right.Total(l, day), total)
	expect.Equal(t, "Total is what was entered", total, entered)
	expect.List(t, "Lots", right.Lots(l, day), lots...)
	for n := range top + 2 {
		askedOf(t, r, l, day, x, n)
	}
	for owner := range 5 {
		var owned []int
		for _, lot := range x.Lots {
			if slices.ContainsFunc(lot.Holdings, func(h api.Holding) bool { return h.Owner == owner }) {
				owned = append(owned, lot.Number)
			}
		}
		expect.List(t, "Owns", right.Owns(l, day, owner), owned...)
	}
}

// askedOf fails unless what is asked of a lot is as the roll says.
func askedOf(t *testing.T, r *rand.Rand, l []api.Deal, day int, x api.Roll, n int) {
	t.Helper()
	at := slices.IndexFunc(x.Lots, func(lot api.Lot) bool { return lot.Number == n })
	lot, e := right.LotOf(l, day, n)
	var holdings []api.Holding
	if at < 0 {
		expect.Errno(t, "LotOf", e, api.ErrNone)
		expect.Equal(t, "LotOf", lot.Number+lot.Size, 0)
	} else {
		holdings = x.Lots[at].Holdings
		expect.Errno(t, "LotOf", e, api.OK)
		expect.Equal(t, "LotOf", [2]int{lot.Number, lot.Size}, [2]int{n, x.Lots[at].Size})
	}
	expect.List(t, "LotOf", lot.Holdings, holdings...)
	var over, other []int
	for _, ease := range x.Eases {
		if ease.Over == n {
			over = append(over, ease.For)
		}
		if ease.For == n {
			other = append(other, ease.Over)
		}
	}
	expect.List(t, "Over", right.Over(l, day, n), over...)
	expect.List(t, "For", right.For(l, day, n), other...)
	for _, m := range append(over, n, r.IntN(top+2), r.IntN(top+2)) {
		expect.Equal(t, "May", right.May(l, day, m, n), slices.Contains(over, m) || m == n && at >= 0)
	}
	sum := 0
	for owner := range 5 {
		parts, beasts := 0, 0
		for _, h := range holdings {
			if h.Owner == owner {
				parts = h.Parts
			}
		}
		for _, s := range x.Stints {
			if s.Lot == n && s.Owner == owner {
				beasts = s.Beasts
			}
		}
		sum += beasts
		expect.Equal(t, "Parts", right.Parts(l, day, n, owner), parts)
		expect.Equal(t, "Grazes", right.Grazes(l, day, n, owner), beasts)
	}
	expect.Equal(t, "Beasts", right.Beasts(l, day, n), sum)
}

// The chapter's table: eases of lots that are divided and merged.
func TestDividingEases(t *testing.T) {
	l := deals(t, `1 0 enter 1 1 60
2 0 enter 2 1 60
3 0 enter 3 1 60
9 0 way 1 2
5 0 way 2 1
6 0 way 1 3
7 0 way 3 1
8 0 way 2 3
10 1 divide 1 11 20 12 40
11 1 way 11 12
12 1 divide 2 21 30 22 30
13 2 merge 5 12 21
14 3 merge 6 11 5
15 3 merge 7 22 3`)
	for day, want := range map[int][]api.Ease{
		0: {{Over: 1, For: 2, Deal: 9}, {Over: 1, For: 3, Deal: 6}, {Over: 2, For: 1, Deal: 5}, {Over: 2, For: 3, Deal: 8}, {Over: 3, For: 1, Deal: 7}},
		1: {
			{Over: 3, For: 11, Deal: 7}, {Over: 3, For: 12, Deal: 7}, {Over: 11, For: 3, Deal: 6}, {Over: 11, For: 12, Deal: 11}, {Over: 11, For: 21, Deal: 9}, {Over: 11, For: 22, Deal: 9},
			{Over: 12, For: 3, Deal: 6}, {Over: 12, For: 21, Deal: 9}, {Over: 12, For: 22, Deal: 9}, {Over: 21, For: 3, Deal: 8}, {Over: 21, For: 11, Deal: 5}, {Over: 21, For: 12, Deal: 5},
			{Over: 22, For: 3, Deal: 8}, {Over: 22, For: 11, Deal: 5}, {Over: 22, For: 12, Deal: 5},
		},
		2: {
			{Over: 3, For: 5, Deal: 7}, {Over: 3, For: 11, Deal: 7}, {Over: 5, For: 3, Deal: 6}, {Over: 5, For: 11, Deal: 5}, {Over: 5, For: 22, Deal: 9},
			{Over: 11, For: 3, Deal: 6}, {Over: 11, For: 5, Deal: 9}, {Over: 11, For: 22, Deal: 9}, {Over: 22, For: 3, Deal: 8}, {Over: 22, For: 5, Deal: 5}, {Over: 22, For: 11, Deal: 5},
		},
		3: {{Over: 6, For: 7, Deal: 6}, {Over: 7, For: 6, Deal: 5}},
	} {
		got, e := right.Roll(l, day)
		expect.Errno(t, "Roll", e, api.OK)
		expect.List(t, "Eases", got.Eases, want...)
	}
}

// The chapter's table: stints and holdings of lots that are divided and merged.
func TestDividingStints(t *testing.T) {
	l := deals(t, `1 0 enter 1 1 60
2 0 grant 1 1 2 40
3 0 stint 1 9 5
4 0 stint 1 4 6
5 1 divide 1 11 20 12 40
6 2 end 12 9
7 2 stint 12 9 5
8 3 merge 2 12 11`)
	for day, want := range map[int][]api.Stint{
		0: {{Lot: 1, Owner: 4, Beasts: 6, Deal: 4}, {Lot: 1, Owner: 9, Beasts: 5, Deal: 3}},
		1: {{Lot: 11, Owner: 4, Beasts: 6, Deal: 4}, {Lot: 11, Owner: 9, Beasts: 5, Deal: 3}, {Lot: 12, Owner: 4, Beasts: 6, Deal: 4}, {Lot: 12, Owner: 9, Beasts: 5, Deal: 3}},
		2: {{Lot: 11, Owner: 4, Beasts: 6, Deal: 4}, {Lot: 11, Owner: 9, Beasts: 5, Deal: 3}, {Lot: 12, Owner: 4, Beasts: 6, Deal: 4}, {Lot: 12, Owner: 9, Beasts: 5, Deal: 7}},
		3: {{Lot: 2, Owner: 4, Beasts: 6, Deal: 4}, {Lot: 2, Owner: 9, Beasts: 5, Deal: 7}},
	} {
		got, e := right.Roll(l, day)
		expect.Errno(t, "Roll", e, api.OK)
		expect.List(t, "Stints", got.Stints, want...)
		for _, lot := range got.Lots {
			expect.List(t, "Holdings", lot.Holdings, api.Holding{Owner: 1, Parts: 5000}, api.Holding{Owner: 2, Parts: 40})
		}
		expect.Equal(t, "Beasts", right.Beasts(l, day, want[0].Lot), 11)
	}
}

// P7.2: dividing and merging back restores the roll but for the number of the lot; between, each piece has all that the lot had.
func TestDividingAndMergingBack(t *testing.T) {
	count := 0
	eachRegister(t, 300, func(r *rand.Rand, l []api.Deal) {
		before, _ := right.Roll(l, math.MaxInt)
		if len(before.Lots) == 0 {
			return
		}
		lot := before.Lots[r.IntN(len(before.Lots))]
		if lot.Size < 3 {
			return
		}
		day := l[len(l)-1].Day
		l, e := right.Append(l, api.Deal{Id: 998, Day: day, Kind: api.DealDivide, Lot: lot.Number, Into: []int{901, 902, 900}, Sizes: split(r, lot.Size, 3)})
		expect.Errno(t, "dividing", e, api.OK)
		for _, piece := range []int{900, 901, 902} {
			got, _ := right.LotOf(l, day, piece)
			expect.List(t, "the holdings of a piece", got.Holdings, lot.Holdings...)
			for _, x := range before.Eases {
				expect.Equal(t, "a way of a piece", x.For != lot.Number || right.May(l, day, piece, x.Over), true)
				expect.Equal(t, "a way over a piece", x.Over != lot.Number || right.May(l, day, x.For, piece), true)
			}
			for _, x := range before.Stints {
				expect.Equal(t, "a stint on a piece", x.Lot != lot.Number || right.Grazes(l, day, piece, x.Owner) == x.Beasts, true)
			}
		}
		into := []int{900, 901, 902}
		r.Shuffle(3, func(i, j int) { into[i], into[j] = into[j], into[i] })
		l, e = right.Append(l, api.Deal{Id: 999, Day: day, Kind: api.DealMerge, Lot: 950, Into: into})
		expect.Errno(t, "merging", e, api.OK)
		after, _ := right.Roll(l, day)
		expect.Equal(t, "the roll but for the number", isRoll(barely(renamed(after, 950, lot.Number)), barely(before)), true)
		expect.Equal(t, "Same but for the number", right.Same(renamed(after, 950, lot.Number), before), true)
		count++
	})
	enough(t, "a lot that is divided", count, 150)
}

// renamed returns a roll in which a lot has another number.
func renamed(x api.Roll, from, to int) api.Roll {
	name := func(n int) int {
		if n == from {
			return to
		}
		return n
	}
	for i := range x.Lots {
		x.Lots[i].Number = name(x.Lots[i].Number)
	}
	for i := range x.Eases {
		x.Eases[i].Over, x.Eases[i].For = name(x.Eases[i].Over), name(x.Eases[i].For)
	}
	for i := range x.Stints {
		x.Stints[i].Lot = name(x.Stints[i].Lot)
	}
	slices.SortFunc(x.Lots, func(a, b api.Lot) int { return a.Number - b.Number })
	slices.SortFunc(x.Eases, func(a, b api.Ease) int { return (a.Over-b.Over)*10000 + a.For - b.For })
	slices.SortFunc(x.Stints, func(a, b api.Stint) int { return (a.Lot-b.Lot)*10000 + a.Owner - b.Owner })
	return x
}

// P7.3: a grant changes the holdings of its lot alone, and one back restores the roll.
func TestGranting(t *testing.T) {
	count := 0
	eachRegister(t, 300, func(r *rand.Rand, l []api.Deal) {
		before, _ := right.Roll(l, math.MaxInt)
		if len(before.Lots) == 0 {
			return
		}
		at := r.IntN(len(before.Lots))
		lot := before.Lots[at]
		h := lot.Holdings[r.IntN(len(lot.Holdings))]
		day := l[len(l)-1].Day + 1
		grant := api.Deal{Id: 998, Day: day, Kind: api.DealGrant, Lot: lot.Number, From: h.Owner, To: 1 + h.Owner%4, Parts: 1 + r.IntN(h.Parts)}
		l, e := right.Append(l, grant)
		expect.Errno(t, "a grant", e, api.OK)
		after, _ := right.Roll(l, day)
		changed, _ := right.Changed(l, day-1, day)
		expect.List(t, "what a grant changes", changed, lot.Number)
		expect.Equal(t, "what is granted", right.Parts(l, day, lot.Number, grant.To)-right.Parts(l, day-1, lot.Number, grant.To), grant.Parts)
		expect.Equal(t, "what is left", right.Parts(l, day, lot.Number, grant.From), h.Parts-grant.Parts)
		after.Lots[at].Holdings = lot.Holdings
		expect.Equal(t, "all else stays", isRoll(after, before), true)
		grant.Id, grant.From, grant.To = 999, grant.To, grant.From
		l, e = right.Append(l, grant)
		expect.Errno(t, "a grant back", e, api.OK)
		back, _ := right.Roll(l, day)
		expect.Equal(t, "one back restores the roll", isRoll(back, before), true)
		count++
	})
	enough(t, "a grant", count, 200)
}

// The chapter's table: whoever grants all their parts holds nothing any more.
func TestGrantingAll(t *testing.T) {
	l := deals(t, "1 0 enter 1 1 60\n2 1 grant 1 1 2 5040\n3 2 grant 1 2 1 5039\n4 3 grant 1 2 3 1")
	for day, want := range map[int][]api.Holding{0: {{Owner: 1, Parts: 5040}}, 1: {{Owner: 2, Parts: 5040}}, 2: {{Owner: 1, Parts: 5039}, {Owner: 2, Parts: 1}}, 3: {{Owner: 1, Parts: 5039}, {Owner: 3, Parts: 1}}} {
		lot, e := right.LotOf(l, day, 1)
		expect.Errno(t, "LotOf", e, api.OK)
		expect.List(t, "Holdings", lot.Holdings, want...)
		for owner := range 4 {
			owns := slices.ContainsFunc(want, func(h api.Holding) bool { return h.Owner == owner })
			expect.Equal(t, "Owns", slices.Equal(right.Owns(l, day, owner), []int{1}), owns)
		}
	}
	_, e := right.Append(l, deal(t, "5 3 grant 1 2 1 1"))
	expect.Errno(t, "a grant of one part too many", e, api.ErrShort)
}

// G3: sizes at their ends, and lots in an order of their own.
func TestGreatRoll(t *testing.T) {
	var l []api.Deal
	for i := range 400 {
		l = append(l, api.Deal{Id: 1000 - i, Day: i, Kind: api.DealEnter, Lot: 1000000 - i*(i%2), To: 1000000 - i, Size: 10000000000})
		if i%2 == 0 {
			l[i].Lot = 1 + i
		}
	}
	roll, e := right.Roll(l, 400)
	expect.Errno(t, "Roll", e, api.OK)
	expect.Equal(t, "as many lots as deals", len(roll.Lots), 400)
	expect.Equal(t, "in ascending order", slices.IsSortedFunc(roll.Lots, func(a, b api.Lot) int { return a.Number - b.Number }), true)
	expect.Equal(t, "Total", right.Total(l, 400), 4000000000000)
	expect.Equal(t, "Total of the first day", right.Total(l, 0), 10000000000)
	tidy, e := right.Tidy(l, 400)
	expect.Errno(t, "Tidy", e, api.OK)
	expect.Equal(t, "Tidy", len(tidy), 400)
}
