package right

import (
	"slices"

	"merestone/api"
)

// bare returns a roll without the deals of its eases and stints.
func bare(x api.Roll) api.Roll {
	x.Eases, x.Stints = slices.Clone(x.Eases), slices.Clone(x.Stints)
	for i := range x.Eases {
		x.Eases[i].Deal = 0
	}
	for i := range x.Stints {
		x.Stints[i].Deal = 0
	}
	return x
}

// isSameLot says whether two lots are equal.
func isSameLot(x, y api.Lot) bool {
	return x.Number == y.Number && x.Size == y.Size && slices.Equal(x.Holdings, y.Holdings)
}

// Same says whether two rolls are equal but for the deals of their eases and stints.
func Same(a, b api.Roll) bool {
	a, b = bare(a), bare(b)
	return slices.EqualFunc(a.Lots, b.Lots, isSameLot) && slices.Equal(a.Eases, b.Eases) && slices.Equal(a.Stints, b.Stints)
}

// single returns the items of two lists that are in one of them alone. Equal items have equal keys.
func single[T any](l, m []T, key func(T) [3]int, equal func(x, y T) bool) []T {
	var alone []T
	all := ordered(slices.Concat(l, m), key)
	for i := 0; i < len(all); i++ {
		if i+1 < len(all) && equal(all[i], all[i+1]) {
			i++
			continue
		}
		alone = append(alone, all[i])
	}
	return alone
}

// Changed returns the lots that are not on both of two days, or not the same with all that belongs to them.
func Changed(l []api.Deal, from, to int) ([]int, api.Errno) {
	before, e := Roll(l, from)
	if e != api.OK {
		return nil, e
	}
	after, _ := Roll(l, to)
	before, after = bare(before), bare(after)
	changed := numbersOf(single(before.Lots, after.Lots, lotKey, isSameLot))
	for _, x := range single(before.Eases, after.Eases, easeKey, func(x, y api.Ease) bool { return x == y }) {
		changed = append(changed, x.Over, x.For)
	}
	for _, x := range single(before.Stints, after.Stints, stintKey, func(x, y api.Stint) bool { return x == y }) {
		changed = append(changed, x.Lot)
	}
	return ascending(changed), api.OK
}

// Tidy returns a short register with the same roll as that on a day.
func Tidy(l []api.Deal, day int) ([]api.Deal, api.Errno) {
	roll, e := Roll(l, day)
	if e != api.OK {
		return nil, e
	}
	if !between(0, day, api.MaxDay) {
		return nil, api.ErrTime
	}
	var tidy []api.Deal
	for _, x := range roll.Lots {
		tidy = append(tidy, entries(x)...)
	}
	for _, x := range roll.Eases {
		tidy = append(tidy, api.Deal{Kind: api.DealWay, Lot: x.Over, Other: x.For})
	}
	for _, x := range roll.Stints {
		tidy = append(tidy, api.Deal{Kind: api.DealStint, Lot: x.Lot, To: x.Owner, Size: x.Beasts})
	}
	if len(tidy) > api.MaxDeals {
		return nil, api.ErrLimit
	}
	for i := range tidy {
		tidy[i].Id, tidy[i].Day = i+1, day
	}
	return tidy, api.OK
}

// entries returns the deals that make a lot with its holdings, without Ids and days.
func entries(x api.Lot) []api.Deal {
	// Of equal parts the first ones are those of the least owner.
	great := slices.MaxFunc(x.Holdings, func(a, b api.Holding) int { return a.Parts - b.Parts }).Owner
	l := []api.Deal{{Kind: api.DealEnter, Lot: x.Number, To: great, Size: x.Size}}
	for _, h := range x.Holdings {
		if h.Owner != great {
			l = append(l, api.Deal{Kind: api.DealGrant, Lot: x.Number, From: great, To: h.Owner, Parts: h.Parts})
		}
	}
	return l
}
