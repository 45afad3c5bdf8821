package court_test

import (
	"math"
	"math/rand/v2"
	"slices"
	"testing"

	"merestone/api"
	"merestone/court"
	"merestone/expect"
)

// idsOf returns the Ids of records.
func idsOf(l []api.Record) []int {
	var ids []int
	for _, r := range l {
		ids = append(ids, r.Id)
	}
	return ids
}

// stand fails unless some records and rulings stand on a day, and no other ones.
func stand(t *testing.T, name string, l []api.Step, day int, records, rulings []int) {
	t.Helper()
	check(t, name, wide(), l, 0, api.OK)
	expect.List(t, name+": Standing", idsOf(court.Standing(l, day)), records...)
	expect.List(t, name+": Rulings", court.Rulings(l, day), rulings...)
	for id := -1; id <= len(l)+1; id++ {
		expect.Equal(t, name+": Stands", court.Stands(l, id, day), slices.Contains(records, id) || slices.Contains(rulings, id))
	}
}

// H4, H5: a ruling falls with a record of its proof, and for good.
func TestRulingsFall(t *testing.T) {
	l := followed(heard(), record(40, "stone dyke elm 5 0"), withdraw(41, 6), withdraw(50, 1), withdraw(60, 2))
	for day, want := range map[int][2][]int{
		-1: {nil, nil}, 0: {nil, nil}, 1: {{1, 2}, nil}, 33: {{1, 2}, nil}, 34: {{1, 2}, {5}}, 40: {{1, 2, 6}, {5}}, 41: {{1, 2}, {5}}, 49: {{1, 2}, {5}}, 50: {{2}, nil},
		60: {nil, nil}, math.MaxInt: {nil, nil}, math.MinInt: {nil, nil},
	} {
		stand(t, "a ruling", l, day, want[0], want[1])
	}
	for id := -1; id <= 11; id++ {
		var want []int
		if id == 8 {
			want = []int{5}
		}
		expect.List(t, "Falls", court.Falls(l, id), want...)
		expect.List(t, "Back", court.Back(l, id))
	}
	expect.List(t, "WouldFall", court.WouldFall(l, 1, 49), 5)
	expect.List(t, "WouldFall", court.WouldFall(l, 2, 49), 5)
	expect.List(t, "WouldFall: no ruling yet", court.WouldFall(l, 1, 33))
	expect.List(t, "WouldFall: it has fallen", court.WouldFall(l, 2, 50))
	for _, id := range []int{-1, 0, 3, 4, 5, 6, 100} {
		expect.List(t, "WouldFall: nothing rests on it", court.WouldFall(l, id, 49))
	}
}

// H4, H5: a record that was set aside stands again when the ruling falls, unless it was withdrawn by then.
func TestRecordsStandAgain(t *testing.T) {
	l := followed(quarrel(), aside(5, 2, 1, 2), aside(5, 4, 1, 4))
	stand(t, "set aside", l, 4, []int{1, 2, 3, 4}, nil)
	stand(t, "set aside", l, 5, []int{1, 3}, []int{5, 6})
	again := followed(l, withdraw(6, 1))
	stand(t, "both stand again", again, 6, []int{2, 3, 4}, nil)
	expect.List(t, "both fall", court.Falls(again, 7), 5, 6)
	expect.List(t, "both stand again", court.Back(again, 7), 2, 4)
	gone := followed(l, withdraw(6, 2), withdraw(7, 1))
	stand(t, "withdrawn", gone, 6, []int{1, 3}, []int{6})
	stand(t, "withdrawn", gone, 7, []int{3, 4}, nil)
	expect.List(t, "the aside falls with its record", court.Falls(gone, 7), 5)
	expect.List(t, "which does not stand again", court.Back(gone, 7))
	expect.List(t, "the other one falls", court.Falls(gone, 8), 6)
	expect.List(t, "and its record stands again", court.Back(gone, 8), 4)
	apart := followed(l, withdraw(6, 3))
	stand(t, "nothing rests on it", apart, 6, []int{1}, []int{5, 6})
	expect.List(t, "nothing falls", court.Falls(apart, 7))
	expect.List(t, "WouldFall of what was set aside", court.WouldFall(l, 2, 5), 5)
	expect.List(t, "WouldFall of what sets aside", court.WouldFall(l, 1, 5), 5, 6)
}

// H5: what stands again is ascending, whatever was set aside first, and so on the last day there is.
func TestBackIsAscending(t *testing.T) {
	l := followed(quarrel(), aside(5, 4, 1, 4), aside(5, 2, 1, 2), withdraw(100000, 1))
	check(t, "two asides", wide(), l, 0, api.OK)
	expect.List(t, "they fall", court.Falls(l, 7), 5, 6)
	expect.List(t, "they stand again", court.Back(l, 7), 2, 4)
}

// H5: an aside makes rulings fall, too; what stands again makes none fall, and lets none stand again.
func TestAsidesMakeFall(t *testing.T) {
	l := followed(quarrel(), aside(5, 4, 1, 4), claim(5, 95, 99), of(api.StepNotice, 5, 6))
	l = followed(l, withdraw(6, 2), record(7, "stone dyke oak 500 0"), rule(40, 6, api.AwardSouth, 1))
	// A better record sets the record 1 aside: the record 4 stands again, and contradicts the record 3.
	l[8].Record.Rank = 0
	l = followed(l, aside(50, 1, 1, 9))
	stand(t, "before", l, 49, []int{1, 3, 9}, []int{5, 10})
	stand(t, "behind", l, 50, []int{3, 4, 9}, []int{11})
	expect.List(t, "they fall", court.Falls(l, 11), 5, 10)
	expect.List(t, "it stands again", court.Back(l, 11), 4)
	expect.List(t, "none by itself", court.WouldFall(l, 1, 50), 11)
	l = followed(l, aside(51, 4, 3, 4), withdraw(52, 9))
	stand(t, "set aside again", l, 51, []int{3, 9}, []int{11, 12})
	stand(t, "the first one stands again, its rulings do not", l, 52, []int{1, 3}, []int{12})
	expect.List(t, "the aside falls", court.Falls(l, 13), 11)
	expect.List(t, "and the record stands again", court.Back(l, 13), 1)
}

// H4: rulings on one day, and a withdrawal on the day of the ruling.
func TestOneDay(t *testing.T) {
	l := followed(inState(api.CaseViewed), rule(100, 3, api.AwardNorth, 1, 2), withdraw(100, 1))
	stand(t, "a ruling of no day", l, 99, []int{1, 2}, nil)
	stand(t, "a ruling of no day", l, 100, []int{2}, nil)
	expect.List(t, "it falls", court.Falls(l, 8), 7)
}

// H4, H5, H6, P8.2, P8.8: what stands, what falls and what stands again, as the chapter's words have it.
func TestWhatStands(t *testing.T) {
	falls, back := 0, 0
	eachDocket(t, 70, 40, func(r *rand.Rand, f api.Field, l []api.Step) {
		for _, day := range days(r, l) {
			m := upTo(l, day)
			var want []api.Record
			want = append(want, recordsOf(m)...)
			expect.List(t, "Standing", court.Standing(l, day), want...)
			expect.List(t, "Rulings", court.Rulings(l, day), idsWhere(m, rulingStands)...)
			for id := range len(l) + 2 {
				expect.Equal(t, "Stands", court.Stands(l, id, day), recordStands(m, id) || rulingStands(m, id))
				expect.List(t, "WouldFall", court.WouldFall(l, id, day), idsWhere(m, func(m []api.Step, ruling int) bool {
					return rulingStands(m, ruling) && slices.Contains(m[ruling-1].Proof, id)
				})...)
			}
			expect.List(t, "Standing of a beginning", court.Standing(m, day), want...)
		}
		for id := range len(l) + 2 {
			var fallen, again []int
			if id > 0 && id <= len(l) {
				fallen = idsWhere(l[:id], func(m []api.Step, k int) bool { return rulingStands(l[:id-1], k) && !rulingStands(m, k) })
				again = idsWhere(l[:id], func(m []api.Step, k int) bool {
					return k < id && !recordStands(l[:id-1], k) && recordStands(m, k)
				})
			}
			expect.List(t, "Falls", court.Falls(l, id), fallen...)
			expect.List(t, "Back", court.Back(l, id), again...)
			falls, back = falls+len(fallen), back+len(again)
			if id > 0 && id <= len(l) && l[id-1].Kind == api.StepWithdraw {
				expect.List(t, "Falls is WouldFall before it", court.Falls(l, id), court.WouldFall(l[:id-1], l[id-1].Of, l[id-1].Day)...)
			}
		}
	})
	if falls < 60 || back < 20 {
		t.Errorf("%d rulings fall, %d records stand again", falls, back)
	}
}
