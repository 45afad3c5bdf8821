package right_test

import (
	"math/rand/v2"
	"slices"
	"strings"
	"testing"

	"merestone/api"
	"merestone/expect"
	"merestone/right"
)

// example is the register of the chapter's examples.
func example(t *testing.T) []api.Deal {
	t.Helper()
	return deals(t, `1 0 enter 10 1 900
2 0 enter 20 2 500
3 5 grant 10 1 3 2520
4 6 way 10 20
5 7 stint 10 4 12
6 8 divide 10 11 400 12 500
7 9 grant 11 3 1 2520
8 12 release 12 20`)
}

// deals reads lines as deals.
func deals(t *testing.T, text string) []api.Deal {
	t.Helper()
	var l []api.Deal
	for line := range strings.Lines(text) {
		l = append(l, deal(t, strings.TrimSpace(line)))
	}
	return l
}

// deal reads a line as a deal.
func deal(t *testing.T, line string) api.Deal {
	t.Helper()
	x, e := right.Read(line)
	expect.Errno(t, "Read "+line, e, api.OK)
	return x
}

// clone returns deals in memory of their own.
func clone(l []api.Deal) []api.Deal {
	l = slices.Clone(l)
	for i := range l {
		l[i].Into, l[i].Sizes = slices.Clone(l[i].Into), slices.Clone(l[i].Sizes)
	}
	return l
}

// isSame says whether two deals are equal, where empty lists are as good as nil.
func isSame(x, y api.Deal) bool {
	a, b := x, y
	a.Into, a.Sizes, b.Into, b.Sizes = nil, nil, nil, nil
	return [6]int{a.Lot, a.Other, a.From, a.To, a.Parts, a.Size} == [6]int{b.Lot, b.Other, b.From, b.To, b.Parts, b.Size} &&
		a.Id == b.Id && a.Day == b.Day && a.Kind == b.Kind && slices.Equal(x.Into, y.Into) && slices.Equal(x.Sizes, y.Sizes)
}

// world is what the tests' own reading of the chapter's table says of deals: all in maps by what they are about.
type world struct {
	sizes  map[int]int
	used   map[int]bool
	parts  map[[2]int]int    // by lot and owner
	eases  map[[2]int]int    // the deal, by the lot over which and the one for which
	stints map[[2]int][2]int // the beasts and the deal, by lot and owner
}

// newWorld returns the world of no deals.
func newWorld() world {
	return world{map[int]int{}, map[int]bool{}, map[[2]int]int{}, map[[2]int]int{}, map[[2]int][2]int{}}
}

// needs returns the errors of a deal, in their order, with whether they are to be returned.
func (w world) needs(x api.Deal) []struct {
	wrong bool
	e     api.Errno
} {
	lots := map[uint8][]int{api.DealGrant: {x.Lot}, api.DealDivide: {x.Lot}, api.DealMerge: x.Into, api.DealWay: {x.Lot, x.Other}, api.DealStint: {x.Lot}}[x.Kind]
	fresh := map[uint8][]int{api.DealEnter: {x.Lot}, api.DealDivide: x.Into, api.DealMerge: {x.Lot}}[x.Kind]
	_, eased := w.eases[[2]int{x.Lot, x.Other}]
	_, grazed := w.stints[[2]int{x.Lot, x.To}]
	return []struct {
		wrong bool
		e     api.Errno
	}{
		{slices.ContainsFunc(lots, func(n int) bool { return w.sizes[n] == 0 }), api.ErrNone},
		{x.Kind == api.DealRelease && !eased || x.Kind == api.DealEnd && !grazed, api.ErrNone},
		{slices.ContainsFunc(fresh, func(n int) bool { return w.used[n] }), api.ErrTwice},
		{x.Kind == api.DealWay && eased || x.Kind == api.DealStint && grazed, api.ErrTwice},
		{x.Kind == api.DealGrant && w.parts[[2]int{x.Lot, x.From}] < x.Parts, api.ErrShort},
		{x.Kind == api.DealDivide && sum(x.Sizes) != w.sizes[x.Lot], api.ErrUnlike},
		{x.Kind == api.DealMerge && !w.alike(x.Into), api.ErrUnlike},
	}
}

// sum adds up numbers.
func sum(l []int) int {
	total := 0
	for _, n := range l {
		total += n
	}
	return total
}

// alike says whether lots can be merged.
func (w world) alike(lots []int) bool {
	total := 0
	for _, n := range lots {
		total += w.sizes[n]
		for _, m := range lots {
			for k, parts := range w.parts {
				if k[0] == n && w.parts[[2]int{m, k[1]}] != parts {
					return false
				}
			}
			for k, x := range w.stints {
				if k[0] == n && w.stints[[2]int{m, k[1]}][0] != x[0] {
					return false
				}
			}
		}
	}
	return total <= 10000000000
}

// apply does what a deal does, or returns why it is not possible.
func (w world) apply(x api.Deal) api.Errno {
	for _, n := range w.needs(x) {
		if n.wrong {
			return n.e
		}
	}
	switch x.Kind {
	case api.DealEnter:
		w.sizes[x.Lot], w.used[x.Lot], w.parts[[2]int{x.Lot, x.To}] = x.Size, true, 5040
	case api.DealGrant:
		w.parts[[2]int{x.Lot, x.From}] -= x.Parts
		w.parts[[2]int{x.Lot, x.To}] += x.Parts
		if w.parts[[2]int{x.Lot, x.From}] == 0 {
			delete(w.parts, [2]int{x.Lot, x.From})
		}
	case api.DealDivide:
		for i, n := range x.Into {
			w.put(n, x.Sizes[i], x.Lot, []int{x.Lot})
		}
		w.drop([]int{x.Lot})
	case api.DealMerge:
		total := 0
		for _, n := range x.Into {
			total += w.sizes[n]
		}
		w.put(x.Lot, total, x.Into[0], x.Into)
		w.drop(x.Into)
	case api.DealWay:
		w.eases[[2]int{x.Lot, x.Other}] = x.Id
	case api.DealRelease:
		delete(w.eases, [2]int{x.Lot, x.Other})
	case api.DealStint:
		w.stints[[2]int{x.Lot, x.To}] = [2]int{x.Size, x.Id}
	case api.DealEnd:
		delete(w.stints, [2]int{x.Lot, x.To})
	}
	return api.OK
}

// put puts a lot there, with the holdings and stints of another one, and the eases of several ones.
func (w world) put(n, size, like int, old []int) {
	w.sizes[n], w.used[n] = size, true
	for k, parts := range clonedMap(w.parts) {
		if k[0] == like {
			w.parts[[2]int{n, k[1]}] = parts
		}
	}
	for k, x := range clonedMap(w.stints) {
		if k[0] == like {
			w.stints[[2]int{n, k[1]}] = x
		}
	}
	ease := func(k [2]int, deal int) {
		if d, is := w.eases[k]; !is || deal < d {
			w.eases[k] = deal
		}
	}
	for k, deal := range clonedMap(w.eases) {
		over, other := slices.Contains(old, k[0]), slices.Contains(old, k[1])
		if over && !other {
			ease([2]int{n, k[1]}, deal)
		}
		if other && !over {
			ease([2]int{k[0], n}, deal)
		}
	}
}

// clonedMap returns a map in memory of its own.
func clonedMap[K comparable, V any](m map[K]V) map[K]V {
	out := map[K]V{}
	for k, v := range m {
		out[k] = v
	}
	return out
}

// drop takes lots away, with all that belongs to them.
func (w world) drop(lots []int) {
	for _, n := range lots {
		delete(w.sizes, n)
		for k := range w.parts {
			if k[0] == n {
				delete(w.parts, k)
			}
		}
		for k := range w.stints {
			if k[0] == n {
				delete(w.stints, k)
			}
		}
		for k := range w.eases {
			if k[0] == n || k[1] == n {
				delete(w.eases, k)
			}
		}
	}
}

// roll returns the world as a roll.
func (w world) roll() api.Roll {
	var x api.Roll
	for n := range 1001 {
		if w.sizes[n] == 0 {
			continue
		}
		lot := api.Lot{Number: n, Size: w.sizes[n]}
		for owner := range 1001 {
			if parts := w.parts[[2]int{n, owner}]; parts > 0 {
				lot.Holdings = append(lot.Holdings, api.Holding{Owner: owner, Parts: parts})
			}
		}
		x.Lots = append(x.Lots, lot)
	}
	for k, d := range w.eases {
		x.Eases = append(x.Eases, api.Ease{Over: k[0], For: k[1], Deal: d})
	}
	for k, s := range w.stints {
		x.Stints = append(x.Stints, api.Stint{Lot: k[0], Owner: k[1], Beasts: s[0], Deal: s[1]})
	}
	slices.SortFunc(x.Eases, func(a, b api.Ease) int { return (a.Over-b.Over)*10000 + a.For - b.For })
	slices.SortFunc(x.Stints, func(a, b api.Stint) int { return (a.Lot-b.Lot)*10000 + a.Owner - b.Owner })
	return x
}

// worldOf returns the world of a register up to a day.
func worldOf(l []api.Deal, day int) world {
	w := newWorld()
	for _, x := range l {
		if x.Day <= day {
			w.apply(x)
		}
	}
	return w
}

// isRoll says whether two rolls are equal, deals and all.
func isRoll(a, b api.Roll) bool {
	same := func(x, y api.Lot) bool {
		return x.Number == y.Number && x.Size == y.Size && slices.Equal(x.Holdings, y.Holdings)
	}
	return slices.EqualFunc(a.Lots, b.Lots, same) && slices.Equal(a.Eases, b.Eases) && slices.Equal(a.Stints, b.Stints)
}

// barely returns a roll without the deals of its eases and stints.
func barely(x api.Roll) api.Roll {
	x.Eases, x.Stints = slices.Clone(x.Eases), slices.Clone(x.Stints)
	for i := range x.Eases {
		x.Eases[i].Deal = 0
	}
	for i := range x.Stints {
		x.Stints[i].Deal = 0
	}
	return x
}

// top is the greatest number of a lot in registers of the tests.
const top = 24

// some returns one of a few numbers of lots or owners.
func some(r *rand.Rand, from, count int) int { return from + r.IntN(count) }

// randomDeal returns a well-formed deal, which is often possible after others.
func randomDeal(r *rand.Rand, w world, id, day int) api.Deal {
	kinds := []uint8{1, 1, 2, 2, 2, 3, 3, 3, 4, 4, 4, 4, 5, 5, 6, 7, 8}
	x := api.Deal{Id: id, Day: day, Kind: kinds[r.IntN(len(kinds))], Lot: some(r, 1, top)}
	there := slices.Sorted(func(yield func(int) bool) {
		for n := range w.sizes {
			if !yield(n) {
				return
			}
		}
	})
	if len(there) > 0 && r.IntN(5) > 0 && x.Kind != api.DealEnter && x.Kind != api.DealMerge {
		x.Lot = there[r.IntN(len(there))]
	}
	switch x.Kind {
	case api.DealEnter:
		x.To, x.Size = some(r, 1, 3), 60
	case api.DealGrant:
		x.From = some(r, 1, 3)
		x.To = 1 + (x.From+r.IntN(2))%3
		x.Parts = []int{1260, 2520, 5040, 1}[r.IntN(4)]
	case api.DealDivide:
		x.Into = lots(r, 2+r.IntN(2), nil)
		x.Sizes = split(r, w.sizes[x.Lot]+r.IntN(5)/4, len(x.Into))
	case api.DealMerge:
		x.Into = lots(r, 2+r.IntN(2), there)
		alike := slices.DeleteFunc(slices.Clone(there), func(n int) bool { return !w.alike([]int{n, x.Into[0]}) })
		if len(alike) > 1 && r.IntN(4) > 0 {
			x.Into = lots(r, min(len(alike), 2+r.IntN(2)), alike)
		}
	case api.DealWay, api.DealRelease:
		x.Other = lots(r, 2, there)[0]
		if x.Other == x.Lot {
			x.Other = lots(r, 2, there)[1]
		}
		if x.Other == x.Lot {
			x.Other++
		}
	case api.DealStint:
		x.To, x.Size = some(r, 1, 3), some(r, 5, 2)
	case api.DealEnd:
		x.To = some(r, 1, 3)
	}
	return x
}

// lots returns different lots, of those that there are, if there are enough.
func lots(r *rand.Rand, count int, there []int) []int {
	if len(there) < count {
		there = nil
		for n := range top {
			there = append(there, n+1)
		}
	}
	var l []int
	for _, i := range r.Perm(len(there))[:count] {
		l = append(l, there[i])
	}
	return l
}

// split returns numbers of at least 1 that add up to a size, if it is large enough.
func split(r *rand.Rand, size, count int) []int {
	l := slices.Repeat([]int{1}, count)
	for range size - count {
		l[r.IntN(count)]++
	}
	return l
}

// randomRegister returns a register of deals that were possible, of as many as were tried.
func randomRegister(r *rand.Rand, count int) []api.Deal {
	w := newWorld()
	var l []api.Deal
	day := 0
	for range count {
		id := len(l)*7%50 + 1
		if len(l) > 40 {
			id = 100 + len(l)
		}
		x := randomDeal(r, w, id, day)
		if w.apply(x) == api.OK {
			l = append(l, x)
			day += r.IntN(3) / 2
		}
	}
	return l
}

// eachRegister runs a test with small registers; the numbers always come in the same order.
func eachRegister(t *testing.T, count int, test func(r *rand.Rand, l []api.Deal)) {
	t.Helper()
	r := rand.New(rand.NewPCG(7, 27))
	for range count {
		l := randomRegister(r, r.IntN(90))
		test(r, l)
		if t.Failed() {
			for _, x := range l {
				line, _ := right.Write(x)
				t.Log(line)
			}
			return
		}
	}
}

// enough fails unless a kind of case occurred often enough for a test to mean something.
func enough(t *testing.T, name string, count, least int) {
	t.Helper()
	expect.Equal(t, name+" occurred often enough", count >= least, true)
}
