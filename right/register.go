package right

import (
	"maps"
	"slices"

	"merestone/api"
)

// lot is a lot that was used at some time, with its holdings: parts by owners. One that is gone has none.
type lot struct {
	size     int
	holdings map[int]int
}

// register is what deals have done.
type register struct {
	lots   map[int]lot
	eases  []api.Ease
	stints []api.Stint
	ids    map[int]bool
	day    int
}

// newRegister returns the register of no deals.
func newRegister() *register {
	return &register{lots: map[int]lot{}, ids: map[int]bool{}}
}

// registerOf returns the register of deals that Check accepts.
func registerOf(l []api.Deal) *register {
	r := newRegister()
	for _, x := range l {
		r.take(x)
	}
	return r
}

// take takes a deal in, or returns why it is refused.
func (r *register) take(x api.Deal) api.Errno {
	if e := CheckDeal(x); e != api.OK {
		return e
	}
	if r.ids[x.Id] {
		return api.ErrTwice
	}
	if x.Day < r.day {
		return api.ErrTime
	}
	if e := r.perform(x); e != api.OK {
		return e
	}
	r.ids[x.Id] = true
	r.day = x.Day
	return api.OK
}

// A deal that is not possible is given up by a panic with one of these.
type (
	absent  struct{} // what has to be there is not
	present struct{} // what must not be there, or must not have been used, is there, or was used
	short   struct{} // somebody does not hold so many parts
	unlike  struct{} // sizes do not fit, or lots are not alike
)

// must gives a deal up, unless what it needs holds.
func must(holds bool, otherwise any) {
	if !holds {
		panic(otherwise)
	}
}

// perform does what a well-formed deal does, or nothing, if it is not possible.
func (r *register) perform(x api.Deal) (e api.Errno) {
	defer func() {
		switch why := recover().(type) {
		case nil:
		case absent:
			e = api.ErrNone
		case present:
			e = api.ErrTwice
		case short:
			e = api.ErrShort
		case unlike:
			e = api.ErrUnlike
		default:
			panic(why)
		}
	}()
	acts()[x.Kind](r, x)
	return api.OK
}

// acts returns what deals do, by their kinds. Each act first sees to all that the deal needs, in the order of the errors.
func acts() map[uint8]func(*register, api.Deal) {
	return map[uint8]func(*register, api.Deal){
		api.DealEnter:   (*register).enter,
		api.DealGrant:   (*register).grant,
		api.DealDivide:  (*register).divide,
		api.DealMerge:   (*register).merge,
		api.DealWay:     (*register).way,
		api.DealRelease: (*register).release,
		api.DealStint:   (*register).stint,
		api.DealEnd:     (*register).end,
	}
}

// isThere says whether a lot is there.
func (r *register) isThere(n int) bool { return len(r.lots[n].holdings) > 0 }

// wasUsed says whether a lot is there, or was.
func (r *register) wasUsed(n int) bool {
	_, was := r.lots[n]
	return was
}

// easeAt returns the index of the ease over a lot for another one; -1 if there is none.
func (r *register) easeAt(over, other int) int {
	return slices.IndexFunc(r.eases, func(x api.Ease) bool {
		x.Deal = 0
		return x == api.Ease{Over: over, For: other}
	})
}

// stintAt returns the index of the stint of an owner on a lot; -1 if there is none.
func (r *register) stintAt(n, owner int) int {
	return slices.IndexFunc(r.stints, func(x api.Stint) bool { return x.Lot == n && x.Owner == owner })
}

// stintsOf returns the stints on a lot, without its number and without their deals, by their owners.
func (r *register) stintsOf(n int) []api.Stint {
	var l []api.Stint
	for _, x := range r.stints {
		if x.Lot == n {
			l = append(l, api.Stint{Owner: x.Owner, Beasts: x.Beasts})
		}
	}
	return ordered(l, stintKey)
}

func (r *register) enter(x api.Deal) {
	must(!r.wasUsed(x.Lot), present{})
	r.lots[x.Lot] = lot{x.Size, map[int]int{x.To: api.Whole}}
}

func (r *register) grant(x api.Deal) {
	must(r.isThere(x.Lot), absent{})
	holdings := r.lots[x.Lot].holdings
	must(holdings[x.From] >= x.Parts, short{})
	holdings[x.From] -= x.Parts
	holdings[x.To] += x.Parts
	if holdings[x.From] == 0 {
		delete(holdings, x.From)
	}
}

func (r *register) divide(x api.Deal) {
	must(r.isThere(x.Lot), absent{})
	must(!slices.ContainsFunc(x.Into, r.wasUsed), present{})
	sum := 0
	for _, size := range x.Sizes {
		sum += size
	}
	must(sum == r.lots[x.Lot].size, unlike{})
	r.replace([]int{x.Lot}, x.Into, x.Sizes)
}

func (r *register) merge(x api.Deal) {
	for _, n := range x.Into {
		must(r.isThere(n), absent{})
	}
	must(!r.wasUsed(x.Lot), present{})
	first, sum := x.Into[0], 0
	for _, n := range x.Into {
		must(maps.Equal(r.lots[n].holdings, r.lots[first].holdings), unlike{})
		must(slices.Equal(r.stintsOf(n), r.stintsOf(first)), unlike{})
		sum += r.lots[n].size
	}
	must(sum <= api.MaxSize, unlike{})
	r.replace(x.Into, []int{x.Lot}, []int{sum})
}

func (r *register) way(x api.Deal) {
	must(r.isThere(x.Lot) && r.isThere(x.Other), absent{})
	must(r.easeAt(x.Lot, x.Other) < 0, present{})
	r.eases = append(r.eases, api.Ease{Over: x.Lot, For: x.Other, Deal: x.Id})
}

func (r *register) release(x api.Deal) {
	at := r.easeAt(x.Lot, x.Other)
	must(at >= 0, absent{})
	r.eases = slices.Delete(r.eases, at, at+1)
}

func (r *register) stint(x api.Deal) {
	must(r.isThere(x.Lot), absent{})
	must(r.stintAt(x.Lot, x.To) < 0, present{})
	r.stints = append(r.stints, api.Stint{Lot: x.Lot, Owner: x.To, Beasts: x.Size, Deal: x.Id})
}

func (r *register) end(x api.Deal) {
	at := r.stintAt(x.Lot, x.To)
	must(at >= 0, absent{})
	r.stints = slices.Delete(r.stints, at, at+1)
}

// replace puts fresh lots in the place of old ones that are alike. What held for the first old one holds for each fresh one.
func (r *register) replace(old, fresh, sizes []int) {
	for i, n := range fresh {
		r.lots[n] = lot{sizes[i], maps.Clone(r.lots[old[0]].holdings)}
	}
	for _, n := range old {
		clear(r.lots[n].holdings)
	}
	r.eases = r.easesWith(old, fresh)
	r.stints = r.stintsWith(old, fresh)
}

// easesWith returns the eases with fresh lots in the place of old ones. Those among the old ones are gone.
func (r *register) easesWith(old, fresh []int) []api.Ease {
	kept := make([]api.Ease, 0, len(r.eases))
	var moved []api.Ease
	for _, x := range r.eases {
		over, other := slices.Contains(old, x.Over), slices.Contains(old, x.For)
		if !over && !other {
			kept = append(kept, x)
			continue
		}
		for _, n := range fresh {
			if over && !other {
				moved = append(moved, api.Ease{Over: n, For: x.For, Deal: x.Deal})
			}
			if other && !over {
				moved = append(moved, api.Ease{Over: x.Over, For: n, Deal: x.Deal})
			}
		}
	}
	// Of several that have become the same one, the first one in this order has the least deal.
	moved = slices.CompactFunc(ordered(moved, easeKey), func(x, y api.Ease) bool {
		x.Deal, y.Deal = 0, 0
		return x == y
	})
	return append(kept, moved...)
}

// stintsWith returns the stints, with those on the first of the old lots on each fresh one instead.
func (r *register) stintsWith(old, fresh []int) []api.Stint {
	var stints []api.Stint
	for _, x := range r.stints {
		if !slices.Contains(old, x.Lot) {
			stints = append(stints, x)
		}
		if x.Lot == old[0] {
			for _, n := range fresh {
				stints = append(stints, api.Stint{Lot: n, Owner: x.Owner, Beasts: x.Beasts, Deal: x.Deal})
			}
		}
	}
	return stints
}
