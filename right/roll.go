package right

import (
	"slices"

	"merestone/api"
)

// lotKey orders lots by their numbers.
func lotKey(x api.Lot) [3]int { return [3]int{x.Number} }

// holdingKey orders holdings by their owners.
func holdingKey(x api.Holding) [3]int { return [3]int{x.Owner} }

// easeKey orders eases by their lots, then by their deals.
func easeKey(x api.Ease) [3]int { return [3]int{x.Over, x.For, x.Deal} }

// stintKey orders stints by their lots, then by their owners.
func stintKey(x api.Stint) [3]int { return [3]int{x.Lot, x.Owner} }

// roll returns what a register says.
func (r *register) roll() api.Roll {
	var lots []api.Lot
	for n, x := range r.lots {
		if !r.isThere(n) {
			continue
		}
		var holdings []api.Holding
		for owner, parts := range x.holdings {
			holdings = append(holdings, api.Holding{Owner: owner, Parts: parts})
		}
		lots = append(lots, api.Lot{Number: n, Size: x.size, Holdings: ordered(holdings, holdingKey)})
	}
	return api.Roll{Lots: ordered(lots, lotKey), Eases: ordered(r.eases, easeKey), Stints: ordered(r.stints, stintKey)}
}

// registerOn returns the register on a day. The error of Check.
func registerOn(l []api.Deal, day int) (*register, api.Errno) {
	if _, e := Check(l); e != api.OK {
		return newRegister(), e
	}
	return registerOf(On(l, day)), api.OK
}

// Roll returns what the register says on a day.
func Roll(l []api.Deal, day int) (api.Roll, api.Errno) {
	r, e := registerOn(l, day)
	return r.roll(), e
}

// Total returns the sum of the sizes of all lots on a day.
func Total(l []api.Deal, day int) int {
	roll, _ := Roll(l, day)
	sum := 0
	for _, x := range roll.Lots {
		sum += x.Size
	}
	return sum
}

// Lots returns the numbers of the lots on a day.
func Lots(l []api.Deal, day int) []int {
	roll, _ := Roll(l, day)
	return numbersOf(roll.Lots)
}

// numbersOf returns the numbers of lots.
func numbersOf(lots []api.Lot) []int {
	var numbers []int
	for _, x := range lots {
		numbers = append(numbers, x.Number)
	}
	return numbers
}

// LotOf returns a lot on a day.
func LotOf(l []api.Deal, day, lot int) (api.Lot, api.Errno) {
	roll, e := Roll(l, day)
	if e != api.OK {
		return api.Lot{}, e
	}
	at := slices.Index(numbersOf(roll.Lots), lot)
	if at < 0 {
		return api.Lot{}, api.ErrNone
	}
	return roll.Lots[at], api.OK
}

// Parts returns how many parts of a lot an owner holds on a day.
func Parts(l []api.Deal, day, lot, owner int) int {
	r, _ := registerOn(l, day)
	return r.lots[lot].holdings[owner]
}

// Owns returns the lots of which an owner holds parts on a day.
func Owns(l []api.Deal, day, owner int) []int {
	r, _ := registerOn(l, day)
	var owned []int
	for n, x := range r.lots {
		if x.holdings[owner] > 0 {
			owned = append(owned, n)
		}
	}
	return ascending(owned)
}

// Over returns the lots for which there are eases over a lot on a day.
func Over(l []api.Deal, day, lot int) []int {
	roll, _ := Roll(l, day)
	var lots []int
	for _, x := range roll.Eases {
		if x.Over == lot {
			lots = append(lots, x.For)
		}
	}
	return lots
}

// For returns the lots over which there are eases for a lot on a day.
func For(l []api.Deal, day, lot int) []int {
	roll, _ := Roll(l, day)
	var lots []int
	for _, x := range roll.Eases {
		if x.For == lot {
			lots = append(lots, x.Over)
		}
	}
	return lots
}

// May says whether whoever has a lot may go over another one on a day, or over the lot itself.
func May(l []api.Deal, day, lot, over int) bool {
	r, _ := registerOn(l, day)
	return lot == over && r.isThere(lot) || r.easeAt(over, lot) >= 0
}

// Beasts returns how many beasts may graze on a lot on a day.
func Beasts(l []api.Deal, day, lot int) int {
	r, _ := registerOn(l, day)
	sum := 0
	for _, x := range r.stintsOf(lot) {
		sum += x.Beasts
	}
	return sum
}

// Grazes returns how many beasts an owner may graze on a lot on a day.
func Grazes(l []api.Deal, day, lot, owner int) int {
	r, _ := registerOn(l, day)
	if at := r.stintAt(lot, owner); at >= 0 {
		return r.stints[at].Beasts
	}
	return 0
}
