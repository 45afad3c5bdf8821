package right

import (
	"slices"

	"merestone/api"
)

// made returns the lots that a deal made, and those from which it made them.
func made(x api.Deal) (lots, from []int) {
	switch x.Kind {
	case api.DealEnter:
		return []int{x.Lot}, nil
	case api.DealDivide:
		return x.Into, []int{x.Lot}
	case api.DealMerge:
		return []int{x.Lot}, x.Into
	default:
		return nil, nil
	}
}

// lineOf returns the deals from which a lot comes, in the order of the register. ErrNone if it was never used.
func lineOf(l []api.Deal, lot int) ([]api.Deal, api.Errno) {
	if _, e := Check(l); e != api.OK {
		return nil, e
	}
	// A lot is made before lots are made from it, so that all that are wanted are known when their deal is met from the end.
	wanted := map[int]bool{lot: true}
	var line []api.Deal
	for _, x := range slices.Backward(l) {
		lots, from := made(x)
		if !slices.ContainsFunc(lots, func(n int) bool { return wanted[n] }) {
			continue
		}
		line = append(line, x)
		for _, n := range from {
			wanted[n] = true
		}
	}
	if len(line) == 0 {
		return nil, api.ErrNone
	}
	slices.Reverse(line)
	return line, api.OK
}

// idsOf returns the Ids of deals.
func idsOf(l []api.Deal) []int {
	var ids []int
	for _, x := range l {
		ids = append(ids, x.Id)
	}
	return ids
}

// Line returns the deals from which a lot comes.
func Line(l []api.Deal, lot int) ([]int, api.Errno) {
	line, e := lineOf(l, lot)
	return idsOf(line), e
}

// Roots returns the lots that were entered, from which a lot comes.
func Roots(l []api.Deal, lot int) ([]int, api.Errno) {
	line, e := lineOf(l, lot)
	var roots []int
	for _, x := range line {
		if x.Kind == api.DealEnter {
			roots = append(roots, x.Lot)
		}
	}
	return ascending(roots), e
}

// place returns the index of the deal with an Id. The error of Check, and ErrNone if there is none.
func place(l []api.Deal, id int) (int, api.Errno) {
	if _, e := Check(l); e != api.OK {
		return 0, e
	}
	at := slices.Index(idsOf(l), id)
	if at < 0 {
		return 0, api.ErrNone
	}
	return at, api.OK
}

// fallen returns the deals of a register that fall if one is taken out.
func fallen(l []api.Deal, id int) []int {
	r := newRegister()
	var ids []int
	for _, x := range l {
		if x.Id == id || r.take(x) != api.OK {
			ids = append(ids, x.Id)
		}
	}
	return ids
}

// Falls returns the deals that fall if one is taken out.
func Falls(l []api.Deal, id int) ([]int, api.Errno) {
	if _, e := place(l, id); e != api.OK {
		return nil, e
	}
	return fallen(l, id), api.OK
}

// Without returns the register without the deals that fall if one is taken out.
func Without(l []api.Deal, id int) ([]api.Deal, api.Errno) {
	falls, e := Falls(l, id)
	if e != api.OK {
		return nil, e
	}
	return chosen(l, func(x api.Deal) bool { return !slices.Contains(falls, x.Id) }), api.OK
}

// Needs returns the deals without any single one of which a deal would fall.
func Needs(l []api.Deal, id int) ([]int, api.Errno) {
	at, e := place(l, id)
	if e != api.OK {
		return nil, e
	}
	var needs []int
	for _, x := range l[:at] {
		if slices.Contains(fallen(l[:at+1], x.Id), id) {
			needs = append(needs, x.Id)
		}
	}
	return needs, api.OK
}
