package limits

import (
	"cmp"
	"slices"

	"merestone/api"
	"merestone/line"
)

// Conflict returns the records that show that all of them contradict each other.
func Conflict(f api.Field, l []api.Record) ([]int, bool, api.Errno) {
	s, e := System(f, l)
	if e != api.OK {
		return nil, false, e
	}
	circle, is, _ := line.Circle(s)
	if !is {
		return nil, false, api.OK
	}
	ids, _ := line.Records(s, circle)
	return ids, true, api.OK
}

// CheckConflict says whether some records contradict each other without the others.
func CheckConflict(f api.Field, l []api.Record, ids []int) (bool, api.Errno) {
	s, e := System(f, l)
	if e != api.OK || !picked(ids, idsOf(l)) {
		return false, e
	}
	agree, _ := line.Consistent(alone(s, l, ids))
	return !agree, api.OK
}

// Why returns the records that show an end of the region of a corner.
func Why(f api.Field, l []api.Record, c api.Corner, upper bool) ([]int, api.Errno) {
	g, e := settled(f, l, isCorner(f, c))
	if e != api.OK {
		return nil, e
	}
	from, to := pointOf(f, c), 0
	if upper {
		from, to = to, from
	}
	path, _ := line.Path(g.System, from, to)
	ids, _ := line.Records(g.System, path)
	return ids, api.OK
}

// CheckWhy says whether some records, without the others, agree and keep an end of the region of a corner.
func CheckWhy(f api.Field, l []api.Record, c api.Corner, upper bool, end int, ids []int) (bool, api.Errno) {
	s, e := checked(f, l, isCorner(f, c))
	if e != api.OK || !picked(ids, idsOf(l)) {
		return false, e
	}
	g, agree := groundOf(alone(s, l, ids))
	if !agree {
		return false, api.OK
	}
	p := pointOf(f, c)
	if upper {
		return g.high(p) <= end, api.OK
	}
	return g.low(p) >= end, api.OK
}

// idsOf returns the Ids of records.
func idsOf(l []api.Record) []int {
	var ids []int
	for _, r := range l {
		ids = append(ids, r.Id)
	}
	return ids
}

// picked says whether a list is strictly ascending and has items of another one alone, which is strictly ascending itself.
func picked[T cmp.Ordered](some, all []T) bool {
	for _, x := range all {
		if len(some) > 0 && some[0] == x {
			some = some[1:]
		}
	}
	return len(some) == 0
}

// alone returns the system of records without those that are not among some Ids.
func alone(s api.System, l []api.Record, ids []int) api.System {
	others := slices.DeleteFunc(idsOf(l), func(id int) bool { return slices.Contains(ids, id) })
	left, _ := line.Without(s, others)
	return left
}
