package plan

import (
	"iter"

	"merestone/api"
	"merestone/line"
)

const (
	maxRead = 40     // how many points readings may have
	maxSize = 100000 // how far a Size may lie from 0, and the greatest Slack
)

// CheckReadings returns whether a list is readings of n points.
func CheckReadings(n int, l []api.Reading) api.Errno {
	if !between(1, n, maxRead) {
		return api.ErrArg
	}
	if len(l) > api.MaxReadings {
		return api.ErrLimit
	}
	for _, r := range l {
		if !isReading(n, r) {
			return api.ErrArg
		}
	}
	return api.OK
}

// isReading says whether a reading is one of two of n points.
func isReading(n int, r api.Reading) bool {
	return arePoints(n, r.From, r.To) && r.From != r.To &&
		between(-maxSize, r.Size, maxSize) && between(0, r.Slack, maxSize) && between(1, r.Weight, api.MaxHeavy)
}

// pairsRead yields the points of each reading.
func pairsRead(l []api.Reading) iter.Seq2[int, int] {
	return func(yield func(int, int) bool) {
		for _, r := range l {
			if !yield(r.From, r.To) {
				return
			}
		}
	}
}

// Joined returns the classes of points that lead to one another by readings.
func Joined(n int, l []api.Reading) ([][]int, api.Errno) {
	if e := CheckReadings(n, l); e != api.OK {
		return nil, e
	}
	return apart().joined(pairsRead(l)).lists(n), api.OK
}

// Loose returns the system of what readings say.
func Loose(n int, l []api.Reading) (api.System, api.Errno) {
	if e := CheckReadings(n, l); e != api.OK {
		return api.System{}, e
	}
	s := api.System{N: n}
	for k, r := range l {
		s.Bounds = append(s.Bounds,
			api.Bound{From: r.From, To: r.To, Most: r.Size + r.Slack, Record: k + 1},
			api.Bound{From: r.To, To: r.From, Most: r.Slack - r.Size, Record: k + 1})
	}
	return s, api.OK
}

// Misclosure returns a circle of readings of which one must be wrong, and what it misses, if readings do not agree.
func Misclosure(n int, l []api.Reading) ([]int, int, bool, api.Errno) {
	s, e := Loose(n, l)
	if e != api.OK {
		return nil, 0, false, e
	}
	bounds, is, _ := line.Circle(s)
	var circle []int
	by := 0
	for _, i := range bounds {
		circle = append(circle, s.Bounds[i].Record-1)
		by -= s.Bounds[i].Most
	}
	return circle, by, is, api.OK
}

// CheckMisclosure says whether a list is a circle of readings that misses so much, and more than 0.
func CheckMisclosure(n int, l []api.Reading, circle []int, by int) (bool, api.Errno) {
	if e := CheckReadings(n, l); e != api.OK {
		return false, e
	}
	if by <= 0 || !areDifferent(l, circle) {
		return false, api.OK
	}
	first, slack := l[circle[0]], 0
	for _, i := range circle {
		slack += l[i].Slack
	}
	size, is := around(l, circle, first.From)
	if !is {
		size, is = around(l, circle, first.To)
	}
	return is && max(size, -size)-slack == by, api.OK
}

// areDifferent says whether a list is two or more different indices of readings.
func areDifferent(l []api.Reading, circle []int) bool {
	return len(circle) >= 2 && allBetween(0, circle, len(l)-1) && len(ascending(circle)) == len(circle)
}

// around goes from a point along readings, adds up their sizes, and says whether they lead back to it.
func around(l []api.Reading, circle []int, from int) (size int, is bool) {
	at := from
	for _, i := range circle {
		switch r := l[i]; at {
		case r.From:
			size += r.Size
			at = r.To
		case r.To:
			size -= r.Size
			at = r.From
		default:
			return 0, false
		}
	}
	return size, at == from
}

// Suspects returns the readings without each of which alone the others agree.
func Suspects(n int, l []api.Reading) ([]int, api.Errno) {
	s, e := Loose(n, l)
	if e != api.OK {
		return nil, e
	}
	suspects, _ := line.Blame(s)
	for i := range suspects {
		suspects[i]--
	}
	return suspects, api.OK
}

// Truth returns what the difference of the points of a reading can be by all others.
func Truth(n int, l []api.Reading, k int) (api.Span, api.Errno) {
	s, e := Loose(n, l)
	if e != api.OK {
		return api.Span{}, e
	}
	if !between(0, k, len(l)-1) {
		return api.Span{}, api.ErrArg
	}
	others, _ := line.Without(s, []int{k + 1})
	return line.Between(others, l[k].From, l[k].To)
}
