package court

import (
	"maps"
	"slices"

	"merestone/api"
)

// matter is a case: its claim, the last step that moved it, and its last ruling (0 if there is none).
type matter struct {
	claim, last api.Step
	ruling      int
}

// docket is what steps have come to.
type docket struct {
	ground
	cases  map[int]matter
	length int
	day    int // of the last step
}

// newDocket returns the docket of no steps.
func newDocket() *docket { return &docket{ground: newGround(), cases: map[int]matter{}} }

// docketOf returns what the steps up to a day have come to.
func docketOf(l []api.Step, day int) *docket {
	d := newDocket()
	for x := range until(l, day) {
		d.take(x)
	}
	return d
}

// take takes the next step in.
func (d *docket) take(x api.Step) {
	d.weigh(x)
	d.move(x)
	d.length++
	d.day = x.Day
}

// behind returns the state of a case behind its last step, of some kind.
func behind(kind uint8) uint8 {
	switch kind {
	case api.StepClaim:
		return api.CaseOpen
	case api.StepNotice:
		return api.CaseTold
	case api.StepObject:
		return api.CaseFought
	case api.StepView:
		return api.CaseViewed
	case api.StepRule:
		return api.CaseRuled
	case api.StepAppeal:
		return api.CaseAppealed
	default:
		return api.CaseNone
	}
}

// move moves the case that a step opens, or is of.
func (d *docket) move(x api.Step) {
	if x.Kind == api.StepClaim {
		d.cases[x.Id] = matter{claim: x, last: x}
		return
	}
	m, is := d.cases[x.Of]
	if !is {
		return
	}
	m.last = x
	if x.Kind == api.StepRule {
		m.ruling = x.Id
	}
	d.cases[x.Of] = m
}

// grace returns for how many days the other side may object or appeal, by the states of cases.
func grace() [api.CaseFallen + 1]int {
	return [...]int{api.CaseTold: api.ObjectDays, api.CaseRuled: api.AppealDays, api.CaseFallen: 0}
}

// isOver says whether the days that the other side has behind the last step of a case, in a state, are over on a day.
func (m matter) isOver(state uint8, day int) bool { return day > m.last.Day+grace()[state] }

// state returns the state of a case on a day behind all steps.
func (d *docket) state(id, day int) uint8 {
	m := d.cases[id]
	state := behind(m.last.Kind)
	switch {
	case state != api.CaseRuled:
		return state
	case !d.isRuling(m.ruling):
		return api.CaseFallen
	case m.isOver(state, day):
		return api.CaseFinal
	}
	return state
}

// isDue says whether a case may be ruled on a day behind all steps.
func (d *docket) isDue(id, day int) bool {
	switch state := d.state(id, day); state {
	case api.CaseViewed, api.CaseFallen:
		return true
	case api.CaseTold:
		return d.cases[id].isOver(state, day)
	default:
		return false
	}
}

// chosen returns the Ids of the cases to be chosen, ascending.
func (d *docket) chosen(choose func(id int) bool) []int {
	return slices.DeleteFunc(slices.Sorted(maps.Keys(d.cases)), func(id int) bool { return !choose(id) })
}

// Case returns the state of a case on a day.
func Case(l []api.Step, id, day int) uint8 { return docketOf(l, day).state(id, day) }

// Cases returns the cases that there are on a day.
func Cases(l []api.Step, day int) []int {
	return docketOf(l, day).chosen(func(int) bool { return true })
}

// Ruling returns the last ruling of a case up to a day.
func Ruling(l []api.Step, id, day int) (int, bool) {
	ruling := docketOf(l, day).cases[id].ruling
	return ruling, ruling != 0
}

// Deadline returns the last day on which the other side of a case may object or appeal.
func Deadline(l []api.Step, id, day int) (int, bool) {
	d := docketOf(l, day)
	days := grace()[d.state(id, day)]
	if days == 0 {
		return 0, false
	}
	return d.cases[id].last.Day + days, true
}

// Due returns the cases that may be ruled on a day.
func Due(l []api.Step, day int) []int {
	d := docketOf(l, day)
	return d.chosen(func(id int) bool { return d.isDue(id, day) })
}

// Awards returns the last rulings of the cases that are final on a day.
func Awards(l []api.Step, day int) []int {
	d := docketOf(l, day)
	var rulings []int
	for _, id := range d.chosen(func(id int) bool { return d.state(id, day) == api.CaseFinal }) {
		rulings = append(rulings, d.cases[id].ruling)
	}
	slices.Sort(rulings)
	return rulings
}
