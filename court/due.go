package court

import (
	"merestone/api"
	"merestone/limits"
)

// Conflict returns which records that stand on a day show that they contradict each other.
func Conflict(f api.Field, l []api.Step, day int) ([]int, bool, api.Errno) {
	if _, e := Check(f, l); e != api.OK {
		return nil, false, e
	}
	return limits.Conflict(f, Standing(l, day))
}

// sitting returns the bench of a docket that goes on on a day.
func sitting(f api.Field, l []api.Step, day int) (*bench, api.Errno) {
	b, _, e := benchOf(f, l)
	switch {
	case e != api.OK:
		return nil, e
	case !between(0, day, api.MaxDay):
		return nil, api.ErrArg
	case day < b.day:
		return nil, api.ErrTime
	}
	return b, api.OK
}

// Aside returns the step that sets the worst record of a conflict aside.
func Aside(f api.Field, l []api.Step, day int) (api.Step, bool, api.Errno) {
	b, e := sitting(f, l, day)
	if e != api.OK {
		return api.Step{}, false, e
	}
	return b.setAside(day)
}

// setAside is Aside for the next step.
func (b *bench) setAside(day int) (api.Step, bool, api.Errno) {
	standing := b.standing()
	ids, is, e := limits.Conflict(b.field, standing)
	if !is {
		return api.Step{}, false, e
	}
	last, _ := LastOf(standing, ids)
	return api.Step{Id: b.length + 1, Day: day, Kind: api.StepAside, Of: last, Proof: ids}, true, api.OK
}

// Settle returns a docket that goes on until the records that stand agree.
func Settle(f api.Field, l []api.Step, day int) ([]api.Step, api.Errno) {
	b, e := sitting(f, l, day)
	if e != api.OK {
		return nil, e
	}
	settled := copied(l)
	for {
		x, is, e := b.setAside(day)
		if e != api.OK {
			return nil, e
		}
		if !is {
			return settled, api.OK
		}
		if b.length == api.MaxSteps {
			return nil, api.ErrLimit
		}
		b.take(x)
		settled = append(settled, x)
	}
}

// Propose returns the ruling of a case that the records make due.
func Propose(f api.Field, l []api.Step, id, day int) (api.Step, bool, api.Errno) {
	b, e := sitting(f, l, day)
	if e != api.OK {
		return api.Step{}, false, e
	}
	if b.state(id, day) == api.CaseNone {
		return api.Step{}, false, api.ErrNone
	}
	if !b.isDue(id, day) {
		return api.Step{}, false, api.OK
	}
	x := api.Step{Id: b.length + 1, Day: day, Kind: api.StepRule, Of: id}
	standing, strip := b.standing(), b.cases[id].claim.Strip
	x.Award, e = limits.Award(f, standing, strip)
	if e != api.OK {
		return api.Step{}, false, e
	}
	if x.Award != api.AwardOpen {
		upper, _ := sideOf(strip, x.Award)
		x.Proof, _ = limits.Why(f, standing, cornerOf(strip), upper)
	}
	return x, true, api.OK
}
