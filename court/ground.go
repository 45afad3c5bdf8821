package court

import (
	"iter"
	"maps"
	"slices"

	"merestone/api"
)

// records is the records of a docket, by their Ids.
type records struct {
	entered         map[int]api.Record
	withdrawn, lost map[int]bool // lost are those that a ruling that stands sets aside
}

// isRecord says whether a record has been entered.
func (r records) isRecord(id int) bool {
	_, is := r.entered[id]
	return is
}

// holds says whether a record stands.
func (r records) holds(id int) bool { return r.isRecord(id) && !r.withdrawn[id] && !r.lost[id] }

// standing returns the records that stand, in the order of their Ids.
func (r records) standing() []api.Record {
	var l []api.Record
	for _, id := range slices.Sorted(maps.Keys(r.entered)) {
		if r.holds(id) {
			l = append(l, r.entered[id])
		}
	}
	return l
}

// ground is what stands: records, and the rulings that rest on them.
type ground struct {
	records
	rulings map[int]api.Step // those that stand, by their Ids
}

// newGround returns the ground of no steps.
func newGround() ground {
	return ground{
		records: records{entered: map[int]api.Record{}, withdrawn: map[int]bool{}, lost: map[int]bool{}},
		rulings: map[int]api.Step{},
	}
}

// isRuling says whether a ruling stands.
func (g ground) isRuling(id int) bool {
	_, is := g.rulings[id]
	return is
}

// restingOn returns the rulings that stand and have a record in their proofs, ascending.
func (g ground) restingOn(record int) []int {
	var ids []int
	for _, id := range slices.Sorted(maps.Keys(g.rulings)) {
		if slices.Contains(g.rulings[id].Proof, record) {
			ids = append(ids, id)
		}
	}
	return ids
}

// weigh lets a step change what stands, and returns the rulings that fall by it, and the records that stand again.
func (g ground) weigh(x api.Step) (falls, back []int) {
	switch x.Kind {
	case api.StepRecord:
		g.entered[x.Id] = x.Record
	case api.StepRule:
		g.rulings[x.Id] = x
	case api.StepWithdraw:
		// First of all, so that it does not stand again if it was set aside.
		g.withdrawn[x.Of] = true
		return g.without(x.Of)
	case api.StepAside:
		falls, back = g.without(x.Of)
		// Only now, as it has the record in its own proof.
		g.rulings[x.Id] = x
		g.lost[x.Of] = true
	}
	return falls, back
}

// without lets the rulings fall that rest on a record, and returns them, and the records that stand again.
func (g ground) without(record int) (falls, back []int) {
	falls = g.restingOn(record)
	for _, id := range falls {
		x := g.rulings[id]
		delete(g.rulings, id)
		if x.Kind == api.StepAside {
			delete(g.lost, x.Of)
			if g.holds(x.Of) {
				back = append(back, x.Of)
			}
		}
	}
	slices.Sort(back)
	return falls, back
}

// until yields the steps of a docket up to a day.
func until(l []api.Step, day int) iter.Seq[api.Step] {
	return func(yield func(api.Step) bool) {
		for _, x := range l {
			if x.Day > day || !yield(x) {
				return
			}
		}
	}
}

// Standing returns the records that stand on a day.
func Standing(l []api.Step, day int) []api.Record { return docketOf(l, day).standing() }

// Rulings returns the rulings that stand on a day.
func Rulings(l []api.Step, day int) []int {
	return slices.Sorted(maps.Keys(docketOf(l, day).rulings))
}

// Stands says whether a record or a ruling stands on a day.
func Stands(l []api.Step, id, day int) bool {
	d := docketOf(l, day)
	return d.holds(id) || d.isRuling(id)
}

// Falls returns the rulings that fall by a step.
func Falls(l []api.Step, id int) []int {
	falls, _ := moved(l, id)
	return falls
}

// Back returns the records that stand again by a step.
func Back(l []api.Step, id int) []int {
	_, back := moved(l, id)
	return back
}

// moved returns the rulings that fall by a step, and the records that stand again.
func moved(l []api.Step, id int) (falls, back []int) {
	g := newGround()
	for x := range until(l, api.MaxDay) {
		falls, back = g.weigh(x)
		if x.Id == id {
			return falls, back
		}
	}
	return nil, nil
}

// WouldFall returns the rulings that stand on a day and rest on a record.
func WouldFall(l []api.Step, record, day int) []int { return docketOf(l, day).restingOn(record) }
