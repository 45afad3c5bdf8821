package court

import (
	"merestone/api"
	"merestone/deed"
	"merestone/limits"
)

// bench is a docket that judges the next step.
type bench struct {
	*docket
	field  api.Field
	nature int         // how many bounds there are by nature
	bounds map[int]int // how many bounds each record has
}

// benchOf returns the bench behind all steps of a docket; otherwise the index of the first one that is refused, and why.
func benchOf(f api.Field, l []api.Step) (*bench, int, api.Errno) {
	nature, e := deed.Nature(f)
	if e != api.OK {
		return nil, 0, e
	}
	b := &bench{docket: newDocket(), field: f, nature: len(nature), bounds: map[int]int{}}
	for i, x := range l {
		if e := b.hear(x); e != api.OK {
			return nil, i, e
		}
	}
	return b, 0, api.OK
}

// hear takes the next step in, or returns why it is refused.
func (b *bench) hear(x api.Step) api.Errno {
	if b.length == api.MaxSteps {
		return api.ErrLimit
	}
	if e := CheckStep(b.field, x); e != api.OK {
		return e
	}
	if x.Id != b.length+1 {
		return api.ErrArg
	}
	if x.Day < b.day {
		return api.ErrTime
	}
	if e := b.judge(x); e != api.OK {
		return e
	}
	b.take(x)
	return api.OK
}

// refusal is why a step is refused.
type refusal api.Errno

// must refuses a step, unless what it needs holds.
func must(holds bool, otherwise api.Errno) {
	if !holds {
		panic(refusal(otherwise))
	}
}

// judge returns why the next step is refused by what came before it.
func (b *bench) judge(x api.Step) (e api.Errno) {
	defer func() {
		why := recover()
		if refused, is := why.(refusal); is {
			e = api.Errno(refused)
		} else if why != nil {
			panic(why)
		}
	}()
	judges()[x.Kind](b, x)
	return api.OK
}

// judges returns what sees to all that steps need, by their kinds, in the order of the errors.
func judges() map[uint8]func(*bench, api.Step) {
	return map[uint8]func(*bench, api.Step){
		api.StepRecord:   (*bench).record,
		api.StepWithdraw: (*bench).withdraw,
		api.StepClaim:    (*bench).claim,
		api.StepNotice:   (*bench).notice,
		api.StepObject:   (*bench).object,
		api.StepView:     (*bench).view,
		api.StepRule:     (*bench).rule,
		api.StepAside:    (*bench).aside,
		api.StepAppeal:   (*bench).appeal,
	}
}

func (b *bench) record(x api.Step) {
	bounds, _ := deed.Bounds(b.field, x.Record.Call, x.Id)
	b.bounds[x.Id] = len(bounds)
	must(b.fit(append(b.standing(), x.Record)), api.ErrLimit)
}

// fit says whether records are not too many for package limits.
func (b *bench) fit(l []api.Record) bool {
	bounds := b.nature
	for _, r := range l {
		bounds += b.bounds[r.Id]
	}
	return len(l) <= api.MaxRecords && bounds <= api.MaxBounds
}

func (b *bench) withdraw(x api.Step) {
	must(b.isRecord(x.Of), api.ErrNone)
	must(!b.withdrawn[x.Of], api.ErrState)
}

func (b *bench) claim(x api.Step) {
	p := b.field.Parcels[x.Party]
	must(p.From <= x.Strip.Station && x.Strip.Station < p.To, api.ErrNone)
	must(between(p.South, x.Strip.Limit, p.South+1), api.ErrNone)
}

// stateFor returns the state of the case of a step, on its day.
func (b *bench) stateFor(x api.Step) uint8 {
	state := b.state(x.Of, x.Day)
	must(state != api.CaseNone, api.ErrNone)
	return state
}

func (b *bench) notice(x api.Step) { must(b.stateFor(x) == api.CaseOpen, api.ErrState) }

func (b *bench) object(x api.Step) {
	state := b.stateFor(x)
	must(state == api.CaseTold, api.ErrState)
	must(!b.cases[x.Of].isOver(state, x.Day), api.ErrLate)
}

func (b *bench) view(x api.Step) {
	state := b.stateFor(x)
	must(state == api.CaseFought || state == api.CaseAppealed, api.ErrState)
}

func (b *bench) appeal(x api.Step) {
	state := b.stateFor(x)
	must(state != api.CaseFinal, api.ErrLate)
	must(state == api.CaseRuled, api.ErrState)
}

func (b *bench) rule(x api.Step) {
	state, due := b.stateFor(x), b.isDue(x.Of, x.Day)
	must(due || state != api.CaseTold, api.ErrEarly)
	must(due, api.ErrState)
	strip := b.cases[x.Of].claim.Strip
	if x.Award == api.AwardOpen {
		award, e := limits.Award(b.field, b.standing(), strip)
		must(len(x.Proof) == 0 && e == api.OK && award == api.AwardOpen, api.ErrProof)
		return
	}
	upper, end := sideOf(strip, x.Award)
	shown, _ := limits.CheckWhy(b.field, b.evidence(x), cornerOf(strip), upper, end, x.Proof)
	must(shown, api.ErrProof)
}

// cornerOf returns the corner of a strip.
func cornerOf(s api.Strip) api.Corner { return api.Corner{Limit: s.Limit, Station: s.Station} }

// sideOf returns which end of the region of its corner has to be shown for an award of a whole strip, and at what offset.
func sideOf(s api.Strip, award uint8) (upper bool, end int) {
	if award == api.AwardNorth {
		return true, s.From
	}
	return false, s.To
}

// evidence returns the records of a proof, which have to stand.
func (b *bench) evidence(x api.Step) []api.Record {
	standing := b.standing()
	// Records that stand again can be too many, and nothing is shown then.
	must(b.fit(standing), api.ErrProof)
	var l []api.Record
	for _, id := range x.Proof {
		must(b.holds(id), api.ErrProof)
		l = append(l, b.entered[id])
	}
	return l
}

func (b *bench) aside(x api.Step) {
	must(b.isRecord(x.Of), api.ErrNone)
	must(b.holds(x.Of), api.ErrState)
	// A proof is judged by its records alone, so that the others that stand need not be read.
	proof := b.evidence(x)
	last, _ := LastOf(proof, x.Proof)
	must(last == x.Of, api.ErrProof)
	conflict, _ := limits.CheckConflict(b.field, proof, x.Proof)
	must(conflict, api.ErrProof)
}
