package court

import (
	"slices"
	"strconv"
	"strings"

	"merestone/api"
	"merestone/deed"
)

// kinds returns the words for the kinds of steps.
func kinds() []string {
	return []string{"", "record", "withdraw", "claim", "notice", "object", "view", "rule", "aside", "appeal"}
}

// awards returns the words for awards.
func awards() []string { return []string{"open", "north", "south"} }

// Write returns the line of a step.
func Write(f api.Field, x api.Step) (string, api.Errno) {
	if e := CheckStep(f, x); e != api.OK {
		return "", e
	}
	words := []string{strconv.Itoa(x.Id), strconv.Itoa(x.Day), kinds()[x.Kind]}
	u := usesOf(x.Kind)
	if u.record {
		call, _ := deed.WriteCall(f, x.Record.Call)
		words = append(words, x.Record.Deed, strconv.Itoa(x.Record.Year), strconv.Itoa(x.Record.Rank), call)
	}
	if u.claim {
		s := x.Strip
		words = append(words, f.Parcels[x.Party].Name, f.Limits[s.Limit], f.Stations[s.Station].Name, strconv.Itoa(s.From), strconv.Itoa(s.To))
	}
	if u.of {
		words = append(words, strconv.Itoa(x.Of))
	}
	if u.award {
		words = append(words, awards()[x.Award])
	}
	for _, id := range x.Proof {
		words = append(words, strconv.Itoa(id))
	}
	return strings.Join(words, " "), api.OK
}

// Read returns the step with a line.
func Read(f api.Field, line string) (api.Step, api.Errno) {
	if e := deed.CheckField(f); e != api.OK {
		return api.Step{}, e
	}
	x := loosely(f, line)
	if written, e := Write(f, x); e != api.OK || written != line {
		return api.Step{}, api.ErrForm
	}
	return x, api.OK
}

// loosely returns the step that a line means, if it means one; whatever does not fit is not written again as it was.
func loosely(f api.Field, line string) api.Step {
	rest := line
	word := func() (w string) {
		w, rest, _ = strings.Cut(rest, " ")
		return w
	}
	number := func() int {
		n, err := strconv.Atoi(word())
		if err != nil {
			return -1 // which no number of a step is
		}
		return n
	}
	var x api.Step
	x.Id = number()
	x.Day = number()
	x.Kind = uint8(max(0, slices.Index(kinds(), word())))
	u := usesOf(x.Kind)
	if u.record {
		x.Record = api.Record{Id: x.Id, Day: x.Day, Deed: word()}
		x.Record.Year = number()
		x.Record.Rank = number()
		x.Record.Call, _ = deed.ReadCall(f, rest, x.Record.Year)
	}
	if u.claim {
		party, limit, station := word(), word(), word()
		x.Party = slices.IndexFunc(f.Parcels, func(p api.Parcel) bool { return p.Name == party })
		x.Strip.Limit = slices.Index(f.Limits, limit)
		x.Strip.Station = slices.IndexFunc(f.Stations, func(s api.Station) bool { return s.Name == station })
		x.Strip.From = number()
		x.Strip.To = number()
	}
	if u.of {
		x.Of = number()
	}
	if u.award {
		x.Award = uint8(max(0, slices.Index(awards(), word())))
	}
	for u.proof && rest != "" {
		x.Proof = append(x.Proof, number())
	}
	return x
}
