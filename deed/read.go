package deed

import (
	"strings"

	"merestone/api"
)

// ParseField reads the source of a field.
func ParseField(src string) (api.Field, api.Fault) {
	var f api.Field
	forms := fieldForms()
	if fault := readLines(src, func(w *words) { reader(forms, w)(w, &f) }); fault != (api.Fault{}) {
		return api.Field{}, fault
	}
	if e := CheckField(f); e != api.OK {
		return api.Field{}, api.Fault{Err: e}
	}
	return f, api.Fault{}
}

// fieldForms returns what reads the lines of a field, by their first words.
func fieldForms() map[string]func(*words, *api.Field) {
	return map[string]func(*words, *api.Field){
		"station":   readStation,
		"limit":     readLimit,
		"parcel":    readParcel,
		"variation": readVariation,
	}
}

// readStation reads the station of a line into a field.
func readStation(w *words, f *api.Field) {
	s := api.Station{Name: w.name(), X: w.number()}
	w.end()
	f.Stations = append(f.Stations, s)
}

// readLimit reads the limit of a line into a field.
func readLimit(w *words, f *api.Field) {
	name := w.name()
	w.end()
	f.Limits = append(f.Limits, name)
}

// readParcel reads the parcel of a line into a field.
func readParcel(w *words, f *api.Field) {
	name, south, from, to := w.name(), w.name(), w.name(), w.name()
	w.end()
	p := api.Parcel{
		Name:  name,
		South: place(f.Limits, south, limitName),
		From:  place(f.Stations, from, stationName),
		To:    place(f.Stations, to, stationName),
	}
	need(p.South+1 < len(f.Limits), api.ErrArg)
	f.Parcels = append(f.Parcels, p)
}

// readVariation reads the variation of a line into a field.
func readVariation(w *words, f *api.Field) {
	v := api.Variation{Year: w.number(), East: w.signed()}
	w.end()
	f.Variations = append(f.Variations, v)
}

// draft is a call that names its limits and stations still; the names that its kind does not use are empty.
type draft struct {
	limit, other, from, to string
	call                   api.Call
}

// readDraft reads a line that has the form of a call.
func readDraft(w *words) draft {
	read := reader(callForms(), w)
	d := read(w)
	w.end()
	return d
}

// callForms returns what reads the lines of calls, by their first words.
func callForms() map[string]func(*words) draft {
	return map[string]func(*words) draft{
		"stone":  readStone,
		"width":  readWidth,
		"course": readCourse,
		"along":  readAlong,
		"level":  readLevel,
	}
}

// readStone reads what stands behind the first word of a CallStone.
func readStone(w *words) draft {
	return draft{
		limit: w.name(), from: w.name(),
		call: api.Call{Kind: api.CallStone, Size: w.number(), Error: w.number()},
	}
}

// readWidth reads what stands behind the first word of a CallWidth.
func readWidth(w *words) draft {
	return draft{
		limit: w.name(), other: w.name(), from: w.name(),
		call: api.Call{Kind: api.CallWidth, Size: w.number(), Error: w.number()},
	}
}

// readCourse reads what stands behind the first word of a CallCourse.
func readCourse(w *words) draft {
	d := draft{limit: w.name(), from: w.name(), to: w.name(), call: api.Call{Kind: api.CallCourse}}
	c := &d.call.Course
	c.Links = w.length("by")
	c.Bearing = w.bearing("give")
	c.Needle = w.number()
	w.fixed("wear")
	c.Chain.Wear = w.signed()
	w.fixed("slack")
	c.Chain.Slack = w.number()
	return d
}

// readAlong reads what stands behind the first word of a CallAlong.
func readAlong(w *words) draft {
	return draft{
		limit: w.name(), other: w.name(), from: w.name(), to: w.name(),
		call: api.Call{Kind: api.CallAlong},
	}
}

// readLevel reads what stands behind the first word of a CallLevel.
func readLevel(w *words) draft {
	return draft{
		limit: w.name(), from: w.name(), to: w.name(),
		call: api.Call{Kind: api.CallLevel, Size: w.signed(), Error: w.number()},
	}
}

// in returns the right call that a draft says in a field, and in a deed of some year.
func (d draft) in(f api.Field, year int) api.Call {
	c := d.call
	c.Limit = place(f.Limits, d.limit, limitName)
	c.From = place(f.Stations, d.from, stationName)
	if d.other != "" {
		c.Other = place(f.Limits, d.other, limitName)
	}
	if d.to != "" {
		c.To = place(f.Stations, d.to, stationName)
	}
	if c.Kind == api.CallCourse {
		c.Course.Year = year
	}
	e := checkCall(f, c)
	need(e == api.OK, e)
	return c
}

// ReadCall reads the line of a call.
func ReadCall(f api.Field, line string, year int) (api.Call, api.Errno) {
	if e := CheckField(f); e != api.OK {
		return api.Call{}, e
	}
	if !isYear(year) {
		return api.Call{}, api.ErrArg
	}
	if strings.Contains(line, "\n") {
		return api.Call{}, api.ErrForm
	}
	var c api.Call
	e := tried(func() { c = readDraft(wordsOf(line)).in(f, year) })
	return c, e
}

// deeds is the deeds of a field that have been read.
type deeds struct {
	field api.Field
	list  []api.Deed
}

// ParseDeeds reads a source of deeds.
func ParseDeeds(f api.Field, src string) ([]api.Deed, api.Fault) {
	if e := CheckField(f); e != api.OK {
		return nil, api.Fault{Err: e}
	}
	d := deeds{field: f}
	if fault := readLines(src, d.read); fault != (api.Fault{}) {
		return nil, fault
	}
	return d.list, api.Fault{}
}

// read reads a line.
func (d *deeds) read(w *words) {
	if w.left[0] == "deed" {
		d.readDeed(w)
		return
	}
	d.readCall(w)
}

// readDeed reads the line of a deed.
func (d *deeds) readDeed(w *words) {
	w.fixed("deed")
	next := api.Deed{Name: w.name(), Year: w.number(), Rank: w.number()}
	w.end()
	need(len(d.list) < api.MaxDeeds, api.ErrLimit)
	need(isDated(next), api.ErrArg)
	need(named(d.list, next.Name, deedName) < 0, api.ErrTwice)
	d.list = append(d.list, next)
}

// readCall reads the line of a call of the last deed.
func (d *deeds) readCall(w *words) {
	call := readDraft(w)
	need(len(d.list) > 0, api.ErrForm)
	last := &d.list[len(d.list)-1]
	need(len(last.Calls) < api.MaxCalls, api.ErrLimit)
	last.Calls = append(last.Calls, call.in(d.field, last.Year))
}
