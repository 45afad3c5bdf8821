package deed

import (
	"strconv"
	"strings"

	"merestone/api"
	"merestone/course"
)

// said returns words with single blanks.
func said(parts ...string) string { return strings.Join(parts, " ") }

// PrintField returns the source of a field.
func PrintField(f api.Field) string {
	if CheckField(f) != api.OK {
		return ""
	}
	var lines []string
	for _, s := range f.Stations {
		lines = append(lines, said("station", s.Name, strconv.Itoa(s.X)))
	}
	for _, name := range f.Limits {
		lines = append(lines, said("limit", name))
	}
	for _, p := range f.Parcels {
		lines = append(lines, said("parcel", p.Name, f.Limits[p.South], f.Stations[p.From].Name, f.Stations[p.To].Name))
	}
	for _, v := range f.Variations {
		lines = append(lines, said("variation", strconv.Itoa(v.Year), strconv.Itoa(v.East)))
	}
	return source(lines)
}

// source returns lines with a line feed behind each.
func source(lines []string) string {
	var b strings.Builder
	for _, text := range lines {
		b.WriteString(text)
		b.WriteByte('\n')
	}
	return b.String()
}

// PrintDeeds returns the source of deeds.
func PrintDeeds(f api.Field, l []api.Deed) string {
	if CheckDeeds(f, l) != api.OK {
		return ""
	}
	var lines []string
	for _, d := range l {
		lines = append(lines, said("deed", d.Name, strconv.Itoa(d.Year), strconv.Itoa(d.Rank)))
		for _, c := range d.Calls {
			lines = append(lines, written(f, c))
		}
	}
	return source(lines)
}

// WriteCall returns the line of a call.
func WriteCall(f api.Field, c api.Call) (string, api.Errno) {
	if e := CheckCall(f, c); e != api.OK {
		return "", e
	}
	return written(f, c), api.OK
}

// written is WriteCall for a right call.
func written(f api.Field, c api.Call) string { return writers()[c.Kind](saying{f, c}) }

// saying is a right call with its field.
type saying struct {
	field api.Field
	call  api.Call
}

// writers returns what writes the calls of each kind.
func writers() [api.CallLevel + 1]func(saying) string {
	return [...]func(saying) string{
		api.CallStone:  saying.stone,
		api.CallWidth:  saying.width,
		api.CallCourse: saying.course,
		api.CallAlong:  saying.along,
		api.CallLevel:  saying.level,
	}
}

// The words of a call.
func (s saying) limit() string { return s.field.Limits[s.call.Limit] }
func (s saying) other() string { return s.field.Limits[s.call.Other] }
func (s saying) from() string  { return s.field.Stations[s.call.From].Name }
func (s saying) to() string    { return s.field.Stations[s.call.To].Name }
func (s saying) size() string  { return strconv.Itoa(s.call.Size) + " " + strconv.Itoa(s.call.Error) }

// stone writes a CallStone.
func (s saying) stone() string { return said("stone", s.limit(), s.from(), s.size()) }

// width writes a CallWidth.
func (s saying) width() string { return said("width", s.limit(), s.other(), s.from(), s.size()) }

// course writes a CallCourse.
func (s saying) course() string {
	c := s.call.Course
	return said("course", s.limit(), s.from(), s.to(), course.Length(c.Links), "by", course.Quadrant(c.Bearing),
		"give", strconv.Itoa(c.Needle), "wear", strconv.Itoa(c.Chain.Wear), "slack", strconv.Itoa(c.Chain.Slack))
}

// along writes a CallAlong.
func (s saying) along() string { return said("along", s.limit(), s.other(), s.from(), s.to()) }

// level writes a CallLevel.
func (s saying) level() string { return said("level", s.limit(), s.from(), s.to(), s.size()) }
