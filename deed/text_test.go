package deed_test

import (
	"fmt"
	"math/rand/v2"
	"slices"
	"strings"
	"testing"

	"merestone/api"
	"merestone/deed"
	"merestone/expect"
)

// written is a number as a text may have it.
type written struct {
	text     string
	is       bool // it has the form of a number without a sign
	isSigned bool // it has the form of one with a sign
}

// numbers returns what is a number, and what is nearly one.
func numbers() []written {
	l := []written{
		{"-1", false, true}, {"-5", false, true}, {"-60", false, true}, {"-999999999", false, true},
		{"0", true, true}, {"1", true, true}, {"10", true, true}, {"100001", true, true}, {"123456789", true, true}, {"999999999", true, true},
	}
	for _, text := range []string{
		"1000000000", "9999999999", "0000000001", "-1000000000", "-0", "-00", "-01", "00", "01", "007", "+0", "+1", "--1", "-", "1-", "1.0", "1e3", "0x1", "0b1", "1_0",
		"one", "\u0661", "\uff11", "1,", "1\t", "\t1", "1\r", "9223372036854775808", "18446744073709551617", strings.Repeat("1", 1000), "1\x00", "$1", "\u22121",
	} {
		l = append(l, written{text, false, false})
	}
	return l
}

// faulty fails unless the source of a field has a fault, and nothing else.
func faulty(t *testing.T, name, src string, want api.Fault) {
	t.Helper()
	f, fault := deed.ParseField(src)
	expect.Equal(t, name, fault, want)
	sameField(t, name, f, api.Field{})
}

// some lines that a field can begin with.
const fieldStart = "station ash 0\nstation oak 866\nlimit wall\nlimit hedge\n"

// C2: lines of each form, and what is nearly one.
func TestParseFieldForms(t *testing.T) {
	for _, text := range []string{"station elm 900", "limit burn", "parcel home wall ash oak", "variation 1700 10", "variation 1700 -10", "variation 3000 0", "", "#", "   # x"} {
		_, fault := deed.ParseField(fieldStart + text)
		expect.Equal(t, text, fault, api.Fault{})
	}
	for _, text := range []string{
		"station", "station elm", "station elm 900 1", "station 900 elm", "station elm x", "station elm -1", "Station elm 900", "stations elm 900", "station elm 900 .",
		"station\telm 900", "station elm\t900", "station elm 900\r", "\tstation elm 900", "\t", "\r", "\v", "\u00a0", "station elm 9 00", "station elm9",
		"limit", "limit burn dyke", "limit 7", "LIMIT burn", "limits burn", "limit Burn", "limit burn 5", "limit\u00a0burn",
		"parcel", "parcel home", "parcel home wall", "parcel home wall ash", "parcel home wall ash oak oak", "parcel home 0 0 1", "parcel home wall 0 1", "parcel 1 wall ash oak",
		"parcel home Wall ash oak", "parcel home wall ash 5", "parcels home wall ash oak",
		"variation", "variation 1700", "variation 1700 10 1", "variation -1700 10", "variation 1700 +10", "variation 1700 east", "variations 1700 10", "variation 1700 -0",
		"deed a 1700 1", "stone wall ash 1 1", "field", "wall", "ash 0", "; comment", "// comment", "station elm 900; # x", "\x00", "\xff",
	} {
		faulty(t, text, fieldStart+text, api.Fault{Err: api.ErrForm, Line: 5})
		faulty(t, text+" at first", text+"\n"+fieldStart, api.Fault{Err: api.ErrForm, Line: 1})
	}
	for _, n := range numbers() {
		for _, x := range []struct {
			text string
			form bool
		}{{"station elm " + n.text, n.is}, {"variation " + n.text + " 5", n.is}, {"variation 5 " + n.text, n.isSigned}} {
			_, fault := deed.ParseField(fieldStart + x.text + "\nlimit burn")
			expect.Equal(t, x.text, fault == api.Fault{Err: api.ErrForm, Line: 5}, !x.form)
			expect.Equal(t, x.text+" has a line", fault.Line == 0, x.form)
		}
	}
	for _, name := range goodNames() {
		f, fault := deed.ParseField(fieldStart + "station " + name + " 900\nlimit " + name + "\nlimit end\nparcel " + name + " " + name + " ash " + name)
		expect.Equal(t, name, fault, api.Fault{})
		expect.List(t, name, f.Parcels, api.Parcel{Name: name, South: 2, From: 0, To: 2})
	}
	for _, name := range badNames() {
		for _, text := range []string{"station " + name + " 900", "limit " + name, "parcel " + name + " wall ash oak", "parcel home " + name + " ash oak", "parcel home wall " + name + " oak", "parcel home wall ash " + name} {
			faulty(t, text, fieldStart+text, api.Fault{Err: api.ErrForm, Line: 5})
		}
	}
}

// C2: what a line names has to be there before it.
func TestParseFieldNames(t *testing.T) {
	for _, x := range []struct {
		name, src string
		want      api.Fault
	}{
		{"no such limit", fieldStart + "parcel home burn ash oak\n", api.Fault{Err: api.ErrNone, Line: 5}},
		{"no such station", fieldStart + "parcel home wall elm oak\n", api.Fault{Err: api.ErrNone, Line: 5}},
		{"no such second station", fieldStart + "parcel home wall ash elm\n", api.Fault{Err: api.ErrNone, Line: 5}},
		{"a limit as a station", fieldStart + "parcel home wall ash wall\n", api.Fault{Err: api.ErrNone, Line: 5}},
		{"a limit that comes behind it", fieldStart + "parcel home burn ash oak\nlimit burn\nlimit dyke", api.Fault{Err: api.ErrNone, Line: 5}},
		{"a station that comes behind it", fieldStart + "parcel home wall ash elm\nstation elm 900", api.Fault{Err: api.ErrNone, Line: 5}},
		{"the last limit", fieldStart + "parcel home hedge ash oak\n", api.Fault{Err: api.ErrArg, Line: 5}},
		{"the last limit so far", fieldStart + "parcel home hedge ash oak\nlimit burn", api.Fault{Err: api.ErrArg, Line: 5}},
		{"the last limit, and no such station", fieldStart + "parcel home hedge ash elm\n", api.Fault{Err: api.ErrNone, Line: 5}},
		{"the last limit, and a word more", fieldStart + "parcel home hedge ash oak oak\n", api.Fault{Err: api.ErrForm, Line: 5}},
		{"no such limit, and a word that is no name", fieldStart + "parcel home burn ash 5\n", api.Fault{Err: api.ErrForm, Line: 5}},
		{"what is not there before what has no form", fieldStart + "parcel home burn ash oak\nnothing", api.Fault{Err: api.ErrNone, Line: 5}},
		{"what has no form before what is not there", fieldStart + "nothing\nparcel home burn ash oak", api.Fault{Err: api.ErrForm, Line: 5}},
		{"the last limit before what has no form", fieldStart + "\n\nparcel home hedge ash oak\nnothing", api.Fault{Err: api.ErrArg, Line: 7}},
		{"what has no form behind numbers out of range", "station ash 999999999\nstation ash 5\nnothing", api.Fault{Err: api.ErrForm, Line: 3}},
		{"nothing", "", api.Fault{Err: api.ErrNone}}, {"no words", "\n \n# limit wall\n", api.Fault{Err: api.ErrNone}},
		{"one station", "station ash 0\nlimit wall", api.Fault{Err: api.ErrNone}},
		{"no limit", "station ash 0\nstation oak 5", api.Fault{Err: api.ErrNone}},
		{"two stations with a name", fieldStart + "station ash 900\nparcel home wall ash oak", api.Fault{Err: api.ErrTwice}},
		{"two limits with a name", fieldStart + "limit wall\nparcel home wall ash oak", api.Fault{Err: api.ErrTwice}},
		{"two parcels with a name", fieldStart + "limit burn\nparcel a wall ash oak\nparcel a hedge ash oak", api.Fault{Err: api.ErrTwice}},
		{"X out of range", fieldStart + "station elm 100001", api.Fault{Err: api.ErrArg}},
		{"X of nine digits", fieldStart + "station elm 999999999", api.Fault{Err: api.ErrArg}},
		{"X falls", fieldStart + "station elm 865", api.Fault{Err: api.ErrOrder}},
		{"a parcel to the west", fieldStart + "parcel a wall oak ash", api.Fault{Err: api.ErrOrder}},
		{"a parcel without extent", fieldStart + "parcel a wall oak oak", api.Fault{Err: api.ErrOrder}},
		{"parcels overlap", fieldStart + "parcel a wall ash oak\nparcel b wall ash oak", api.Fault{Err: api.ErrOrder}},
		{"the year 0", fieldStart + "variation 0 5", api.Fault{Err: api.ErrArg}},
		{"the year 3001", fieldStart + "variation 3001 5", api.Fault{Err: api.ErrArg}},
		{"too far east", fieldStart + "variation 1700 61", api.Fault{Err: api.ErrArg}},
		{"too far west", fieldStart + "variation 1700 -61", api.Fault{Err: api.ErrArg}},
		{"years that fall", fieldStart + "variation 1700 1\nvariation 1699 1", api.Fault{Err: api.ErrArg}},
	} {
		faulty(t, x.name, x.src, x.want)
	}
	f, fault := deed.ParseField("variation 1 -60\nlimit wall\nlimit hedge\nstation ash 0\nstation oak 100000\nparcel a wall ash oak\nlimit burn\nparcel b hedge ash oak")
	expect.Equal(t, "any order", fault, api.Fault{})
	sameField(t, "any order", f, api.Field{
		Stations: []api.Station{{Name: "ash"}, {Name: "oak", X: 100000}}, Limits: []string{"wall", "hedge", "burn"},
		Parcels: []api.Parcel{{Name: "a", To: 1}, {Name: "b", South: 1, To: 1}}, Variations: []api.Variation{{Year: 1, East: -60}},
	})
}

// C2: as many lines as there may be, and one more of each.
func TestParseFieldCounts(t *testing.T) {
	src := deed.PrintField(greatest())
	f, fault := deed.ParseField(src)
	expect.Equal(t, "the greatest field", fault, api.Fault{})
	sameField(t, "the greatest field", f, greatest())
	for _, text := range []string{"station more 100000", "limit more", "parcel more limit-8 at-5 at-6", "variation 3000 0"} {
		faulty(t, "more: "+text, src+text, api.Fault{Err: api.ErrLimit})
	}
}

// C2: sources of 20000 bytes, and of one more.
func TestParseFieldSize(t *testing.T) {
	for _, pad := range []string{"#", " ", "\n"} {
		for _, feed := range []string{"", "\n"} {
			src := exampleSource + strings.Repeat(pad, 20000-len(exampleSource)-len(feed)) + feed
			f, fault := deed.ParseField(src)
			expect.Equal(t, "20000 bytes", fault, api.Fault{})
			sameField(t, "20000 bytes", f, example())
			faulty(t, "20001 bytes", src+"\n", api.Fault{Err: api.ErrLimit})
		}
	}
	faulty(t, "20001 bytes without a form", strings.Repeat("x\n", 10000)+"x", api.Fault{Err: api.ErrLimit})
	faulty(t, "20000 bytes without a form", exampleSource+strings.Repeat("x", 20000-len(exampleSource)), api.Fault{Err: api.ErrForm, Line: 7})
}

// P3.3: what is printed is read again; comments, blanks and empty lines change nothing, but the line of a fault.
func TestParseFieldInverts(t *testing.T) {
	eachRandom(t, 300, func(r *rand.Rand, f api.Field) {
		src := deed.PrintField(f)
		got, fault := deed.ParseField(src)
		expect.Equal(t, "ParseField", fault, api.Fault{})
		sameField(t, "ParseField", got, f)
		expect.Equal(t, "PrintField again", deed.PrintField(got), src)
		src = messy(r, src)
		got, fault = deed.ParseField(src)
		expect.Equal(t, "ParseField of a messy source", fault, api.Fault{})
		sameField(t, "ParseField of a messy source", got, f)
		lines := strings.Split(src, "\n")
		at := r.IntN(len(lines))
		lines = slices.Insert(lines, at, []string{"nothing", "limit", "station a 01 # x", "  variation  5"}[r.IntN(4)])
		faulty(t, "a line without a form", strings.Join(lines, "\n"), api.Fault{Err: api.ErrForm, Line: at + 1})
	})
}

// P3.3: whatever is read, is printed and read again as the same field.
func TestParseFieldOfAnything(t *testing.T) {
	r := rand.New(rand.NewPCG(7, 7))
	words := strings.Fields(exampleSource + " deed stone -1 01 # 5 900 1800 elm burn")
	read := 0
	for range 20000 {
		lines := strings.Split(fieldStart+"limit burn\nstation yew 2000\nparcel a wall ash oak\nvariation 5 -5", "\n")
		for range 1 + r.IntN(2) {
			i := r.IntN(len(lines))
			parts := strings.Split(lines[i], " ")
			parts[r.IntN(len(parts))] = words[r.IntN(len(words))]
			lines[i] = strings.Join(parts, " ")
		}
		f, fault := deed.ParseField(strings.Join(lines, "\n"))
		expect.Equal(t, "a field without a fault", deed.CheckField(f) == api.OK, fault == api.Fault{})
		if fault == (api.Fault{}) {
			read++
			again, fault := deed.ParseField(deed.PrintField(f))
			expect.Equal(t, "read again", fault, api.Fault{})
			sameField(t, "read again", again, f)
		} else {
			sameField(t, "a fault leaves nothing", f, api.Field{})
		}
	}
	if read < 1000 {
		t.Errorf("only %d sources were read", read)
	}
}

// C13: the lines of calls.
func TestWriteCall(t *testing.T) {
	far := with(bearing(), func(c *api.Call) {
		c.From, c.To = 1, 0
		c.Course = api.Course{Bearing: 270, Needle: 30, Links: 926, Year: 1700, Chain: api.Chain{Wear: -500, Slack: 200}}
	})
	for _, x := range []struct {
		call api.Call
		want string
	}{
		{stone(), "stone wall oak 250 2"},
		{with(stone(), func(c *api.Call) { c.Limit, c.From, c.Size, c.Error = 1, 0, 0, 0 }), "stone hedge ash 0 0"},
		{with(stone(), func(c *api.Call) { c.Size, c.Error = 100000, 100000 }), "stone wall oak 100000 100000"},
		{width(), "width wall hedge ash 100 3"},
		{along(), "along wall hedge ash oak"},
		{level(), "level wall ash oak 5 5"},
		{with(level(), func(c *api.Call) { c.From, c.To, c.Size, c.Error = 1, 0, -100000, 0 }), "level wall oak ash -100000 0"},
		{bearing(), "course wall ash oak 10 chains by north 50 east give 2 wear 0 slack 100"},
		{far, "course wall oak ash 9 chains 1 pole 1 link by west give 30 wear -500 slack 200"},
	} {
		s, e := deed.WriteCall(example(), x.call)
		expect.Errno(t, x.want, e, api.OK)
		expect.Equal(t, "WriteCall", s, x.want)
		c, e := deed.ReadCall(example(), x.want, max(1, x.call.Course.Year))
		expect.Errno(t, x.want, e, api.OK)
		expect.Equal(t, "ReadCall", c, x.call)
	}
}

// C13, P3.3: what is written is read again, with more blanks and comments, too.
func TestReadCallInverts(t *testing.T) {
	eachRandom(t, 300, func(r *rand.Rand, f api.Field) {
		for range 8 {
			c := rightCall(r, f)
			year := 1 + r.IntN(3000)
			if c.Kind == api.CallCourse {
				year = c.Course.Year
			}
			s, e := deed.WriteCall(f, c)
			expect.Errno(t, "WriteCall", e, api.OK)
			for _, text := range []string{s, messyLine(r, s), "   " + s + "   #  ", s + "#" + s, strings.ReplaceAll(s, " ", "    ")} {
				got, e := deed.ReadCall(f, text, year)
				expect.Errno(t, text, e, api.OK)
				expect.Equal(t, text, got, c)
			}
			for _, text := range []string{s + "\n", "\n" + s, s + "#\n", strings.Replace(s, " ", "\n", 1), strings.Replace(s, " ", " \n", 1)} {
				got, e := deed.ReadCall(f, text, year)
				expect.Errno(t, "a line feed", e, api.ErrForm)
				expect.Equal(t, "a line feed", got, api.Call{})
			}
		}
	})
}

// refused fails unless the line of a call has an error, and says nothing.
func refused(t *testing.T, f api.Field, text string, year int, want api.Errno) {
	t.Helper()
	c, e := deed.ReadCall(f, text, year)
	expect.Errno(t, text, e, want)
	expect.Equal(t, text, c, api.Call{})
}

// C13: lines that are nearly, but not quite, of a form.
func TestReadCallForms(t *testing.T) {
	const course = "course wall ash oak 10 chains by north 50 east give 2 wear 0 slack 100"
	for _, text := range []string{
		"", " ", "#", "# stone wall oak 250 2", "stone", "stone wall", "stone wall oak", "stone wall oak 250", "stone wall oak 250 2 2", "stone wall oak -250 2", "stone wall oak 250 -2",
		"stone wall oak 250 -0", "Stone wall oak 250 2", "stones wall oak 250 2", "stone wall oak two 2", "stone wall 5 250 2", "stone 5 oak 250 2", "stone wall oak 250 # 2", "stone wall oak\t250 2",
		"\tstone wall oak 250 2", "stone wall oak 250 2\r", "stone Wall oak 250 2", "stone wall oak 250 2.", "deed a 1750 5", "station ash 5", "limit wall", "variation 1700 5", "nothing",
		"width wall hedge ash 100", "width wall ash 100 3", "width wall hedge ash -100 3", "width wall hedge ash 100 -3", "width wall hedge ash 100 3 1", "width wall hedge 5 100 3",
		"along wall hedge ash", "along wall hedge ash oak ash", "along wall hedge ash 5", "along wall hedge", "along wall 0 ash oak",
		"level wall ash oak 5", "level wall ash oak 5 -5", "level wall ash oak -0 5", "level wall ash oak +5 5", "level wall ash oak 5 5 5", "level wall ash 5 5", "level wall hedge ash oak 5 5",
		"course", "course wall ash oak", course + " 1", course + " by", "course wall ash 10 chains by north 50 east give 2 wear 0 slack 100",
	} {
		refused(t, example(), text, 1750, api.ErrForm)
	}
	for _, x := range [][2]string{
		{"10 chains", "10"}, {"10 chains", "chains"}, {"10 chains", ""}, {"10 chains", "1000 links"}, {"10 chains", "10 chain"}, {"10 chains", "1 chains"}, {"10 chains", "0 links"},
		{"10 chains", "010 chains"}, {"10 chains", "1000 chains 1 link"}, {"10 chains", "1001 chains"}, {"10 chains", "9 chains 4 poles"}, {"10 chains", "1 link 10 chains"}, {"10 chains", "-10 chains"},
		{"10 chains", "9 chains 3 poles 25 links"}, {"10 chains", "10 chains 0 links"}, {"10 chains", "10 chains 10 chains"}, {"10 chains", "1 perch"}, {"10 chains", "10\tchains"}, {"10 chains", "10 Chains"},
		{" by ", " "}, {" by ", " by by "}, {" by ", " at "}, {" by ", "by "}, {"by north 50 east", "north 50 east by"},
		{"north 50 east", ""}, {"north 50 east", "50"}, {"north 50 east", "north 0 east"}, {"north 50 east", "north 90 east"}, {"north 50 east", "north east"}, {"north 50 east", "east 50 north"},
		{"north 50 east", "North 50 east"}, {"north 50 east", "north 050 east"}, {"north 50 east", "north 50 east 1"}, {"north 50 east", "northeast"}, {"north 50 east", "north -50 east"},
		{" give ", " "}, {" give ", " give give "}, {" give ", " gives "}, {" wear ", " "}, {" wear ", " worn "}, {" wear ", " wear wear "}, {" slack ", " "}, {" slack ", " slacks "}, {" slack ", " slack slack "},
		{"give 2 wear 0", "wear 0 give 2"}, {"wear 0 slack 100", "slack 100 wear 0"}, {"give 2", "give -2"}, {"give 2", "give -0"}, {"give 2", "give 02"}, {"give 2", "give"}, {"give 2", "give 2 2"},
		{"wear 0", "wear -0"}, {"wear 0", "wear +0"}, {"wear 0", "wear 00"}, {"wear 0", "wear"}, {"slack 100", "slack -100"}, {"slack 100", "slack"}, {"slack 100", "slack 1000000000"},
	} {
		text := strings.Replace(course, x[0], x[1], 1)
		refused(t, example(), text, 1750, api.ErrForm)
	}
	for _, n := range numbers() {
		for _, x := range []struct {
			form string
			is   bool
		}{
			{"stone wall oak %s 2", n.is}, {"stone wall oak 250 %s", n.is}, {"width wall hedge ash %s 3", n.is}, {"width wall hedge ash 100 %s", n.is},
			{"level wall ash oak %s 5", n.isSigned}, {"level wall ash oak 5 %s", n.is},
			{"course wall ash oak 10 chains by north 50 east give %s wear 0 slack 100", n.is},
			{"course wall ash oak 10 chains by north 50 east give 2 wear %s slack 100", n.isSigned},
			{"course wall ash oak 10 chains by north 50 east give 2 wear 0 slack %s", n.is},
		} {
			text := fmt.Sprintf(x.form, n.text)
			_, e := deed.ReadCall(example(), text, 1750)
			expect.Equal(t, text, e != api.ErrForm, x.is)
		}
	}
}

// C13: what stands where a name has to stand.
func TestReadCallNames(t *testing.T) {
	for _, form := range []string{
		"stone %s oak 250 2", "stone wall %s 250 2", "width %s hedge ash 100 3", "width wall %s ash 100 3", "width wall hedge %s 100 3",
		"along %s hedge ash oak", "along wall %s ash oak", "along wall hedge %s oak", "along wall hedge ash %s",
		"level %s ash oak 5 5", "level wall %s oak 5 5", "level wall ash %s 5 5",
		"course %s ash oak 10 chains by north 50 east give 2 wear 0 slack 100",
		"course wall %s oak 10 chains by north 50 east give 2 wear 0 slack 100",
		"course wall ash %s 10 chains by north 50 east give 2 wear 0 slack 100",
	} {
		for _, name := range badNames() {
			refused(t, example(), fmt.Sprintf(form, name), 1750, api.ErrForm)
		}
		for _, name := range goodNames() {
			refused(t, example(), fmt.Sprintf(form, name), 1750, api.ErrNone)
		}
	}
}

// C13: the order of the errors.
func TestReadCallErrors(t *testing.T) {
	early := "course wall ash oak 10 chains by north 50 east give 2 wear 0 slack 100"
	for _, x := range []struct {
		text string
		year int
		want api.Errno
	}{
		{"stone wall oak 250 2", 1, api.OK}, {"stone wall oak 250 2", 3000, api.OK}, {early, 1700, api.OK}, {early, 3000, api.OK},
		{"stone wall oak 250 2", 0, api.ErrArg}, {"stone wall oak 250 2", 3001, api.ErrArg}, {"stone wall oak 250 2", -1, api.ErrArg}, {"nothing\n", 0, api.ErrArg}, {"", 3001, api.ErrArg},
		{"nothing", 1, api.ErrForm}, {"stone burn oak 250 2 2", 1, api.ErrForm}, {"stone burn oak 250 2\n", 1, api.ErrForm},
		{"stone burn oak 250 2", 1, api.ErrNone}, {"stone wall elm 250 2", 1, api.ErrNone}, {"stone oak wall 250 2", 1, api.ErrNone}, {"stone burn oak 999999 2", 1, api.ErrNone},
		{"width burn hedge ash 1 1", 1, api.ErrNone}, {"width wall burn ash 1 1", 1, api.ErrNone}, {"width wall hedge elm 1 1", 1, api.ErrNone},
		{"along burn hedge ash oak", 1, api.ErrNone}, {"along wall burn ash oak", 1, api.ErrNone}, {"along wall hedge elm oak", 1, api.ErrNone}, {"along wall hedge ash elm", 1, api.ErrNone},
		{"level burn ash oak 1 1", 1, api.ErrNone}, {"level wall elm oak 1 1", 1, api.ErrNone}, {"level wall ash elm 1 1", 1, api.ErrNone},
		{strings.Replace(early, "wall", "burn", 1), 1, api.ErrNone}, {strings.Replace(early, "oak", "elm", 1), 1, api.ErrNone}, {strings.Replace(early, "ash", "elm", 1), 1, api.ErrNone},
		{"stone wall oak 100001 2", 1, api.ErrArg}, {"stone wall oak 1 100001", 1, api.ErrArg}, {"stone wall oak 999999999 999999999", 1, api.ErrArg}, {"stone wall oak 100000 100000", 1, api.OK},
		{"width wall wall ash 1 1", 1, api.ErrArg}, {"width hedge wall ash 1 1", 1, api.ErrArg}, {"along wall wall ash oak", 1, api.ErrArg}, {"along hedge wall ash oak", 1, api.ErrArg},
		{"along wall hedge ash ash", 1, api.ErrArg}, {"along wall hedge oak ash", 1, api.ErrArg}, {"level wall ash ash 1 1", 1, api.ErrArg}, {"level wall ash oak -100001 1", 1, api.ErrArg}, {"level wall oak ash -100000 1", 1, api.OK},
		{strings.Replace(early, "ash oak", "ash ash", 1), 1750, api.ErrArg}, {strings.Replace(early, "give 2", "give 31", 1), 1, api.ErrArg}, {strings.Replace(early, "wear 0", "wear -501", 1), 1, api.ErrArg}, {strings.Replace(early, "slack 100", "slack 201", 1), 1, api.ErrArg},
		{early, 1699, api.ErrCompass}, {early, 1, api.ErrCompass}, {strings.Replace(early, "north", "south", 1), 1699, api.ErrCompass}, {strings.Replace(early, "north 50 east", "north 50 west", 1), 1750, api.ErrNone},
		{strings.Replace(early, "10 chains", "5 chains", 1), 1750, api.ErrNone}, {strings.Replace(early, "10 chains", "1 link", 1), 1750, api.ErrNone}, {strings.Replace(early, "10 chains", "1000 chains", 1), 1750, api.ErrNone},
	} {
		if x.want != api.OK {
			refused(t, example(), x.text, x.year, x.want)
			continue
		}
		_, e := deed.ReadCall(example(), x.text, x.year)
		expect.Errno(t, x.text, e, api.OK)
	}
	odd := changed(example(), func(f *api.Field) {
		f.Stations = []api.Station{{Name: "give"}, {Name: "wear", X: 866}}
		f.Limits = []string{"by", "slack"}
	})
	c, e := deed.ReadCall(odd, "course by give wear 10 chains by north 50 east give 2 wear 0 slack 100", 1750)
	expect.Errno(t, "names like words", e, api.OK)
	expect.Equal(t, "names like words", c, bearing())
}

// C13: whatever is read is right, and is written and read again as the same call.
func TestReadCallOfAnything(t *testing.T) {
	r := rand.New(rand.NewPCG(2, 7))
	var texts, words []string
	for _, c := range allKinds() {
		s, _ := deed.WriteCall(rich(), c)
		texts = append(texts, s)
		words = append(words, strings.Split(s, " ")...)
	}
	words = append(words, "elm", "burn", "-5", "-0", "05", "#", "100001", "9", "pole", "links", "")
	read := 0
	for range 40000 {
		parts := strings.Split(texts[r.IntN(len(texts))], " ")
		for range 1 + r.IntN(2) {
			i := r.IntN(len(parts))
			switch r.IntN(4) {
			case 0:
				parts = slices.Insert(parts, i, words[r.IntN(len(words))])
			case 1:
				parts[i] = ""
			default:
				parts[i] = words[r.IntN(len(words))]
			}
		}
		text := strings.Join(parts, " ")
		c, e := deed.ReadCall(rich(), text, 1750)
		if e != api.OK {
			expect.Equal(t, text, c, api.Call{})
			continue
		}
		read++
		s, e := deed.WriteCall(rich(), c)
		expect.Errno(t, text, e, api.OK)
		before, _, _ := strings.Cut(text, "#")
		expect.Equal(t, text, s, strings.Join(strings.Fields(before), " "))
	}
	if read < 1000 {
		t.Errorf("only %d lines were read", read)
	}
}
