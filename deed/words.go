package deed

import (
	"slices"
	"strconv"
	"strings"

	"merestone/api"
	"merestone/course"
)

// mostNumber is the greatest number of 9 digits.
const mostNumber = 999999999

// words is what is left to read of a line. Its methods leave the reading with an error where a word is wrong.
type words struct{ left []string }

// wordsOf returns the words of a line.
func wordsOf(text string) *words {
	before, _, _ := strings.Cut(text, "#")
	return &words{strings.FieldsFunc(before, func(r rune) bool { return r == ' ' })}
}

// need leaves a reading with an error where something does not hold.
func need(holds bool, e api.Errno) {
	if !holds {
		panic(e)
	}
}

// tried returns the error with which a reading is left, if it is.
func tried(read func()) (e api.Errno) {
	defer func() {
		if left := recover(); left != nil {
			e = left.(api.Errno)
		}
	}()
	read()
	return api.OK
}

// next reads a word.
func (w *words) next() string {
	need(len(w.left) > 0, api.ErrForm)
	word := w.left[0]
	w.left = w.left[1:]
	return word
}

// name reads a name.
func (w *words) name() string {
	word := w.next()
	need(isName(word), api.ErrForm)
	return word
}

// signed reads a number that may have a minus sign.
func (w *words) signed() int {
	word := w.next()
	n, err := strconv.Atoi(word)
	// Other signs, a sign before 0, and zeros before a number are not written again.
	need(err == nil && strconv.Itoa(n) == word && between(-mostNumber, n, mostNumber), api.ErrForm)
	return n
}

// number reads a number without a sign.
func (w *words) number() int {
	n := w.signed()
	need(n >= 0, api.ErrForm)
	return n
}

// fixed reads a word that has to be there.
func (w *words) fixed(word string) { need(w.next() == word, api.ErrForm) }

// upTo reads the words before one that has to be there, and this one; it returns them with single blanks.
func (w *words) upTo(word string) string {
	i := slices.Index(w.left, word)
	need(i >= 0, api.ErrForm)
	before := strings.Join(w.left[:i], " ")
	w.left = w.left[i+1:]
	return before
}

// length reads a length, up to a word.
func (w *words) length(end string) int {
	n, e := course.Links(w.upTo(end))
	need(e == api.OK && between(1, n, api.MaxX), api.ErrForm)
	return n
}

// bearing reads a bearing, up to a word.
func (w *words) bearing(end string) int {
	d, e := course.Bearing(w.upTo(end))
	need(e == api.OK, api.ErrForm)
	return d
}

// end makes sure that nothing is left.
func (w *words) end() { need(len(w.left) == 0, api.ErrForm) }

// readLines has the lines of a source read that have words, and tells the first one that is refused.
func readLines(src string, read func(w *words)) api.Fault {
	if len(src) > api.MaxSource {
		return api.Fault{Err: api.ErrLimit}
	}
	for i, text := range strings.Split(src, "\n") {
		w := wordsOf(text)
		if len(w.left) == 0 {
			continue
		}
		if e := tried(func() { read(w) }); e != api.OK {
			return api.Fault{Err: e, Line: i + 1}
		}
	}
	return api.Fault{}
}

// reader reads the first word of a line, and returns what reads the lines that begin with it.
func reader[R any](forms map[string]R, w *words) R {
	r, is := forms[w.next()]
	need(is, api.ErrForm)
	return r
}

// place returns the index of the item that a line names.
func place[T any](l []T, name string, of func(T) string) int {
	i := named(l, name, of)
	need(i >= 0, api.ErrNone)
	return i
}
