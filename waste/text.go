package waste

import (
	"slices"
	"strconv"
	"strings"

	"orlop/api"
)

// none is told for WaOutside, and for a copy that is lost.
const none = "-"

// Write returns the text of a yard.
func Write(y api.WaYard) (string, api.Errno) {
	if _, _, e := Check(y); e != api.OK {
		return "", e
	}
	var b strings.Builder
	b.WriteString(line("kinds", y.Kinds...))
	b.WriteString(line("places", y.Places...))
	for _, c := range y.First {
		b.WriteString(line("first", countWords(y, c)...))
	}
	for _, p := range y.Papers {
		b.WriteString(line("paper", paperWords(y, p)...))
	}
	for _, c := range y.Last {
		b.WriteString(line("last", countWords(y, c)...))
	}
	return b.String(), api.OK
}

// Read returns the yard of a text.
func Read(text string) (api.WaYard, api.Errno) {
	if len(text) > api.MaxWaText {
		return api.WaYard{}, api.ErrLong
	}
	y, e := parse(text)
	if e != api.OK {
		return api.WaYard{}, e
	}
	// The parser also takes what no yard has in its text, as a plus sign, a word too many, or papers behind counts of Last. Writing the yard tells.
	written, e := Write(y)
	if e != api.OK || written != text {
		return api.WaYard{}, api.ErrForm
	}
	return y, api.OK
}

func line(word string, more ...string) string {
	return strings.Join(append([]string{word}, more...), " ") + "\n"
}

func countWords(y api.WaYard, c api.WaCount) []string {
	return []string{y.Kinds[c.Kind], y.Places[c.Place], strconv.Itoa(c.Kilos.Lo), strconv.Itoa(c.Kilos.Hi)}
}

func paperWords(y api.WaYard, p api.WaPaper) []string {
	other := none
	if p.Copy != lost {
		other = strconv.Itoa(p.Copy)
	}
	return []string{y.Kinds[p.Kind], placeWord(y, p.From), placeWord(y, p.To), strconv.Itoa(p.Kilos), other}
}

func placeWord(y api.WaYard, place int) string {
	if place == api.WaOutside {
		return none
	}
	return y.Places[place]
}

// parse returns the yard that the lines of a text tell, whatever its errors are, or ErrForm if a line tells nothing.
func parse(text string) (y api.WaYard, e api.Errno) {
	defer func() {
		if recover() != nil {
			y, e = api.WaYard{}, api.ErrForm
		}
	}()
	var r reader
	lines := strings.Split(text, "\n")
	// Behind the last line feed nothing follows.
	for _, l := range lines[:len(lines)-1] {
		r.words = strings.Split(l, " ")
		r.line()
	}
	return r.WaYard, api.OK
}

// reader takes the words of a line one after the other, and adds what they tell to a yard. It panics if a word is not there, or not of the form that it needs.
type reader struct {
	api.WaYard
	words []string
}

func (r *reader) line() {
	switch r.word() {
	case "kinds":
		r.Kinds = slices.Clone(r.words)
	case "places":
		r.Places = slices.Clone(r.words)
	case "first":
		c := r.count()
		r.First = append(r.First, c)
	case "paper":
		p := r.paper()
		r.Papers = append(r.Papers, p)
	case "last":
		c := r.count()
		r.Last = append(r.Last, c)
	default:
		panic("this is no line")
	}
}

func (r *reader) word() string {
	if len(r.words) == 0 {
		panic("a word is missing")
	}
	w := r.words[0]
	r.words = r.words[1:]
	return w
}

func (r *reader) number() int { return number(r.word()) }

// place takes the name of a place, or what is told for WaOutside.
func (r *reader) place() int {
	w := r.word()
	if w == none {
		return api.WaOutside
	}
	return found(r.Places, w)
}

// copy takes the index of a copy, or what is told for one that is lost.
func (r *reader) copy() int {
	w := r.word()
	if w == none {
		return lost
	}
	return number(w)
}

func (r *reader) count() api.WaCount {
	var c api.WaCount
	c.Kind = found(r.Kinds, r.word())
	c.Place = found(r.Places, r.word())
	c.Kilos.Lo = r.number()
	c.Kilos.Hi = r.number()
	return c
}

func (r *reader) paper() api.WaPaper {
	var p api.WaPaper
	p.Kind = found(r.Kinds, r.word())
	p.From = r.place()
	p.To = r.place()
	p.Kilos = r.number()
	p.Copy = r.copy()
	return p
}

// number returns the number that a word tells. It panics if it tells none.
func number(word string) int {
	n, err := strconv.Atoi(word)
	if err != nil {
		panic("this is no number")
	}
	return n
}

// found returns the index of something in a list. It panics if it is not there.
func found[T comparable](list []T, wanted T) int {
	at := slices.Index(list, wanted)
	if at < 0 {
		panic("this is not there")
	}
	return at
}
