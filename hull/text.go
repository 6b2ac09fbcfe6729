package hull

import (
	"slices"
	"strconv"
	"strings"

	"orlop/api"
)

// kindWords is the words of the kinds, from HuPlate on.
var kindWords = [...]string{"plate", "beam", "engine", "tank", "pipe"}

// Write returns the text of a plan.
func Write(p api.HuPlan) (string, api.Errno) {
	if _, _, e := Check(p); e != api.OK {
		return "", e
	}
	var b strings.Builder
	for _, x := range p.Ship.Parts {
		b.WriteString(line(append([]string{"part"}, partWords(x)...)...))
	}
	for _, c := range p.Changes {
		b.WriteString(line(changeWords(c)...))
	}
	return b.String(), api.OK
}

// Read returns the plan of a text.
func Read(text string) (api.HuPlan, api.Errno) {
	if len(text) > api.MaxHuText {
		return api.HuPlan{}, api.ErrLong
	}
	p, e := parse(text)
	if e != api.OK {
		return api.HuPlan{}, e
	}
	// The parser also takes what no plan has in its text, as a plus sign, a word too many, or parts behind changes. Writing the plan tells.
	written, e := Write(p)
	if e != api.OK || written != text {
		return api.HuPlan{}, api.ErrForm
	}
	return p, api.OK
}

func line(words ...string) string { return strings.Join(words, " ") + "\n" }

// partWords returns a part as it is told.
func partWords(x api.HuPart) []string {
	words := []string{
		x.Name, kindWords[x.Kind-api.HuPlate],
		strconv.Itoa(x.First), strconv.Itoa(x.Last),
		strconv.Itoa(x.Weight.Lo), strconv.Itoa(x.Weight.Hi),
	}
	return append(words, x.On...)
}

func changeWords(c api.HuChange) []string {
	day := strconv.Itoa(c.Day)
	switch c.What {
	case api.HuAdd:
		return append([]string{day, "add"}, partWords(c.Part)...)
	case api.HuTake:
		return []string{day, "take", c.Name}
	default:
		return append([]string{day, "swap", c.Name}, partWords(c.Part)...)
	}
}

// parse returns the plan that the lines of a text tell, whatever its errors are, or ErrForm if a line tells nothing.
func parse(text string) (p api.HuPlan, e api.Errno) {
	defer func() {
		if recover() != nil {
			p, e = api.HuPlan{}, api.ErrForm
		}
	}()
	lines := strings.Split(text, "\n")
	// Behind the last line feed nothing follows.
	for _, l := range lines[:len(lines)-1] {
		r := &reader{words: strings.Split(l, " ")}
		if r.words[0] == "part" {
			r.word()
			p.Ship.Parts = append(p.Ship.Parts, r.part())
		} else {
			p.Changes = append(p.Changes, r.change())
		}
	}
	return p, api.OK
}

// reader takes the words of a line one after the other. It panics if a word is not there, or not of the form that it needs.
type reader struct{ words []string }

func (r *reader) word() string {
	if len(r.words) == 0 {
		panic("a word is missing")
	}
	w := r.words[0]
	r.words = r.words[1:]
	return w
}

func (r *reader) number() int {
	n, err := strconv.Atoi(r.word())
	if err != nil {
		panic("this is no number")
	}
	return n
}

func (r *reader) kind() int {
	w := r.word()
	for i, k := range kindWords {
		if k == w {
			return api.HuPlate + i
		}
	}
	panic("this is no kind")
}

// part takes a part as it is told, to the end of the line.
func (r *reader) part() api.HuPart {
	var x api.HuPart
	x.Name = r.word()
	x.Kind = r.kind()
	x.First = r.number()
	x.Last = r.number()
	x.Weight.Lo = r.number()
	x.Weight.Hi = r.number()
	x.On = slices.Clone(r.words)
	return x
}

func (r *reader) change() api.HuChange {
	var c api.HuChange
	c.Day = r.number()
	switch r.word() {
	case "add":
		c.What = api.HuAdd
	case "take":
		c.What = api.HuTake
	case "swap":
		c.What = api.HuSwap
	default:
		panic("this is no change")
	}
	if c.What != api.HuAdd {
		c.Name = r.word()
	}
	if c.What != api.HuTake {
		c.Part = r.part()
	}
	return c
}
