package waste_test

import (
	"fmt"
	"math/rand/v2"
	"regexp"
	"slices"
	"strconv"
	"strings"
	"testing"

	"orlop/api"
	"orlop/waste"
)

// largest is a yard with one of the longest texts.
func largest() api.WaYard {
	y := sized(4, 4, 10, 8, 8)
	for i := range 4 {
		y.Kinds[i] = strings.Repeat("k", 15) + string(rune('0'+i))
		y.Places[i] = strings.Repeat("p", 15) + string(rune('0'+i))
	}
	for i := range 10 {
		y.Papers[i] = paper(3, 0, 3, 1000000, i^1)
	}
	for i := range 8 {
		y.First[i].Kilos, y.Last[i].Kilos = span(1000000, 1000000), span(1000000, 1000000)
	}
	return y
}

// told is the text of a yard without an error, by the chapter's words.
func told(y api.WaYard) string {
	var b strings.Builder
	place := func(i int) string {
		if i == out {
			return "-"
		}
		return y.Places[i]
	}
	count := func(word string, c api.WaCount) {
		fmt.Fprintf(&b, "%s %s %s %d %d\n", word, y.Kinds[c.Kind], y.Places[c.Place], c.Kilos.Lo, c.Kilos.Hi)
	}
	fmt.Fprintf(&b, "kinds %s\nplaces %s\n", strings.Join(y.Kinds, " "), strings.Join(y.Places, " "))
	for _, c := range y.First {
		count("first", c)
	}
	for _, p := range y.Papers {
		other := "-"
		if p.Copy != -1 {
			other = fmt.Sprint(p.Copy)
		}
		fmt.Fprintf(&b, "paper %s %s %s %d %s\n", y.Kinds[p.Kind], place(p.From), place(p.To), p.Kilos, other)
	}
	for _, c := range y.Last {
		count("last", c)
	}
	return b.String()
}

// form is the form of a text, but that names are told, and numbers are as stated.
var form = regexp.MustCompile(`^kinds((?: [a-z][a-z0-9]{0,15}){1,4})\nplaces((?: [a-z][a-z0-9]{0,15}){1,4})\n` +
	`((?:first [a-z0-9]+ [a-z0-9]+ N N\n){0,8})((?:paper [a-z0-9]+ [a-z0-9-]+ [a-z0-9-]+ N (?:-|N)\n){0,10})((?:last [a-z0-9]+ [a-z0-9]+ N N\n){0,8})$`)

// numbers is the numbers of a text as they are told.
var numbers = regexp.MustCompile(` (0|[1-9][0-9]{0,6})\b`)

// tells is the yard that a text tells; false if it is the text of none.
func tells(text string) (y api.WaYard, is bool) {
	// A number is put in the place of N by what can be one; a name never begins with a digit.
	parts := form.FindStringSubmatch(numbers.ReplaceAllString(text, " N"))
	if parts == nil {
		return api.WaYard{}, false
	}
	is = true
	find := func(l []string, name string) int {
		at := slices.Index(l, name)
		is = is && at >= 0
		return at
	}
	number := func(word string) int {
		n, err := strconv.Atoi(word)
		is = is && err == nil
		return n
	}
	place := func(name string) int {
		if name == "-" {
			return out
		}
		return find(y.Places, name)
	}
	lines := strings.Split(strings.TrimSuffix(text, "\n"), "\n")
	y.Kinds, y.Places = strings.Split(lines[0], " ")[1:], strings.Split(lines[1], " ")[1:]
	for _, l := range lines[2:] {
		w := strings.Split(l, " ")
		switch w[0] {
		case "first":
			y.First = append(y.First, count(find(y.Kinds, w[1]), find(y.Places, w[2]), number(w[3]), number(w[4])))
		case "last":
			y.Last = append(y.Last, count(find(y.Kinds, w[1]), find(y.Places, w[2]), number(w[3]), number(w[4])))
		default:
			other := -1
			if w[5] != "-" {
				other = number(w[5])
			}
			y.Papers = append(y.Papers, paper(find(y.Kinds, w[1]), place(w[2]), place(w[3]), number(w[4]), other))
		}
	}
	if _, _, e := faultOf(y); !is || e != api.OK {
		return api.WaYard{}, false
	}
	return y, true
}

// TestTexts is P9.5: texts of yards with and without papers and counts, WaOutside and lost copies.
func TestTexts(t *testing.T) {
	words := bare(1, 1)
	words.Kinds, words.Places = []string{"paper", "last", "kinds", "first"}, []string{"first", "places", "paper", "k0"}
	words.Papers = papers(paper(0, 2, 0, 0, 1), paper(0, 2, 0, 1000000, 0), paper(3, out, 1, 5, -1))
	words.First = counts(count(3, 0, 0, 1000000))
	words.Last = counts(count(1, 2, 1000000, 1000000), count(2, 3, 0, 0))
	for i, c := range []struct {
		y    api.WaYard
		text string
	}{
		{sampleZ(), textZ},
		{bare(1, 1), "kinds k0\nplaces p0\n"},
		{bare(4, 3), "kinds k0 k1 k2 k3\nplaces p0 p1 p2\n"},
		{yard(1, nil, papers(paper(0, out, 0, 0, -1)), nil), "kinds k0\nplaces p0\npaper k0 - p0 0 -\n"},
		{yard(1, nil, papers(paper(0, 0, out, 1000000, -1)), nil), "kinds k0\nplaces p0\npaper k0 p0 - 1000000 -\n"},
		{yard(2, nil, papers(paper(0, 0, 1, 7, -1)), nil), "kinds k0\nplaces p0 p1\npaper k0 p0 p1 7 -\n"},
		{yard(1, nil, nil, counts(count(0, 0, 0, 10))), "kinds k0\nplaces p0\nlast k0 p0 0 10\n"},
		{yard(1, counts(count(0, 0, 0, 10)), nil, nil), "kinds k0\nplaces p0\nfirst k0 p0 0 10\n"},
		{words, "kinds paper last kinds first\nplaces first places paper k0\nfirst first first 0 1000000\n" +
			"paper paper paper first 0 1\npaper paper paper first 1000000 0\npaper first - places 5 -\n" +
			"last last paper 1000000 1000000\nlast kinds k0 0 0\n"},
		{sized(1, 1, 10, 0, 0), "kinds k0\nplaces p0\n" + strings.Repeat("paper k0 p0 - 1 -\n", 10)},
		{largest(), told(largest())},
		{sampleY(), told(sampleY())},
	} {
		writesIs(t, i, c.y, c.text, api.OK)
		readIs(t, c.text, c.y, api.OK)
		same(t, "the reader of these tests", c.text, told(c.y))
		if y, is := tells(c.text); !is || !sameYards(y, c.y) {
			t.Errorf("%d: the reader of these tests reads %v, %v", i, y, is)
		}
	}
}

// TestReadErrors is P9.5: strings that are the text of no yard.
func TestReadErrors(t *testing.T) {
	const names = "kinds oil paint\nplaces yard pit\n"
	const first, sheet, last = "first oil yard 1 2\n", "paper oil yard pit 600 -\n", "last oil yard 3 4\n"
	readIs(t, names+first+sheet+last, api.WaYard{
		Kinds: []string{"oil", "paint"}, Places: []string{"yard", "pit"},
		First: counts(count(0, 0, 1, 2)), Papers: papers(paper(0, 0, 1, 600, -1)), Last: counts(count(0, 0, 3, 4)),
	}, api.OK)
	texts := []string{
		"", " ", "\n", "\n\n", "kinds", "kinds\n", "kinds \n", "kinds oil\n", "places pit\n", "kinds oil\nplaces\n", "kinds oil\nplaces \n", "kinds\nplaces pit\n", "kinds \nplaces pit\n",
		names[:len(names)-1], names + "\n", "\n" + names, " " + names, names + " ", names[:len(names)-1] + " \n", names[:len(names)-1] + "\r\n", "\ufeff" + names, names + "\x00",
		"kinds oil paint \nplaces yard pit\n", "kinds  oil paint\nplaces yard pit\n", "kinds oil  paint\nplaces yard pit\n", "kinds\toil paint\nplaces yard pit\n", "kinds oil paint places yard pit\n",
		"Kinds oil\nplaces pit\n", "kind oil\nplaces pit\n", "kinds oil\nplace pit\n", "kinds Oil\nplaces pit\n", "kinds 1\nplaces pit\n", "kinds -\nplaces pit\n", "kinds oil\nplaces -\n", "kinds \xff\nplaces pit\n",
		"kinds oil oil\nplaces pit\n", "kinds oil\nplaces pit pit\n", "kinds a b c d e\nplaces pit\n", "kinds oil\nplaces a b c d e\n", "kinds abcdefghijklmnopq\nplaces pit\n",
		"places yard pit\nkinds oil paint\n", "kinds oil\nkinds oil\nplaces pit\n", "kinds oil\nplaces pit\nplaces pit\n", "kinds oil\nplaces pit\nkinds oil\n",
		// Lines in another order.
		first + names, "kinds oil\n" + first + "places yard\n", names + sheet + first, names + last + first, names + last + sheet, names + first + last + sheet, names + sheet + last + sheet, names + first + sheet + first,
		names + first + "\n" + sheet, names + first + names,
		// Counts.
		names + "first\n", names + "first oil\n", names + "first oil yard\n", names + "first oil yard 1\n", names + "first oil yard 1 2 3\n", names + "first oil yard 1 2 \n", names + "first oil yard 1  2\n", names + "first oil  yard 1 2\n", names + "first  oil yard 1 2\n", names + " first oil yard 1 2\n", names + "first oil yard 1 2",
		names + "First oil yard 1 2\n", names + "count oil yard 1 2\n", names + "firs oil yard 1 2\n", names + "first lead yard 1 2\n", names + "first oil deck 1 2\n", names + "first yard oil 1 2\n", names + "first 0 0 1 2\n", names + "first oil - 1 2\n", names + "first - yard 1 2\n",
		names + "first oil yard 01 2\n", names + "first oil yard 1 02\n", names + "first oil yard 00 2\n", names + "first oil yard +1 2\n", names + "first oil yard 1 +2\n", names + "first oil yard -0 2\n", names + "first oil yard -1 2\n", names + "first oil yard - 2\n", names + "first oil yard 1 -\n", names + "first oil yard 1_0 20\n", names + "first oil yard 0x1 2\n", names + "first oil yard 1.0 2\n", names + "first oil yard 1e0 2\n", names + "first oil yard one 2\n", names + "first oil yard ٠ 2\n",
		names + "first oil yard 2 1\n", names + "first oil yard 1 1000001\n", names + "first oil yard 1 18446744073709551618\n", names + "first oil yard 99999999999999999999 2\n",
		names + first + first, names + last + last, names + first + "first oil yard 3 4\n",
		names + "last\n", names + "last oil yard 3\n", names + "last oil yard 3 4 5\n", names + "last oil yard 3 4", names + "last oil yard 03 4\n", names + "last oil yard 4 3\n", names + "last oil yard 3 +4\n", names + "last oil deck 3 4\n", names + "Last oil yard 3 4\n", names + "last oil - 3 4\n",
		// Papers.
		names + "paper\n", names + "paper oil\n", names + "paper oil yard\n", names + "paper oil yard pit\n", names + "paper oil yard pit 600\n", names + "paper oil yard pit 600 \n", names + "paper oil yard pit 600 - -\n", names + "paper oil yard pit 600 - \n", names + "paper oil yard pit  600 -\n", names + "paper oil yard pit 600  -\n", names + "paper oil yard pit 600 -", names + "Paper oil yard pit 600 -\n", names + "papers oil yard pit 600 -\n",
		names + "paper lead yard pit 600 -\n", names + "paper oil deck pit 600 -\n", names + "paper oil yard deck 600 -\n", names + "paper oil -1 pit 600 -\n", names + "paper oil -- pit 600 -\n", names + "paper - yard pit 600 -\n", names + "paper oil yard outside 600 -\n",
		names + "paper oil yard yard 600 -\n", names + "paper oil - - 600 -\n", names + "paper oil yard pit - -\n", names + "paper oil yard pit 0600 -\n", names + "paper oil yard pit +600 -\n", names + "paper oil yard pit -600 -\n", names + "paper oil yard pit 1000001 -\n", names + "paper oil yard pit 600 -1\n", names + "paper oil yard pit 600 0\n", names + "paper oil yard pit 600 1\n", names + "paper oil yard pit 600 x\n", names + "paper oil yard pit 600 none\n",
		names + "paper oil yard pit 600 1\npaper oil yard pit 600 -\n", names + "paper oil yard pit 600 1\npaper oil yard pit 600 00\n", names + "paper oil yard pit 600 +1\npaper oil yard pit 600 0\n", names + "paper oil yard pit 600 01\npaper oil yard pit 600 0\n", names + "paper oil yard pit 600 1\npaper oil yard pit 600 -0\n",
		names + strings.Repeat(sheet, 11),
		strings.Repeat("\n", 4000), strings.Repeat("a", 4000), strings.Repeat(" ", 4000), strings.Repeat("kinds oil\n", 400), strings.Repeat("\xff", 4000),
	}
	for _, s := range texts {
		if _, is := tells(s); is {
			t.Errorf("%q is taken by the reader of these tests", s)
		}
		readIs(t, s, api.WaYard{}, api.ErrForm)
	}
	// Nine counts of one list; eight are told.
	nine := "kinds a b c d\nplaces a b c d\n"
	for i := range 9 {
		nine += fmt.Sprintf("last %c %c 0 0\n", 'a'+i%4, 'a'+i/4)
		if _, e := waste.Read(nine); e != map[bool]api.Errno{true: api.OK, false: api.ErrForm}[i < 8] {
			t.Errorf("%d counts: %d", i+1, e)
		}
	}
}

// TestReadLong is P9.5: MaxWaText bytes and one more.
func TestReadLong(t *testing.T) {
	for _, s := range []string{textZ, "", "kinds oil\nplaces pit\n"} {
		for _, filler := range []string{"\n", "a", " ", "\x00", "\xff"} {
			long := s + strings.Repeat(filler, 4001-len(s))
			readIs(t, long, api.WaYard{}, api.ErrLong)
			readIs(t, long[:4000], api.WaYard{}, api.ErrForm)
			readIs(t, long+long, api.WaYard{}, api.ErrLong)
		}
	}
	readIs(t, strings.Repeat("x", 1<<22), api.WaYard{}, api.ErrLong)
}

// spoiled is a text with some bytes changed, taken away, or put in, or with lines in another order.
func spoiled(r *rand.Rand, text string) string {
	const some = " \n0123456789abkp+-"
	if r.IntN(4) == 0 {
		lines := strings.SplitAfter(text, "\n")
		i, j := r.IntN(len(lines)), r.IntN(len(lines))
		lines[i], lines[j] = lines[j], lines[i]
		return strings.Join(lines, "")
	}
	b := []byte(text)
	for range 1 + r.IntN(2) {
		at := r.IntN(len(b) + 1)
		c := some[r.IntN(len(some))]
		switch what := r.IntN(3); {
		case what == 0 || at == len(b):
			b = slices.Insert(b, at, c)
		case what == 1:
			b[at] = c
		default:
			b = slices.Delete(b, at, at+1)
		}
	}
	return string(b)
}

// TestBytes is P9.13: what is written is read back, and what is read is written as it was; and just those strings are read that are texts.
func TestBytes(t *testing.T) {
	read, other := 0, 0
	many(t, 400, func(r *rand.Rand) {
		y := randomYard(r, randomSize(r, 10))
		text := told(y)
		writesIs(t, "any", y, text, api.OK)
		readIs(t, text, y, api.OK)
		for range 30 {
			s := spoiled(r, text)
			want, is := tells(s)
			if !is {
				readIs(t, s, api.WaYard{}, api.ErrForm)
				continue
			}
			readIs(t, s, want, api.OK)
			writesIs(t, "spoiled", want, s, api.OK)
			if read++; s != text {
				other++
			}
		}
	})
	enough(t, "strings that are read", read, 1000)
	enough(t, "other texts", other, 500)
}

// TestAnyBytes is P9.5 and P9.14: strings of any bytes and any words.
func TestAnyBytes(t *testing.T) {
	words := []string{"kinds", "places", "first", "paper", "last", "oil", "pit", "-", "0", "7", "-1", "+1", "01", "1000000", "1000001", "9223372036854775808", "", "\xff", "\x00"}
	many(t, 20000, func(r *rand.Rand) {
		var b strings.Builder
		if r.IntN(2) == 0 {
			b.WriteString("kinds oil\nplaces pit\n")
		}
		for range r.IntN(20) {
			if r.IntN(8) == 0 {
				b.WriteByte(byte(r.IntN(256)))
				continue
			}
			b.WriteString(words[r.IntN(len(words))])
			b.WriteByte(" \n"[r.IntN(2)])
		}
		s := b.String()
		if want, is := tells(s); is {
			readIs(t, s, want, api.OK)
		} else {
			readIs(t, s, api.WaYard{}, api.ErrForm)
		}
	})
}
