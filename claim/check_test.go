package claim_test

import (
	"strings"
	"testing"

	"orlop/api"
)

// long is the longest name.
var long = strings.Repeat("z", 16)

// noNames is strings that are no names.
func noNames() []string {
	return words("", "-", " ", "A", "Clyde", "1a", "a b", "a\x00", "a\n", "\na", "ä", "\xff", "a\xff", long+"z", strings.Repeat("a", 100000))
}

// partOf is a part and an index, or nothing with no error.
func partOf(part, at int, e api.Errno) (int, int) {
	if e == api.OK {
		return 0, 0
	}
	return part, at
}

// shipHas checks the error of a ship, of all functions with one.
func shipHas(t *testing.T, what any, s api.ClShip, part, at int, e api.Errno) {
	t.Helper()
	part, at = partOf(part, at, e)
	shipChecks(t, what, s, part, at, e)
	if e != api.OK {
		shipErrors(t, what, s, 0, s.First, e)
		shipErrors(t, what, s, -1, "", e)
		return
	}
	ownersAre(t, what, s, 40000, ownersOf(s, 40000), api.OK)
}

// estateHas checks the error of an estate, of all functions with one.
func estateHas(t *testing.T, what any, x api.ClEstate, part, at int, e api.Errno) {
	t.Helper()
	part, at = partOf(part, at, e)
	checks(t, what, x, part, at, e)
	if e != api.OK {
		estateErrors(t, what, x, sampleT(), 0, claimOf("tug", 2, 3, 3), e)
		estateErrors(t, what, x, truthOf(-1), -1, claimOf("", 0, 1, 0), e)
		return
	}
	sureIs(t, what, x, outcomeOf(x, ends).sure, api.OK)
}

// dated is a ship with so many papers, of as many days.
func dated(papers int) api.ClShip {
	s := shipOf("a", 0)
	for i := range papers {
		s.Papers = append(s.Papers, paper(i, "a", "b"))
	}
	return s
}

// TestLimits is the limits of the chapter.
func TestLimits(t *testing.T) {
	if api.MaxClPapers != 8 || api.MaxClClaims != 8 || api.MaxClRank != 5 || api.MaxClCents != billion || api.MaxDay != 40000 || api.MaxName != 16 {
		t.Error("the limits are not those of the chapter")
	}
}

// TestCheckShipSizes is P11.1: how many papers there are, and how many can be forged.
func TestCheckShipSizes(t *testing.T) {
	for n, e := range map[int]api.Errno{0: api.OK, 1: api.OK, 8: api.OK, 9: api.ErrLong, 256: api.ErrLong, 264: api.ErrLong} {
		shipHas(t, n, dated(n), 1, 0, e)
	}
	shipHas(t, "many papers", shipOf("a", 0, make([]api.ClPaper, 100000)...), 1, 0, api.ErrLong)
	for n, e := range map[int]api.Errno{0: api.OK, 1: api.OK, 8: api.OK, -1: api.ErrRange, 9: api.ErrRange, 256: api.ErrRange} {
		for _, papers := range ints(0, 2, 8) {
			s := dated(papers)
			s.Forged = n
			shipHas(t, n, s, 1, 0, e)
		}
	}
	for _, n := range far() {
		shipHas(t, n, shipOf("a", n), 1, 0, api.ErrRange)
		shipHas(t, n, shipOf("a", n, paper(n, "", "")), 1, 0, api.ErrRange)
	}
	shipHas(t, "nothing", api.ClShip{}, 1, 0, api.ErrForm)
	shipHas(t, "the sample", sampleS(), 0, 0, api.OK)
}

// TestCheckShipNames is P11.1: names of the first owner and in papers.
func TestCheckShipNames(t *testing.T) {
	for _, name := range noNames() {
		shipHas(t, name, shipOf(name, 0), 1, 0, api.ErrForm)
		shipHas(t, name, shipOf("a", 0, paper(0, name, "b")), 2, 0, api.ErrForm)
		shipHas(t, name, shipOf("a", 0, paper(0, "b", name)), 2, 0, api.ErrForm)
		shipHas(t, name, shipOf("a", 0, paper(0, name, name)), 2, 0, api.ErrForm)
		shipHas(t, name, shipOf("a", 0, paper(0, "a", "b"), paper(0, "a", name), paper(0, "", "")), 2, 1, api.ErrForm)
	}
	for _, name := range words("a", "z9", "a0b", long) {
		shipHas(t, name, shipOf(name, 0), 0, 0, api.OK)
		shipHas(t, name, shipOf("b", 0, paper(0, name, "b"), paper(0, "b", name)), 0, 0, api.OK)
		shipHas(t, name, shipOf("b", 0, paper(0, name, name)), 2, 0, api.ErrArg)
	}
}

// TestCheckShipDays is P11.1: the days of papers.
func TestCheckShipDays(t *testing.T) {
	with := func(day int) api.ClShip { return shipOf("a", 1, paper(5, "a", "b"), paper(day, "b", "c")) }
	for day, e := range map[int]api.Errno{0: api.OK, 1: api.OK, 40000: api.OK, -1: api.ErrRange, 40001: api.ErrRange, 65536: api.ErrRange} {
		shipHas(t, day, with(day), 2, 1, e)
	}
	for _, day := range far() {
		shipHas(t, day, with(day), 2, 1, api.ErrRange)
	}
}

// TestCheckShipOrder is P11.1 and R1: of several errors the one that is named first.
func TestCheckShipOrder(t *testing.T) {
	bad := paper(-1, "", "")
	eight := dated(8).Papers
	for i, c := range []struct {
		s        api.ClShip
		part, at int
		e        api.Errno
	}{
		{shipOf("", -1, make([]api.ClPaper, 9)...), 1, 0, api.ErrForm},
		{shipOf("", 9, bad), 1, 0, api.ErrForm},
		{shipOf("", 0, bad), 1, 0, api.ErrForm},
		{shipOf("a", -1, make([]api.ClPaper, 9)...), 1, 0, api.ErrLong},
		{shipOf("a", 0, append(dated(8).Papers, bad)...), 1, 0, api.ErrLong},
		{shipOf("a", 9, bad), 1, 0, api.ErrRange},
		{shipOf("a", -1, eight...), 1, 0, api.ErrRange},
		{shipOf("a", 8, bad, bad), 2, 0, api.ErrRange},
		{shipOf("a", 0, paper(40001, "b", "b")), 2, 0, api.ErrRange},
		{shipOf("a", 0, paper(-1, "b", "c")), 2, 0, api.ErrRange},
		{shipOf("a", 0, paper(0, "", "")), 2, 0, api.ErrForm},
		{shipOf("a", 0, paper(0, "B", "B")), 2, 0, api.ErrForm},
		{shipOf("a", 0, paper(0, "b", "b"), bad), 2, 0, api.ErrArg},
		{shipOf("a", 0, paper(0, "a", "b"), paper(0, "b", "b"), bad), 2, 1, api.ErrArg},
		{shipOf("a", 0, paper(0, "a", "b"), paper(0, "b", ""), bad), 2, 1, api.ErrForm},
		{shipOf("a", 0, paper(0, "a", "b"), paper(0, "c", "a"), bad), 2, 2, api.ErrRange},
		{shipOf("a", 0, append(dated(7).Papers, paper(7, "b", "b"))...), 2, 7, api.ErrArg},
		{shipOf("a", 0, paper(3, "a", "b"), paper(3, "a", "b")), 0, 0, api.OK}, // the same paper twice
		{shipOf("a", 0, paper(3, "b", "a")), 0, 0, api.OK},                     // by somebody who never has the ship
	} {
		shipHas(t, i, c.s, c.part, c.at, c.e)
	}
}

// TestDays is P11.2: the day of Owners and Forged, whose error comes before ErrNone.
func TestDays(t *testing.T) {
	for _, day := range append(far(), -1, 40001) {
		shipErrors(t, day, sampleS(), day, "clyde", api.ErrRange)
		shipErrors(t, day, sampleS(), day, "nobody", api.ErrRange)
		shipErrors(t, day, dated(9), day, "a", api.ErrLong)
	}
	for day, want := range map[int][]string{0: words("clyde"), 40000: words("cash", "clyde", "pacific")} {
		ownersAre(t, day, sampleS(), day, want, api.OK)
	}
}

// claims is an estate with so many claims.
func claims(n int) (x api.ClEstate) {
	for i := range n {
		x.Claims = append(x.Claims, claimOf("c"+string(rune('0'+i%10))+string(rune('0'+i/10)), 1+i%5, 1, 1))
	}
	return x
}

// TestCheckSizes is P11.3: the proceeds, and how many claims there are.
func TestCheckSizes(t *testing.T) {
	for n, e := range map[int]api.Errno{1: api.OK, 8: api.OK, 0: api.ErrLong, 9: api.ErrLong, 16: api.ErrLong} {
		estateHas(t, n, claims(n), 1, 0, e)
	}
	for _, n := range ints(256, 264, 100000) {
		estateHas(t, n, api.ClEstate{Claims: make([]api.ClClaim, n)}, 1, 0, api.ErrLong)
	}
	for i, c := range []struct {
		proceeds api.Span
		e        api.Errno
	}{
		{span(0, 0), api.OK},
		{span(7, 7), api.OK},
		{span(0, billion), api.OK},
		{span(billion, billion), api.OK},
		{span(-1, 0), api.ErrRange},
		{span(0, billion+1), api.ErrRange},
		{span(billion+1, billion+1), api.ErrRange},
		{span(-1, -1), api.ErrRange},
		{span(0, -1), api.ErrRange},
		{span(billion+1, 0), api.ErrRange},
		{span(1, 0), api.ErrArg},
		{span(billion, 0), api.ErrArg},
		{span(billion, billion-1), api.ErrArg},
	} {
		x := claims(2)
		x.Proceeds = c.proceeds
		estateHas(t, i, x, 1, 0, c.e)
	}
	for _, n := range far() {
		estateHas(t, n, estateOf(n, 5, sampleE().Claims...), 1, 0, api.ErrRange)
		estateHas(t, n, estateOf(5, n, sampleE().Claims...), 1, 0, api.ErrRange)
		estateHas(t, n, estateOf(n, n), 1, 0, api.ErrRange)
	}
	estateHas(t, "nothing", api.ClEstate{}, 1, 0, api.ErrLong)
	estateHas(t, "the sample", sampleE(), 0, 0, api.OK)
}

// TestCheckNames is P11.3: names of claims that are none, or told twice.
func TestCheckNames(t *testing.T) {
	for _, name := range noNames() {
		estateHas(t, name, estateOf(0, 9, claimOf(name, 1, 0, 0)), 2, 0, api.ErrForm)
		estateHas(t, name, estateOf(0, 9, claimOf("a", 1, 0, 0), claimOf(name, 1, 0, 0), claimOf("a", 1, 0, 0)), 2, 1, api.ErrForm)
	}
	for i, c := range []struct {
		names []string
		at    int
		e     api.Errno
	}{
		{words("a"), 0, api.OK},
		{words(long, "a", "a0"), 0, api.OK},
		{words("a", "a"), 1, api.ErrTwice},
		{words("a", "b", "a"), 2, api.ErrTwice},
		{words("a", "b", "b", "a"), 2, api.ErrTwice},
		{words("a", "b", "c", "d", "e", "f", "g", "a"), 7, api.ErrTwice},
		{words("", ""), 0, api.ErrForm},
		{words("a", "", ""), 1, api.ErrForm},
	} {
		x := estateOf(0, 9)
		for k, name := range c.names {
			x.Claims = append(x.Claims, claimOf(name, 1+k%5, k, k))
		}
		estateHas(t, i, x, 2, c.at, c.e)
	}
}

// TestCheckClaims is P11.3: ranks and cents.
func TestCheckClaims(t *testing.T) {
	with := func(rank, lo, hi int) api.ClEstate {
		return estateOf(3, 9, claimOf("a", 1, 2, 2), claimOf("b", rank, lo, hi))
	}
	for i, c := range []struct {
		rank, lo, hi int
		e            api.Errno
	}{
		{1, 0, 0, api.OK},
		{5, 0, 0, api.OK},
		{0, 0, 0, api.ErrRange},
		{6, 0, 0, api.ErrRange},
		{-1, 0, 0, api.ErrRange},
		{257, 0, 0, api.ErrRange},
		{1, 0, billion, api.OK},
		{1, billion, billion, api.OK},
		{1, 4, 4, api.OK},
		{1, -1, 0, api.ErrRange},
		{1, 0, billion + 1, api.ErrRange},
		{1, billion + 1, billion + 1, api.ErrRange},
		{1, 1, -1, api.ErrRange},
		{1, billion + 1, 3, api.ErrRange},
		{1, 1, 0, api.ErrArg},
		{5, billion, billion - 1, api.ErrArg},
		{0, 1, 0, api.ErrRange},
		{6, 1, 0, api.ErrRange},
	} {
		estateHas(t, i, with(c.rank, c.lo, c.hi), 2, 1, c.e)
	}
	for _, n := range far() {
		estateHas(t, n, with(n, 0, 0), 2, 1, api.ErrRange)
		estateHas(t, n, with(1, n, 0), 2, 1, api.ErrRange)
		estateHas(t, n, with(1, 0, n), 2, 1, api.ErrRange)
		estateHas(t, n, with(n, n, n), 2, 1, api.ErrRange)
	}
}

// TestCheckOrder is P11.3 and R1: of several errors the one that is named first.
func TestCheckOrder(t *testing.T) {
	bad := claimOf("", 0, 1, 0)
	for i, c := range []struct {
		x        api.ClEstate
		part, at int
		e        api.Errno
	}{
		{estateOf(-1, -2), 1, 0, api.ErrRange},
		{estateOf(billion+1, 0, bad), 1, 0, api.ErrRange},
		{estateOf(-1, 0, make([]api.ClClaim, 9)...), 1, 0, api.ErrRange},
		{estateOf(1, 0), 1, 0, api.ErrArg},
		{estateOf(1, 0, bad), 1, 0, api.ErrArg},
		{estateOf(1, 0, make([]api.ClClaim, 9)...), 1, 0, api.ErrArg},
		{estateOf(0, 0, make([]api.ClClaim, 9)...), 1, 0, api.ErrLong},
		{estateOf(0, 0, bad, bad), 2, 0, api.ErrForm},
		{estateOf(0, 0, claimOf("a", 1, 0, 0), claimOf("a", 0, 1, 0), bad), 2, 1, api.ErrTwice},
		{estateOf(0, 0, claimOf("a", 1, 0, 0), claimOf("a", 1, 1, 0), bad), 2, 1, api.ErrTwice},
		{estateOf(0, 0, claimOf("a", 1, 0, 0), claimOf("b", 0, 1, 0), bad), 2, 1, api.ErrRange},
		{estateOf(0, 0, claimOf("a", 1, 0, 0), claimOf("b", 1, 2, -1), bad), 2, 1, api.ErrRange},
		{estateOf(0, 0, claimOf("a", 1, 0, 0), claimOf("b", 1, 2, 1), bad), 2, 1, api.ErrArg},
		{estateOf(0, 0, claimOf("a", 1, 2, 1), claimOf("a", 1, 0, 0)), 2, 0, api.ErrArg},
		{estateOf(0, 0, claimOf("a", 6, 0, 0), claimOf("a", 1, 0, 0)), 2, 0, api.ErrRange},
	} {
		estateHas(t, i, c.x, c.part, c.at, c.e)
	}
}

// TestTruths is P11.4 and P11.6: the errors of a truth.
func TestTruths(t *testing.T) {
	tug := claimOf("tug", 2, 300, 300)
	for i, c := range []struct {
		u api.ClTruth
		e api.Errno
	}{
		{sampleT(), api.OK},
		{truthOf(1200, 400, 800, 300, 100), api.OK},
		{truthOf(1000, 400, 600, 300, 100), api.OK},
		{api.ClTruth{}, api.ErrLong},
		{truthOf(1000), api.ErrLong},
		{truthOf(1000, 300, 600, 300), api.ErrLong},
		{truthOf(1000, 300, 600, 300, 100, 0), api.ErrLong},
		{truthOf(1000, make([]int, 100000)...), api.ErrLong},
		{truthOf(-1, 300, 600, 300), api.ErrLong},
		{truthOf(1000, 299, 600, 300), api.ErrLong},
		{truthOf(999, 300, 600, 300, 100), api.ErrRange},
		{truthOf(1201, 300, 600, 300, 100), api.ErrRange},
		{truthOf(1000, 299, 600, 300, 100), api.ErrRange},
		{truthOf(1000, 401, 600, 300, 100), api.ErrRange},
		{truthOf(1000, 300, 599, 300, 100), api.ErrRange},
		{truthOf(1000, 300, 801, 300, 100), api.ErrRange},
		{truthOf(1000, 300, 600, 299, 100), api.ErrRange},
		{truthOf(1000, 300, 600, 301, 100), api.ErrRange},
		{truthOf(1000, 300, 600, 300, 99), api.ErrRange},
		{truthOf(1000, 300, 600, 300, 101), api.ErrRange},
	} {
		if c.e != api.OK {
			truthErrors(t, i, sampleE(), c.u, tug, c.e)
			truthErrors(t, i, sampleE(), c.u, claimOf("", 0, 1, 0), c.e)
			continue
		}
		pays, rest := paysOf(sampleE(), c.u)
		paysAre(t, i, sampleE(), c.u, pays, rest, api.OK)
	}
	for _, n := range far() {
		truthErrors(t, n, sampleE(), truthOf(n, 300, 600, 300, 100), tug, api.ErrRange)
		truthErrors(t, n, sampleE(), truthOf(1000, 300, n, 300, 100), tug, api.ErrRange)
		truthErrors(t, n, sampleE(), truthOf(1000, 300, 600, 300, n), tug, api.ErrRange)
	}
}

// TestLeastErrors is P11.5: claims that are no indices.
func TestLeastErrors(t *testing.T) {
	for _, i := range append(far(), -1, 4, 8) {
		leastIs(t, i, sampleE(), i, 0, api.ErrNone)
		leastIs(t, i, estateOf(1, 0, sampleE().Claims...), i, 0, api.ErrArg)
	}
}

// TestCostErrors is P11.6: the errors in their order.
func TestCostErrors(t *testing.T) {
	full := claims(8)
	truth := truthOf(0, 1, 1, 1, 1, 1, 1, 1, 1)
	for i, c := range []struct {
		x       api.ClEstate
		u       api.ClTruth
		further api.ClClaim
		e       api.Errno
	}{
		{estateOf(0, 0), truthOf(1), claimOf("", 0, 1, 0), api.ErrLong},
		{estateOf(1, 0, sampleE().Claims...), truthOf(1), claimOf("", 0, 1, 0), api.ErrArg},
		{full, truthOf(1, 1), claimOf("", 0, 1, 0), api.ErrLong},
		{full, truthOf(1, 1, 1, 1, 1, 1, 1, 1, 1), claimOf("tug", 1, 1, 1), api.ErrRange},
		{full, truth, claimOf("tug", 1, 1, 1), api.ErrLong},
		{full, truth, claimOf("", 0, 1, 0), api.ErrLong},
		{full, truth, claimOf("c00", 1, 1, 1), api.ErrLong},
		{sampleE(), sampleT(), claimOf("", 0, 1, 0), api.ErrForm},
		{sampleE(), sampleT(), claimOf("Tug", 1, 0, 0), api.ErrForm},
		{sampleE(), sampleT(), claimOf(long+"z", 1, 0, 0), api.ErrForm},
		{sampleE(), sampleT(), claimOf("\xff", 1, 0, 0), api.ErrForm},
		{sampleE(), sampleT(), claimOf("crew", 0, 1, 0), api.ErrTwice},
		{sampleE(), sampleT(), claimOf("flag", 1, 0, 0), api.ErrTwice},
		{sampleE(), sampleT(), claimOf("tug", 0, 1, 0), api.ErrRange},
		{sampleE(), sampleT(), claimOf("tug", 6, 1, 2), api.ErrRange},
		{sampleE(), sampleT(), claimOf("tug", 1, 1, -1), api.ErrRange},
		{sampleE(), sampleT(), claimOf("tug", 1, 0, billion+1), api.ErrRange},
		{sampleE(), sampleT(), claimOf("tug", 1, billion+1, billion+1), api.ErrRange},
		{sampleE(), sampleT(), claimOf("tug", 1, -1, -1), api.ErrRange},
		{sampleE(), sampleT(), claimOf("tug", 1, 1, 0), api.ErrArg},
		{sampleE(), sampleT(), claimOf("tug", 1, 0, 1), api.ErrArg},
		{sampleE(), sampleT(), claimOf("tug", 5, 0, billion), api.ErrArg},
	} {
		costIs(t, i, c.x, c.u, c.further, nil, c.e)
	}
	for _, n := range far() {
		costIs(t, n, sampleE(), sampleT(), claimOf("tug", n, 0, 0), nil, api.ErrRange)
		costIs(t, n, sampleE(), sampleT(), claimOf("tug", 1, n, n), nil, api.ErrRange)
		costIs(t, n, sampleE(), sampleT(), claimOf("tug", 1, 0, n), nil, api.ErrRange)
	}
	for i, further := range []api.ClClaim{claimOf(long, 1, 0, 0), claimOf("a", 5, 0, 0)} {
		costIs(t, i, sampleE(), sampleT(), further, ints(0, 0, 0, 0), api.OK)
	}
	seven := claims(7)
	costIs(t, "the last one", seven, truthOf(0, truth.Cents[1:]...), claimOf("tug", 1, billion, billion), make([]int, 7), api.OK)
}
