package hull_test

import (
	"math/rand/v2"
	"strings"
	"testing"

	"orlop/api"
	"orlop/hull"
)

const textP = "part keel beam 0 40 9000 10000\n" +
	"part tank1 tank 10 19 2000 2500 keel\n" +
	"part deck plate 5 24 3000 3000 tank1 keel\n" +
	"100 add pipe1 pipe 12 30 100 200 tank1\n" +
	"200 swap tank1 hold1 plate 10 29 800 900 keel\n"

// largest is a plan with one of the longest texts: the parts of full, and as many of the longest changes.
func largest() api.HuPlan {
	p := full(12)
	last := p.Ship.Parts[11]
	for range 8 {
		p.Changes = append(p.Changes, swap(api.MaxDay, last.Name, last))
	}
	return p
}

func TestTexts(t *testing.T) {
	for _, c := range []struct {
		p    api.HuPlan
		text string
	}{
		{planP(), textP},
		{api.HuPlan{}, ""},
		{one("part", api.HuEngine, 0, 0), "part part engine 0 0 1 1\n"},
		{with(one("take", api.HuBeam, 40, 40), take(0, "take")), "part take beam 40 40 1 1\n0 take take\n"},
		{with(api.HuPlan{}, add(40000, part("add", api.HuTank, 0, 40, 1, 1000000))), "40000 add add tank 0 40 1 1000000\n"},
		{with(planQ(), take(7, "deck"), swap(7, "tank1", part("tank1", api.HuPipe, 1, 2, 3, 4))),
			"part keel beam 0 40 9000 10000\npart tank1 tank 10 19 2000 2500 keel\npart deck plate 5 24 3000 3000 tank1 keel\n7 take deck\n7 swap tank1 tank1 pipe 1 2 3 4\n"},
	} {
		if s, e := hull.Write(c.p); s != c.text || e != api.OK {
			t.Errorf("Write = %q, %d; want %q", s, e, c.text)
		}
		if p, e := hull.Read(c.text); !samePlans(p, c.p) || e != api.OK {
			t.Errorf("Read(%q) = %v, %d", c.text, p, e)
		}
	}
	s, e := hull.Write(largest())
	p, f := hull.Read(s)
	if e != api.OK || f != api.OK || !samePlans(p, largest()) {
		t.Errorf("of the largest plan: %d, %d", e, f)
	}
}

func TestWriteErrors(t *testing.T) {
	for _, c := range []struct {
		p api.HuPlan
		e api.Errno
	}{{built(api.HuPart{}), api.ErrForm}, {one("a", 6, 0, 0), api.ErrRange}, {with(planQ(), take(0, "none")), api.ErrNone}, {full(13), api.ErrLong}} {
		if s, e := hull.Write(c.p); s != "" || e != c.e {
			t.Errorf("Write = %q, %d; want %d", s, e, c.e)
		}
	}
}

func TestReadErrors(t *testing.T) {
	const keel = "part keel beam 0 40 9000 10000\n"
	for _, s := range []string{
		"\n", " ", "part", "part\n", "part \n", "keel\n", "\n" + keel, keel + "\n", " " + keel, keel[:len(keel)-1], keel + " ", keel[:len(keel)-1] + "\r\n",
		"part keel beam 0 40 9000\n", "part keel beam 0 40 9000 10000 \n", "part keel beam 0 40  9000 10000\n", "part  keel beam 0 40 9000 10000\n", "part\tkeel beam 0 40 9000 10000\n",
		"Part keel beam 0 40 9000 10000\n", "part Keel beam 0 40 9000 10000\n", "part keel Beam 0 40 9000 10000\n", "part keel 2 0 40 9000 10000\n", "part keel  0 40 9000 10000\n", "part keel mast 0 40 9000 10000\n",
		"part keel beam 00 40 9000 10000\n", "part keel beam 0 040 9000 10000\n", "part keel beam +0 40 9000 10000\n", "part keel beam -0 40 9000 10000\n", "part keel beam 0 4_0 9000 10000\n", "part keel beam 0 0x9 9000 10000\n", "part keel beam 0 4.0 9000 10000\n", "part keel beam 0 4e1 9000 10000\n", "part keel beam -1 40 9000 10000\n", "part keel beam zero 40 9000 10000\n", "part keel beam 0 41 9000 10000\n", "part keel beam 9 8 9000 10000\n", "part keel beam 0 40 0 10000\n", "part keel beam 0 40 9000 1000001\n", "part keel beam 0 40 9000 18446744073709551617\n", "part keel beam 0 40 10000 9000\n", "part keel beam 0 40 9000 10000 none\n", "part keel beam 0 40 9000 10000 keel\n",
		"part kiel\xff beam 0 40 9000 10000\n", "part keel beam ٠ 40 9000 10000\n", "part keel beam 0 40 9000 10000\x00\n",
		keel + keel, keel + "part deck plate 0 1 1 1 keel keel\n", keel + "part deck plate 0 1 1 1 keel \n", keel + "part deck plate 0 1 1 1 keel  \n",
		keel + "0\n", keel + "0 \n", keel + "0 take\n", keel + "0 take none\n", keel + "0 take keel keel\n", keel + "0 take keel \n", keel + "0  take keel\n", keel + "take keel\n", keel + "-1 take keel\n", keel + "+1 take keel\n", keel + "01 take keel\n", keel + "x take keel\n", keel + "40001 take keel\n", keel + "99999999999999999999 take keel\n", keel + "0 lift keel\n", keel + "0 Take keel\n", keel + "0 2 keel\n", keel + "0 take keel",
		keel + "0 add\n", keel + "0 add keel beam 0 40 9000 10000\n", keel + "0 add deck plate 0 1 1\n", keel + "0 add deck deck plate 0 1 1 1\n", keel + "0 swap\n", keel + "0 swap keel\n", keel + "0 swap keel deck\n", keel + "0 swap deck plate 0 1 1 1\n", keel + "0 swap none deck plate 0 1 1 1\n", keel + "5 add deck plate 0 1 1 1\n4 take deck\n",
		"0 add keel beam 0 40 9000 10000\npart deck plate 0 1 1 1\n", strings.Repeat("\n", 6000), strings.Repeat("a", 6000), strings.Repeat(keel, 6000/len(keel)),
	} {
		if p, e := hull.Read(s); e != api.ErrForm || !samePlans(p, api.HuPlan{}) {
			t.Errorf("Read(%q) = %v, %d", s, p, e)
		}
	}
	long := keel + strings.Repeat("\n", 6001-len(keel))
	if p, e := hull.Read(long); e != api.ErrLong || !samePlans(p, api.HuPlan{}) {
		t.Errorf("Read of 6001 bytes = %v, %d", p, e)
	}
	if p, e := hull.Read(long[:6000]); e != api.ErrForm || !samePlans(p, api.HuPlan{}) {
		t.Errorf("Read of 6000 bytes = %v, %d", p, e)
	}
}

// spoiled is a text with some bytes changed, taken away, or put in.
func spoiled(r *rand.Rand, text string) string {
	b := []byte(text)
	const some = " \n0123456789abkp+-"
	for range 1 + r.IntN(2) {
		at := r.IntN(len(b) + 1)
		c := some[r.IntN(len(some))]
		switch what := r.IntN(3); {
		case what == 0 || at == len(b):
			b = append(b[:at:at], append([]byte{c}, b[at:]...)...)
		case what == 1:
			b[at] = c
		default:
			b = append(b[:at], b[at+1:]...)
		}
	}
	return string(b)
}

// TestBytes is P1.14: what is written is read back, and what is read is written as it was.
func TestBytes(t *testing.T) {
	many(t, 300, func(r *rand.Rand) {
		p := randomChanges(r, randomShip(r))
		text, e := hull.Write(p)
		q, f := hull.Read(text)
		if e != api.OK || f != api.OK || !samePlans(p, q) {
			t.Errorf("%v is written as %q, %d, and read as %v, %d", p, text, e, q, f)
		}
		for range 30 {
			s := spoiled(r, text)
			q, e := hull.Read(s)
			if e != api.OK {
				if e != api.ErrForm || !samePlans(q, api.HuPlan{}) {
					t.Errorf("Read(%q) = %v, %d", s, q, e)
				}
				continue
			}
			if again, e := hull.Write(q); again != s || e != api.OK {
				t.Errorf("%q is read, and written as %q, %d", s, again, e)
			}
		}
	})
}
