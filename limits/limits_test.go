package limits_test

import (
	"testing"

	"orlop/api"
	"orlop/limits"
)

const (
	least    = -1 << 63
	greatest = 1<<63 - 1
)

func TestWithin(t *testing.T) {
	for i, c := range []struct {
		lo, hi  int
		numbers []int
		want    bool
	}{
		{1, 0, nil, true},
		{1, 0, []int{0}, false},
		{1, 0, []int{1}, false},
		{-3, 5, []int{-3, 0, 5}, true},
		{-3, 5, []int{-4, 0, 5}, false},
		{-3, 5, []int{-3, 0, 6}, false},
		{-3, 5, []int{0, least, 0}, false},
		{-3, 5, []int{0, greatest, 0}, false},
		{least, greatest, []int{least, 0, greatest}, true},
	} {
		if got := limits.Within(c.lo, c.hi, c.numbers...); got != c.want {
			t.Errorf("%d: Within = %v", i, got)
		}
	}
}

func TestSpans(t *testing.T) {
	for i, c := range []struct {
		spans          []api.Span
		within, turned bool
	}{
		{nil, true, false},
		{[]api.Span{{Lo: -3, Hi: 5}, {Lo: 2, Hi: 2}}, true, false},
		{[]api.Span{{Lo: 5, Hi: -3}, {Lo: 2, Hi: 2}}, true, true},
		{[]api.Span{{Lo: 2, Hi: 2}, {Lo: 5, Hi: 4}}, true, true},
		{[]api.Span{{Lo: -4, Hi: 5}, {Lo: 2, Hi: 2}}, false, false},
		{[]api.Span{{Lo: 2, Hi: 2}, {Lo: -3, Hi: 6}}, false, false},
		{[]api.Span{{Lo: least, Hi: greatest}}, false, false},
		{[]api.Span{{Lo: greatest, Hi: least}}, false, true},
	} {
		if got := limits.SpansWithin(-3, 5, c.spans...); got != c.within {
			t.Errorf("%d: SpansWithin = %v", i, got)
		}
		if got := limits.Turned(c.spans...); got != c.turned {
			t.Errorf("%d: Turned = %v", i, got)
		}
	}
}

func TestSpanFault(t *testing.T) {
	for i, c := range []struct {
		span api.Span
		e    api.Errno
	}{
		{api.Span{Lo: -3, Hi: 5}, api.OK},
		{api.Span{Lo: 2, Hi: 2}, api.OK},
		{api.Span{Lo: -4, Hi: 5}, api.ErrRange},
		{api.Span{Lo: -3, Hi: 6}, api.ErrRange},
		{api.Span{Lo: greatest, Hi: least}, api.ErrRange},
		{api.Span{Lo: 6, Hi: 5}, api.ErrRange},
		{api.Span{Lo: 5, Hi: -3}, api.ErrArg},
	} {
		if e := limits.SpanFault(-3, 5, c.span); e != c.e {
			t.Errorf("%d: SpanFault = %d", i, e)
		}
	}
}

func TestIndicesFault(t *testing.T) {
	for i, c := range []struct {
		list   []int
		things int
		e      api.Errno
	}{
		{nil, 0, api.OK},
		{[]int{0}, 0, api.ErrNone},
		{[]int{0, 1, 4}, 5, api.OK},
		{[]int{0, 1, 5}, 5, api.ErrNone},
		{[]int{-1}, 5, api.ErrNone},
		{[]int{least}, 5, api.ErrNone},
		{[]int{greatest}, 5, api.ErrNone},
		{[]int{2, 2}, 5, api.ErrArg},
		{[]int{2, 1, 5}, 5, api.ErrArg},
		{[]int{2, 5, 1}, 5, api.ErrNone},
		{[]int{2, -1}, 5, api.ErrNone},
	} {
		if e := limits.IndicesFault(c.list, c.things); e != c.e {
			t.Errorf("%d: IndicesFault = %d", i, e)
		}
	}
}
