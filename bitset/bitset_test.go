package bitset_test

import (
	"slices"
	"testing"

	"orlop/bitset"
)

func TestSets(t *testing.T) {
	for i, c := range []struct {
		indices, list []int
		want          bitset.Set
	}{
		{nil, nil, 0},
		{[]int{0}, []int{0}, 1},
		{[]int{15}, []int{15}, 1 << 15},
		{[]int{3, 1, 3, 0}, []int{0, 1, 3}, 11},
		{[]int{0, 1, 2, 3, 4, 5, 6, 7, 8, 9, 10, 11, 12, 13, 14, 15}, []int{0, 1, 2, 3, 4, 5, 6, 7, 8, 9, 10, 11, 12, 13, 14, 15}, 65535},
	} {
		s := bitset.Of(c.indices...)
		if s != c.want || !slices.Equal(s.List(), c.list) || s.Count() != len(c.list) {
			t.Errorf("%d: Of = %d with %v, so many: %d", i, s, s.List(), s.Count())
		}
		for n := range 16 {
			if s.Has(n) != slices.Contains(c.list, n) {
				t.Errorf("%d: Has of %d = %v", i, n, s.Has(n))
			}
			if less := s.Without(n); less.Has(n) || less|bitset.Of(n) != s|bitset.Of(n) {
				t.Errorf("%d: Without %d = %v", i, n, less.List())
			}
		}
	}
}

func TestBelow(t *testing.T) {
	for n := range 17 {
		s := bitset.Below(n)
		if s.Count() != n || n > 0 && !s.Has(n-1) || n < 16 && s.Has(n) {
			t.Errorf("Below %d = %v", n, s.List())
		}
	}
}

func TestAllEnds(t *testing.T) {
	var met []int
	for i := range bitset.Of(2, 5, 9).All() {
		met = append(met, i)
		if i == 5 {
			break
		}
	}
	if !slices.Equal(met, []int{2, 5}) {
		t.Errorf("All yields %v up to 5", met)
	}
}

func TestLists(t *testing.T) {
	for n := range 17 {
		var all []bitset.Set
		for s := range bitset.Lists(n) {
			if s&^bitset.Below(n) != 0 {
				t.Errorf("Lists of %d yields %v", n, s.List())
			}
			all = append(all, s)
		}
		if len(all) != 1<<n {
			t.Errorf("Lists of %d yields %d sets", n, len(all))
		}
		for i := 1; i < len(all); i++ {
			a, b := all[i-1], all[i]
			if a.Count() > b.Count() || a.Count() == b.Count() && slices.Compare(a.List(), b.List()) >= 0 {
				t.Errorf("Lists of %d yields %v before %v", n, a.List(), b.List())
			}
		}
	}
}

func TestListsEnds(t *testing.T) {
	for _, last := range []bitset.Set{0, bitset.Of(2), bitset.Of(0, 3), bitset.Of(1, 2), bitset.Below(4)} {
		var met []bitset.Set
		for s := range bitset.Lists(4) {
			met = append(met, s)
			if s == last {
				break
			}
		}
		if at := slices.Index(met, last); at < 0 || at != len(met)-1 {
			t.Errorf("Lists yields %v up to %v", met, last.List())
		}
	}
}
