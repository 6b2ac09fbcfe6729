package names_test

import (
	"strings"
	"testing"

	"orlop/api"
	"orlop/names"
)

func TestFault(t *testing.T) {
	own := func(s string) string { return s }
	for i, c := range []struct {
		list []string
		e    api.Errno // of the last one
	}{
		{[]string{"a"}, api.OK},
		{[]string{"a", "b", "c1"}, api.OK},
		{[]string{"a", ""}, api.ErrForm},
		{[]string{"", ""}, api.ErrForm},
		{[]string{"a", "A"}, api.ErrForm},
		{[]string{"a", "\xff"}, api.ErrForm},
		{[]string{"a", strings.Repeat("a", 16)}, api.OK},
		{[]string{"a", strings.Repeat("a", 17)}, api.ErrForm},
		{[]string{"a", "b", "a"}, api.ErrTwice},
		{[]string{"b", "a", "a"}, api.ErrTwice},
	} {
		if e := names.Fault(c.list, len(c.list)-1, own); e != c.e {
			t.Errorf("%d: Fault = %d", i, e)
		}
	}
	if e := names.Fault([]string{"a", "b", "a"}, 0, own); e != api.OK {
		t.Errorf("one behind it has the same name: Fault = %d", e)
	}
}
