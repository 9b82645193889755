package keys_test

import (
	"cmp"
	"math"
	"slices"
	"strings"
	"testing"

	"spoor/api"
	"spoor/ints"
	"spoor/keys"
)

const five = "\x00\x00\x00\x00\x00\x00\x00\x05"

func span(trace, id, start int, service, host string) api.Span {
	return api.Span{Trace: trace, ID: id, Start: start, Service: service, Host: host}
}

func of(t *testing.T, trace, id int) string {
	t.Helper()
	k, e := keys.Of(trace, id)
	if e != api.OK {
		t.Fatal(trace, id, e)
	}
	return k
}

func index(t *testing.T, s api.Span) string {
	t.Helper()
	k, e := keys.Index(s)
	if e != api.OK {
		t.Fatal(s, e)
	}
	return k
}

func TestExamples(t *testing.T) {
	k := of(t, 5, 258)
	if k != "s"+five+"\x00\x00\x00\x00\x00\x00\x01\x02" {
		t.Errorf("%q", k)
	}
	if from, to := keys.Trace(5); from != "s"+five || to != "s\x00\x00\x00\x00\x00\x00\x00\x06" {
		t.Errorf("%q %q", from, to)
	}
	if x := index(t, span(5, 1, 5, "a", "h")); x != "xa\x00h\x00"+five+five+"\x00\x00\x00\x00\x00\x00\x00\x01" {
		t.Errorf("%q", x)
	}
	if a, b := keys.Stretch("a", "h", -3, 4); a != "xa\x00h\x00\x00\x00\x00\x00\x00\x00\x00\x00" || b != "xa\x00h\x00"+five {
		t.Errorf("%q %q", a, b)
	}
	if keys.Row(k) != "s"+five || keys.Row("abc") != "" {
		t.Errorf("%q %q", keys.Row(k), keys.Row("abc"))
	}
}

func TestWrong(t *testing.T) {
	for _, n := range []int{0, -1, api.MaxID + 1, math.MaxInt, math.MinInt} {
		if k, e := keys.Of(n, 1); k != "" || e != api.ErrArg {
			t.Error(n, k, e)
		}
		if k, e := keys.Of(1, n); k != "" || e != api.ErrArg {
			t.Error(n, k, e)
		}
		if a, b := keys.Trace(n); a != "" || b != "" {
			t.Error(n, a, b)
		}
	}
	for _, s := range []api.Span{{}, span(0, 1, 1, "a", "h"), span(1, 1, -1, "a", "h"), span(1, 1, 1, "", "h"), span(1, 1, 1, "a", "h h")} {
		if k, e := keys.Index(s); k != "" || e != api.ErrArg {
			t.Error(s, k, e)
		}
	}
	long := span(1, 1, 1, "a", "h")
	long.Note = strings.Repeat("n", 25)
	if k, e := keys.Index(long); k != "" || e != api.ErrArg {
		t.Error(k, e)
	}
	for _, x := range []struct {
		service, host string
		from, to      int
	}{{"", "h", 0, 9}, {"a", "", 0, 9}, {"a\x00", "h", 0, 9}, {"a", strings.Repeat("h", 13), 0, 9}, {"a", "h", 5, 4}, {"a", "h", -9, -1}, {"a", "h", api.MaxClock + 1, math.MaxInt}, {"a", "h", math.MaxInt, math.MinInt}} {
		if a, b := keys.Stretch(x.service, x.host, x.from, x.to); a != "" || b != "" {
			t.Errorf("%v: %q %q", x, a, b)
		}
	}
}

func TestStretchEdges(t *testing.T) {
	top := "xa\x00h\x00" + ints.Big(api.MaxClock+1)
	for _, to := range []int{api.MaxClock, api.MaxClock + 1, math.MaxInt} {
		if a, b := keys.Stretch("a", "h", math.MinInt, to); a != "xa\x00h\x00"+ints.Big(0) || b != top {
			t.Errorf("up to %d: %q %q", to, a, b)
		}
	}
	if a, b := keys.Stretch("a", "h", 7, 7); a != "xa\x00h\x00"+ints.Big(7) || b != "xa\x00h\x00"+ints.Big(8) {
		t.Errorf("%q %q", a, b)
	}
	if from, to := keys.Trace(api.MaxID); from != "s"+ints.Big(api.MaxID) || to != "s"+ints.Big(api.MaxID+1) {
		t.Errorf("%q %q", from, to)
	}
}

func TestParse(t *testing.T) {
	for _, n := range []int{1, 5, 255, 256, api.MaxID} {
		k := of(t, n, api.MaxID)
		if p, ok := keys.Parse(k); !ok || p != (keys.Parts{Kind: 's', Trace: n, ID: api.MaxID}) {
			t.Errorf("%q: %+v %v", k, p, ok)
		}
		if keys.Row(k) != k[:9] {
			t.Errorf("row of %q: %q", k, keys.Row(k))
		}
		s := span(n, 3, api.MaxClock, "!", strings.Repeat("~", 12))
		x := index(t, s)
		if p, ok := keys.Parse(x); !ok || p != (keys.Parts{Kind: 'x', Trace: n, ID: 3, Start: api.MaxClock, Service: s.Service, Host: s.Host}) {
			t.Errorf("%q: %+v %v", x, p, ok)
		}
		if keys.Row(x) != x {
			t.Errorf("row of %q: %q", x, keys.Row(x))
		}
	}
	zero, one, twoTo63 := ints.Big(0), ints.Big(1), "\x80\x00\x00\x00\x00\x00\x00\x00"
	bad := []string{"", "s", "x", "abc", "s" + one + zero, "s" + zero + one, "s" + one + ints.Big(api.MaxID+1), "s" + one + twoTo63, "s" + twoTo63 + one, "t" + one + one,
		"s" + one + one + "\x00", "xa\x00h\x00" + one + one + one + "\x01", "xa\x00h\x00" + one + zero + one, "xa\x00h\x00" + one + one + zero, "xa\x00h\x00" + ints.Big(api.MaxClock+1) + one + one, "xa\x00h\x00" + twoTo63 + one + one,
		"x\x00h\x00" + one + one + one, "xa\x00\x00" + one + one + one, "xa b\x00h\x00" + one + one + one, "xa\x00" + strings.Repeat("h", 13) + "\x00" + one + one + one, "xah", "xa\x00h", "ya\x00h\x00" + one + one + one}
	for _, whole := range []string{of(t, 1, 1), index(t, span(1, 1, 1, "a", "h"))} {
		for i := range whole {
			bad = append(bad, whole[:i])
		}
	}
	for _, k := range bad {
		if p, ok := keys.Parse(k); ok || p != (keys.Parts{}) || keys.Row(k) != "" {
			t.Errorf("%q: %+v %v, row %q", k, p, ok, keys.Row(k))
		}
	}
}

// Keys stand in the order of what they are of, and in their stretches alone.
func TestOrder(t *testing.T) {
	names := []string{"!", "a", "a!", "ab", "b", strings.Repeat("~", 12)}
	numbers := []int{1, 2, 255, 256, 65536, api.MaxID}
	starts := []int{0, 1, 127, 128, 256, api.MaxClock}
	list := []api.Span{}
	for _, s := range names {
		for _, h := range names {
			for _, n := range starts {
				list = append(list, span(numbers[(n+len(s))%6], 2, n, s, h), span(1, 1, n, s, h), span(1, 2, n, s, h))
			}
		}
	}
	slices.SortFunc(list, func(a, b api.Span) int {
		return cmp.Or(cmp.Compare(a.Service, b.Service), cmp.Compare(a.Host, b.Host), cmp.Compare(a.Start, b.Start), cmp.Compare(a.Trace, b.Trace), cmp.Compare(a.ID, b.ID))
	})
	list = slices.Compact(list)
	last := of(t, api.MaxID, api.MaxID)
	for _, s := range list {
		k := index(t, s)
		if k <= last || len(k) > 51 {
			t.Fatalf("%q behind %q", k, last)
		}
		last = k
		a, b := keys.Stretch("a", "a!", 1, 128)
		if in, want := a <= k && k < b, s.Service == "a" && s.Host == "a!" && s.Start >= 1 && s.Start <= 128; in != want {
			t.Fatalf("%v: %v", s, in)
		}
	}
	last = ""
	for _, trace := range numbers {
		for _, id := range numbers {
			k := of(t, trace, id)
			if k <= last {
				t.Fatalf("%q behind %q", k, last)
			}
			last = k
			for _, other := range numbers {
				if from, to := keys.Trace(other); (from <= k && k < to) != (other == trace) {
					t.Fatalf("%d %d in the stretch of %d", trace, id, other)
				}
			}
		}
	}
}
