package spans_test

import (
	"math"
	"strings"
	"testing"

	"spoor/api"
	"spoor/spans"
)

var sample = api.Span{Trace: 300, ID: 2, Parent: 1, Service: "api", Host: "h1", Start: 5, Dur: 0, Note: "ok"}

const sampleBytes = "\x82\x2c\x02\x01\x05\x00\x03api\x02h1\x02ok"

// with is the sample with a change.
func with(change func(s *api.Span)) api.Span {
	s := sample
	change(&s)
	return s
}

// good are spans that may be, at the edges of all limits.
func good() []api.Span {
	all := strings.Repeat("~", 12)
	return []api.Span{
		sample,
		with(func(s *api.Span) { s.Note = "" }),
		with(func(s *api.Span) { s.Note = strings.Repeat("\x00", 24) }),
		with(func(s *api.Span) { s.Note = "\xff \n-" }),
		with(func(s *api.Span) { s.Service, s.Host = "!", "~" }),
		with(func(s *api.Span) { s.Service, s.Host = all, all }),
		with(func(s *api.Span) { s.Trace, s.ID, s.Parent = 1, 1, 0 }),
		with(func(s *api.Span) { s.Parent = s.ID }),
		with(func(s *api.Span) { s.Start, s.Dur = 1<<30, 1<<30 }),
		with(func(s *api.Span) { s.Start, s.Dur = 0, 0 }),
		{Trace: api.MaxID, ID: api.MaxID, Parent: api.MaxID, Service: all, Host: all, Start: 1 << 30, Dur: 1 << 30, Note: strings.Repeat("\xff", 24)},
	}
}

// bad are spans that may not be: each for one reason.
func bad() []api.Span {
	l := []api.Span{{}}
	for _, n := range []int{0, -1, api.MaxID + 1, math.MaxInt, math.MinInt} {
		l = append(l, with(func(s *api.Span) { s.Trace = n }), with(func(s *api.Span) { s.ID = n }))
		if n != 0 {
			l = append(l, with(func(s *api.Span) { s.Parent = n }))
		}
	}
	for _, n := range []int{-1, 1<<30 + 1, math.MaxInt, math.MinInt} {
		l = append(l, with(func(s *api.Span) { s.Start = n }), with(func(s *api.Span) { s.Dur = n }))
	}
	for _, n := range []string{"", strings.Repeat("a", 13), "a b", "\x20", "\x7f", "a\x80", "\x00", "é"} {
		l = append(l, with(func(s *api.Span) { s.Service = n }), with(func(s *api.Span) { s.Host = n }))
	}
	return append(l, with(func(s *api.Span) { s.Note = strings.Repeat("n", 25) }))
}

func TestName(t *testing.T) {
	for s, want := range map[string]bool{"a": true, "!": true, "~": true, "abcdefghijkl": true, "abcdefghijklm": false, "": false, " ": false, "\x7f": false, "a\n": false, "\xffa": false} {
		if got := spans.Name(s); got != want {
			t.Errorf("%q: %v", s, got)
		}
	}
}

func TestGood(t *testing.T) {
	if s, e := spans.Encode(sample); s != sampleBytes || e != api.OK {
		t.Errorf("%q %v", s, e)
	}
	seen := []string{}
	for _, x := range good() {
		s, e := spans.Encode(x)
		if e != api.OK || spans.Check(x) != api.OK || len(s) > 90 {
			t.Errorf("%+v: %v, %d bytes", x, e, len(s))
		}
		if y, e := spans.Decode(s); y != x || e != api.OK {
			t.Errorf("%+v came back as %+v, %v", x, y, e)
		}
		for _, o := range seen {
			if strings.HasPrefix(o, s) || strings.HasPrefix(s, o) {
				t.Errorf("%q and %q", o, s)
			}
		}
		seen = append(seen, s)
	}
}

func TestBad(t *testing.T) {
	for _, x := range bad() {
		if e := spans.Check(x); e != api.ErrArg {
			t.Errorf("Check of %+v: %v", x, e)
		}
		if s, e := spans.Encode(x); s != "" || e != api.ErrArg {
			t.Errorf("Encode of %+v: %q %v", x, s, e)
		}
	}
}

func TestDecode(t *testing.T) {
	l := []string{"", sampleBytes + "\x00", "x" + sampleBytes,
		"\x80" + sampleBytes, // a 0 ahead
		"\x00\x02\x01\x05\x00\x03api\x02h1\x02ok",
		"\x82\x2c\x00\x01\x05\x00\x03api\x02h1\x02ok",
		"\x88\x80\x80\x80\x00\x02\x01\x05\x00\x03api\x02h1\x02ok", // 2^31
		"\x82\x2c\x02\x01\x84\x80\x80\x80\x01\x00\x03api\x02h1\x02ok",
		"\x82\x2c\x02\x01\x05\x00\x03a i\x02h1\x02ok",
		"\x82\x2c\x02\x01\x05\x00\x00\x02h1\x02ok",
		"\x82\x2c\x02\x01\x05\x00\x03api\x0dhhhhhhhhhhhhh\x02ok",
		"\x82\x2c\x02\x01\x05\x00\x03api\x02h1\x19" + strings.Repeat("n", 25),
	}
	for i := range sampleBytes {
		l = append(l, sampleBytes[:i])
	}
	for _, s := range l {
		if x, e := spans.Decode(s); x != (api.Span{}) || e != api.ErrForm {
			t.Errorf("%q: %+v %v", s, x, e)
		}
	}
	// What is decoded is encoded: with any byte another one, too.
	for i := range sampleBytes {
		for c := range 256 {
			s := sampleBytes[:i] + string([]byte{byte(c)}) + sampleBytes[i+1:]
			if x, e := spans.Decode(s); e == api.OK {
				if back, e := spans.Encode(x); back != s || e != api.OK {
					t.Errorf("%q came back as %q, %v", s, back, e)
				}
			}
		}
	}
}

func TestLess(t *testing.T) {
	ns := []int{math.MinInt, -1, 0, 1, 2, 3, math.MaxInt}
	for _, at := range ns {
		for _, ai := range ns {
			for _, bt := range ns {
				for _, bi := range ns {
					a, b := api.Span{Trace: at, ID: ai, Start: 3, Note: "z"}, api.Span{Trace: bt, ID: bi, Parent: 5, Service: "a"}
					if want := at < bt || at == bt && ai < bi; spans.Less(a, b) != want {
						t.Errorf("%d %d and %d %d", at, ai, bt, bi)
					}
				}
			}
		}
	}
	if !spans.Less(sample, with(func(s *api.Span) { s.ID = 3 })) || spans.Less(sample, with(func(s *api.Span) { s.Trace = 299 })) {
		t.Error("the examples")
	}
}
