package posts_test

import (
	"math"
	"slices"
	"strings"
	"testing"

	"spoor/api"
	"spoor/ints"
	"spoor/posts"
	"spoor/spans"
)

func span(i int) api.Span {
	return api.Span{Trace: 3, ID: 1 + i, Service: "svc", Host: "h", Start: 10, Dur: i, Note: strings.Repeat("n", i)}
}

func some(n int) []api.Span {
	l := []api.Span{}
	for i := range n {
		l = append(l, span(i))
	}
	return l
}

func same(a, b api.Batch) bool {
	return a.Host == b.Host && a.First == b.First && slices.Equal(a.Spans, b.Spans)
}

func TestAck(t *testing.T) {
	if s, e := posts.EncodeAck(api.Ack{Host: 2, First: 300, Next: 305}); s != "A\x02\x82\x2c\x05" || e != api.OK {
		t.Errorf("%q %v", s, e)
	}
	for _, a := range []api.Ack{{}, {Host: 3, First: 0, Next: api.MaxID}, {Host: 1, First: api.MaxID, Next: api.MaxID}, {Host: 2, First: 300, Next: 305}} {
		s, e := posts.EncodeAck(a)
		if back, f := posts.DecodeAck(s); back != a || e != api.OK || f != api.OK {
			t.Error(a, back, e, f)
		}
		if b, e := posts.DecodeBatch(s); !same(b, api.Batch{}) || e != api.ErrForm {
			t.Error(b, e)
		}
		for i := range s {
			if back, e := posts.DecodeAck(s[:i]); back != (api.Ack{}) || e != api.ErrForm {
				t.Error(a, "cut off", back, e)
			}
		}
	}
	for _, a := range []api.Ack{{Host: 2, First: 300, Next: 299}, {Host: 4, First: 300, Next: 305}, {Host: -1}, {First: -1, Next: 1}, {Next: api.MaxID + 1}, {First: math.MinInt, Next: math.MaxInt}, {First: math.MaxInt, Next: math.MaxInt}} {
		if s, e := posts.EncodeAck(a); s != "" || e != api.ErrArg {
			t.Errorf("%v: %q %v", a, s, e)
		}
	}
	big := ints.Put(math.MaxInt)
	for _, s := range []string{"", "A", "a\x00\x00\x00", "B\x00\x00\x00", "A\x04\x00\x00", "A\x00\x00\x00\x00", "A\x80\x00\x00\x00", "A\x00" + big + "\x01", "A\x00\x01" + big, "A\x00" + big + big, "A" + big + "\x00\x00",
		"A\x00" + ints.Put(api.MaxID) + "\x01", "A\x00\x01" + ints.Put(api.MaxID), "A\x00\x00" + ints.Put(api.MaxID+1)} {
		if a, e := posts.DecodeAck(s); a != (api.Ack{}) || e != api.ErrForm {
			t.Errorf("%q: %v %v", s, a, e)
		}
	}
}

func TestBatch(t *testing.T) {
	one, _ := spans.Encode(span(0))
	if s, e := posts.EncodeBatch(api.Batch{Host: 0, First: 7, Spans: some(1)}); s != "B\x00\x07\x01"+ints.PutText(one) || e != api.OK {
		t.Errorf("%q %v", s, e)
	}
	all := strings.Repeat("~", 12)
	widest := api.Span{Trace: api.MaxID, ID: api.MaxID, Parent: api.MaxID, Service: all, Host: all, Start: 1 << 30, Dur: 1 << 30, Note: strings.Repeat("n", 24)}
	for _, b := range []api.Batch{{Spans: some(1)}, {Host: 3, First: 300, Spans: some(8)}, {Host: 1, First: api.MaxID - 2, Spans: some(2)}, {Host: 1, First: api.MaxID - 8, Spans: slices.Repeat([]api.Span{widest}, 8)}} {
		s, e := posts.EncodeBatch(b)
		if back, f := posts.DecodeBatch(s); !same(back, b) || e != api.OK || f != api.OK || len(s) > 800 {
			t.Error(b, back, e, f, len(s))
		}
		if a, e := posts.DecodeAck(s); a != (api.Ack{}) || e != api.ErrForm {
			t.Error(a, e)
		}
		for i := range s {
			if back, e := posts.DecodeBatch(s[:i]); !same(back, api.Batch{}) || e != api.ErrForm {
				t.Error(b, "cut off", back, e)
			}
		}
	}
}

func TestWrongBatch(t *testing.T) {
	bad := span(0)
	bad.ID = 0
	for _, b := range []api.Batch{{}, {Spans: some(9)}, {Host: 4, Spans: some(1)}, {Host: -1, Spans: some(1)}, {First: -1, Spans: some(1)}, {First: api.MaxID - 1, Spans: some(2)}, {First: api.MaxID, Spans: some(1)}, {First: math.MaxInt, Spans: some(1)}, {Spans: []api.Span{span(1), bad}}} {
		if s, e := posts.EncodeBatch(b); s != "" || e != api.ErrArg {
			t.Errorf("%v: %q %v", b, s, e)
		}
	}
	one, _ := spans.Encode(span(0))
	x := ints.PutText(one)
	top := ints.Put(api.MaxID)
	for _, s := range []string{"", "B", "B\x00\x00\x00", "b\x00\x00\x01" + x, "B\x04\x00\x01" + x, "B\x00\x00\x02" + x, "B\x00\x00\x01" + x + x, "B\x00\x00\x01" + x + "\x00", "B\x00\x00\x09" + strings.Repeat(x, 9),
		"B\x00" + top + "\x01" + x, "B\x00" + ints.Put(math.MaxInt) + "\x01" + x, "B\x00\x00\x01" + ints.PutText(one+"\x00"), "B\x00\x00\x01\x00", "B\x00\x00" + ints.Put(math.MaxInt) + x, "B\x80\x00\x00\x01" + x} {
		if b, e := posts.DecodeBatch(s); !same(b, api.Batch{}) || e != api.ErrForm {
			t.Errorf("%q: %v %v", s, b, e)
		}
	}
	s, _ := posts.EncodeBatch(api.Batch{Host: 1, First: 5, Spans: some(2)})
	for i := range s {
		for c := range 256 {
			bent := s[:i] + string([]byte{byte(c)}) + s[i+1:]
			b, e := posts.DecodeBatch(bent)
			if back, f := posts.EncodeBatch(b); e == api.OK && (back != bent || f != api.OK) {
				t.Errorf("%q came back as %q, %v", bent, back, f)
			}
		}
	}
}
