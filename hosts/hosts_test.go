package hosts_test

import (
	"math"
	"math/rand"
	"slices"
	"strings"
	"testing"

	"spoor/api"
	"spoor/hosts"
	"spoor/posts"
)

func span(i int) api.Span {
	return api.Span{Trace: 1 + i, ID: 2, Service: "a", Host: "h", Start: i}
}

func newHost(t *testing.T, id, capacity int) *hosts.Host {
	t.Helper()
	h, e := hosts.New(id, capacity)
	if e != api.OK || !h.Up() || h.Now() != 0 || h.Refused() != 0 {
		t.Fatal(e)
	}
	return h
}

func told(t *testing.T, want []api.Errno, got ...api.Errno) {
	t.Helper()
	if !slices.Equal(got, want) {
		t.Errorf("%v, not %v", got, want)
	}
}

func ok(t *testing.T, got ...api.Errno) {
	t.Helper()
	told(t, slices.Repeat([]api.Errno{api.OK}, len(got)), got...)
}

func mail(host, to, first, next int) api.Mail {
	s, _ := posts.EncodeAck(api.Ack{Host: host, First: first, Next: next})
	return api.Mail{From: api.Repo, To: to, Data: s}
}

// sends holds a step against the records from first on, up to next; none, if that is 0.
func sends(t *testing.T, h *hosts.Host, id, first, next int) {
	t.Helper()
	l, e := h.Step()
	if e != api.OK || (len(l) == 1) != (next > 0) || len(l) > 1 {
		t.Errorf("%v %v", l, e)
		return
	}
	if next == 0 {
		return
	}
	b, e := posts.DecodeBatch(l[0].Data)
	if l[0].From != id || l[0].To != api.Repo || e != api.OK || b.Host != id || b.First != first || len(b.Spans) != next-first || b.Spans[0] != span(first) {
		t.Errorf("%v %v %v", l, b, e)
	}
}

func is(t *testing.T, h *hosts.Host, next, gap, first, sure, end int, waiting bool) {
	t.Helper()
	a, b, c := h.Log()
	if h.Cursor() != (api.Cursor{Next: next, Gap: gap}) || a != first || b != sure || c != end || h.Waiting() != waiting {
		t.Errorf("%v %d %d %d %v", h.Cursor(), a, b, c, h.Waiting())
	}
}

func TestExamples(t *testing.T) {
	h := newHost(t, 0, 10000)
	is(t, h, 0, 0, 0, 0, 0, false)
	ok(t, h.Write(span(0)))
	sends(t, h, 0, 0, 0)
	is(t, h, 0, 0, 0, 0, 1, false)
	ok(t, h.Sync())
	sends(t, h, 0, 0, 1)
	is(t, h, 0, 0, 0, 1, 1, true)
	ok(t, h.Take(mail(0, 0, 0, 1)))
	is(t, h, 1, 0, 0, 1, 1, false)
	ok(t, h.Crash(nil))
	is(t, h, 0, 0, 0, 0, 0, false)
	told(t, []api.Errno{api.ErrNode, 0}, h.Write(span(1)), h.Restart())
	is(t, h, 1, 0, 0, 1, 1, false)
	told(t, []api.Errno{api.ErrNode}, h.Restart())
}

func TestNone(t *testing.T) {
	for _, h := range []*hosts.Host{nil, {}} {
		l, e := h.Step()
		told(t, slices.Repeat([]api.Errno{api.ErrNil}, 10), h.Tick(), h.Write(api.Span{}), h.Sync(), h.Rotate(), h.Retain(0), e, h.Take(api.Mail{}), h.Crash(nil), h.Fail(-1, nil), h.Restart())
		if is(t, h, 0, 0, 0, 0, 0, false); h.Up() || h.Now() != 0 || h.Refused() != 0 || len(l) != 0 {
			t.Error("none tells something")
		}
	}
	for _, x := range [][2]int{{-1, 100}, {4, 100}, {math.MaxInt, 0}, {0, 0}, {0, 1<<20 + 1}, {-1, 0}} {
		if h, e := hosts.New(x[0], x[1]); h != nil || e != api.ErrArg {
			t.Error(x, e)
		}
	}
	newHost(t, 3, 1)
}

func TestDown(t *testing.T) {
	h := newHost(t, 2, 10000)
	ok(t, h.Write(span(0)), h.Tick(), h.Crash([]int{999}))
	l, e := h.Step()
	told(t, slices.Repeat([]api.Errno{api.ErrNode}, 8), h.Write(api.Span{}), h.Sync(), h.Rotate(), h.Retain(0), e, h.Take(api.Mail{}), h.Crash(nil), h.Fail(-1, nil))
	if is(t, h, 0, 0, 0, 0, 0, false); h.Up() || len(l) != 0 || h.Now() != 1 || h.Refused() != 0 {
		t.Error("down it tells something")
	}
	ok(t, h.Tick(), h.Restart(), h.Tick())
	if is(t, h, 0, 0, 0, 1, 1, false); h.Now() != 3 || !h.Up() {
		t.Error(h.Now(), h.Up())
	}
}

func TestErrors(t *testing.T) {
	h := newHost(t, 1, 50)
	ok(t, h.Write(span(0)), h.Write(span(1)))
	told(t, []api.Errno{api.ErrArg, api.ErrFull, api.ErrArg, api.ErrArg, api.ErrArg, api.ErrForm, 0}, h.Write(api.Span{}), h.Write(span(2)), h.Retain(0), h.Fail(-1, nil), h.Take(mail(1, 0, 0, 1)), h.Take(api.Mail{To: 1, Data: "x"}), h.Take(mail(1, 1, 0, 1)))
	if is(t, h, 0, 0, 0, 0, 2, false); h.Refused() != 2 || !h.Up() {
		t.Error(h.Refused())
	}
	ok(t, h.Sync(), h.Rotate(), h.Retain(1))
	is(t, h, 0, 0, 2, 2, 2, false)
	sends(t, h, 1, 0, 0)
	is(t, h, 2, 2, 2, 2, 2, false)
}

func TestClock(t *testing.T) {
	h := newHost(t, 0, 10000)
	ok(t, h.Write(span(0)), h.Sync())
	sends(t, h, 0, 0, 1)
	for _, next := range []int{0, 0, 1, 0} {
		ok(t, h.Tick())
		sends(t, h, 0, 0, next)
	}
	if h.Now() != 4 {
		t.Error(h.Now())
	}
}

func TestLastTick(t *testing.T) {
	h := newHost(t, 0, 100)
	for range api.MaxClock {
		if e := h.Tick(); e != api.OK {
			t.Fatal(h.Now(), e)
		}
	}
	told(t, []api.Errno{api.ErrLong, 0, api.ErrLong}, h.Tick(), h.Crash(nil), h.Tick())
	if h.Now() != api.MaxClock {
		t.Error(h.Now())
	}
}

// Whatever the disk fails in is answered with its error, and then it is down.
func TestFail(t *testing.T) {
	for name, act := range map[string]func(h *hosts.Host) api.Errno{
		"write":  func(h *hosts.Host) api.Errno { return h.Write(span(2)) },
		"sync":   func(h *hosts.Host) api.Errno { return h.Sync() },
		"rotate": func(h *hosts.Host) api.Errno { return h.Rotate() },
		"take":   func(h *hosts.Host) api.Errno { return h.Take(mail(0, 0, 0, 1)) },
	} {
		h := newHost(t, 0, 10000)
		ok(t, h.Write(span(0)), h.Sync())
		sends(t, h, 0, 0, 1)
		ok(t, h.Write(span(1)), h.Fail(0, []int{0, 0, 0}))
		told(t, []api.Errno{api.ErrDown, api.ErrNode}, act(h), h.Sync())
		if h.Up() || h.Refused() != strings.Count(name, "write") {
			t.Error(name, h.Up(), h.Refused())
		}
		ok(t, h.Restart())
		is(t, h, 0, 0, 0, 1, 1, false)
	}
	h := newHost(t, 0, 10000)
	ok(t, h.Write(span(0)), h.Rotate(), h.Write(span(1)), h.Sync(), h.Fail(0, nil))
	told(t, []api.Errno{api.ErrDown, api.ErrNode}, h.Retain(1), h.Retain(1))
	ok(t, h.Restart(), h.Retain(1), h.Fail(0, nil))
	l, e := h.Step() // the cursor is kept, since records were passed over
	if told(t, []api.Errno{api.ErrDown}, e); len(l) != 0 || h.Up() {
		t.Error(l)
	}
}

// Wherever it crashes, a restart tells no error; what was sure is there, and the cursor is one that was kept, or was being kept.
func TestCrashes(t *testing.T) {
	for seed := range int64(200) {
		r := rand.New(rand.NewSource(seed))
		h := newHost(t, 0, 50000)
		sure, cursor, maybe := 0, api.Cursor{}, api.Cursor{}
		for range 300 {
			if !h.Up() {
				ok(t, h.Restart())
				_, s, end := h.Log()
				if s < sure || s != end || h.Cursor() != cursor && h.Cursor() != maybe {
					t.Fatal(seed, s, sure, end, h.Cursor(), cursor, maybe)
				}
				cursor = h.Cursor()
			}
			_, _, end := h.Log()
			maybe = cursor
			switch r.Intn(9) {
			case 0:
				h.Fail(r.Intn(10), []int{r.Intn(40), r.Intn(40), r.Intn(90)})
			case 1:
				h.Sync()
			case 2:
				h.Rotate()
			case 3:
				l, _ := h.Step()
				if len(l) == 1 {
					b, _ := posts.DecodeBatch(l[0].Data)
					maybe.Next = b.First + len(b.Spans)
					h.Take(mail(0, 0, b.First, maybe.Next))
				}
			case 4:
				h.Tick()
			default:
				h.Write(span(end))
			}
			if h.Up() {
				cursor = h.Cursor()
				_, sure, _ = h.Log()
			}
		}
	}
}
