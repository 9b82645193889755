package daemon_test

import (
	"math"
	"math/rand"
	"slices"
	"testing"

	"spoor/api"
	"spoor/cursors"
	"spoor/daemon"
	"spoor/disk"
	"spoor/hostlog"
	"spoor/posts"
)

func span(i int) api.Span {
	return api.Span{Trace: 1 + i, ID: 2, Service: "a", Host: "h", Start: i}
}

func at(next, gap int) api.Cursor { return api.Cursor{Next: next, Gap: gap} }

func ack(host, first, next int) string {
	s, _ := posts.EncodeAck(api.Ack{Host: host, First: first, Next: next})
	return s
}

func newDisk(t *testing.T, capacity int) *disk.Disk {
	t.Helper()
	d, e := disk.New(capacity)
	if e != api.OK {
		t.Fatal(e)
	}
	return d
}

func openLog(t *testing.T, d *disk.Disk) *hostlog.Log {
	t.Helper()
	l, e := hostlog.Open(d)
	if e != api.OK {
		t.Fatal(e)
	}
	return l
}

func open(t *testing.T, d *disk.Disk, l *hostlog.Log, host int) *daemon.Daemon {
	t.Helper()
	x, e := daemon.Open(d, l, host)
	if e != api.OK || x == nil {
		t.Fatal(e)
	}
	return x
}

func write(t *testing.T, l *hostlog.Log, n int) {
	t.Helper()
	for range n {
		if e := l.Append(span(l.End())); e != api.OK {
			t.Fatal(e)
		}
	}
}

// sends holds a step against the records from first on, up to next; none, if that is 0.
func sends(t *testing.T, x *daemon.Daemon, now, host, first, next int) {
	t.Helper()
	data, e := x.Step(now)
	if next == 0 {
		if data != "" || e != api.OK {
			t.Errorf("at %d: %q %v", now, data, e)
		}
		return
	}
	b, f := posts.DecodeBatch(data)
	want := []api.Span{}
	for i := first; i < next; i++ {
		want = append(want, span(i))
	}
	if e != api.OK || f != api.OK || b.Host != host || b.First != first || !slices.Equal(b.Spans, want) || !x.Waiting() {
		t.Errorf("at %d: %v %v %v", now, b, e, f)
	}
}

func takes(t *testing.T, x *daemon.Daemon, data string, want bool, told api.Errno) {
	t.Helper()
	if ok, e := x.Take(data); ok != want || e != told {
		t.Errorf("Take %q: %v %v", data, ok, e)
	}
}

func is(t *testing.T, x *daemon.Daemon, c api.Cursor, waiting bool) {
	t.Helper()
	if x.Cursor() != c || x.Waiting() != waiting {
		t.Errorf("%v %v, not %v %v", x.Cursor(), x.Waiting(), c, waiting)
	}
}

func TestExamples(t *testing.T) {
	d := newDisk(t, 10000)
	l := openLog(t, d)
	x := open(t, d, l, 0)
	is(t, x, at(0, 0), false)
	sends(t, x, 1, 0, 0, 0)
	write(t, l, 3)
	sends(t, x, 2, 0, 0, 0)
	l.Sync()
	write(t, l, 2)
	sends(t, x, 5, 0, 0, 3)
	sends(t, x, 7, 0, 0, 0)
	sends(t, x, 8, 0, 0, 3)
	sends(t, x, 10, 0, 0, 0)
	takes(t, x, ack(0, 0, 2), false, api.OK)
	is(t, x, at(0, 0), true)
	takes(t, x, ack(0, 0, 3), true, api.OK)
	is(t, x, at(3, 0), false)
	sends(t, x, 9, 0, 0, 0)
	if c, e := cursors.Load(d); c != at(3, 0) || e != api.OK {
		t.Error(c, e)
	}
	takes(t, x, ack(0, 0, 3), false, api.OK)
	l.Sync()
	sends(t, x, 9, 0, 3, 5)
	// One that is opened anew begins at the cursor that was kept.
	x = open(t, d, l, 2)
	is(t, x, at(3, 0), false)
	sends(t, x, 9, 2, 3, 5)
	takes(t, x, ack(0, 3, 5), false, api.OK)
	takes(t, x, ack(2, 4, 5), false, api.OK)
	takes(t, x, ack(2, 3, 6), false, api.OK)
	takes(t, x, ack(2, 3, 5), true, api.OK)

	d = newDisk(t, 10000)
	d.Append("l10", "")
	cursors.Save(d, at(3, 0))
	x = open(t, d, openLog(t, d), 1)
	sends(t, x, 0, 1, 0, 0)
	is(t, x, at(10, 7), false)
	if c, e := cursors.Load(d); c != at(10, 7) || e != api.OK {
		t.Error(c, e)
	}
}

func TestNone(t *testing.T) {
	for _, x := range []*daemon.Daemon{nil, {}} {
		data, e := x.Step(0)
		ok, f := x.Take("")
		if data != "" || ok || e != api.ErrNil || f != api.ErrNil {
			t.Error(data, e, ok, f)
		}
		is(t, x, at(0, 0), false)
	}
	d := newDisk(t, 1000)
	l := openLog(t, d)
	for _, host := range []int{-1, 4, math.MaxInt, math.MinInt} {
		if x, e := daemon.Open(d, l, host); x != nil || e != api.ErrArg {
			t.Error(host, e)
		}
	}
	if x, e := daemon.Open(d, nil, 0); x != nil || e != api.ErrArg {
		t.Error(e)
	}
	if x, e := daemon.Open(nil, l, 0); x != nil || e != api.ErrNil {
		t.Error(e)
	}
	d.Append("cursor", "junk")
	if x, e := daemon.Open(d, l, 0); x != nil || e != api.ErrBroke {
		t.Error(e)
	}
	d.Crash(nil)
	if x, e := daemon.Open(d, l, 3); x != nil || e != api.ErrDown {
		t.Error(e)
	}
}

func TestErrors(t *testing.T) {
	d := newDisk(t, 2000)
	l := openLog(t, d)
	x := open(t, d, l, 0)
	write(t, l, 2)
	l.Sync()
	sends(t, x, 0, 0, 0, 2)
	takes(t, x, "", false, api.ErrForm)
	takes(t, x, "B", false, api.ErrForm)
	is(t, x, at(0, 0), true)
	// A cursor that can't be kept: the batch stays under way.
	room := d.Size()
	d.Append("x", string(make([]byte, 2000-room)))
	takes(t, x, ack(0, 0, 2), false, api.ErrFull)
	is(t, x, at(0, 0), true)
	sends(t, x, 3, 0, 0, 2)
	d.Remove("x")
	takes(t, x, ack(0, 0, 2), true, api.OK)
	// Nor is one passed over.
	for range 2 {
		write(t, l, 1)
		l.Rotate()
	}
	l.Retain(1)
	d.Append("x", string(make([]byte, 2000-d.Size())))
	if data, e := x.Step(9); data != "" || e != api.ErrFull {
		t.Error(data, e)
	}
	is(t, x, at(2, 0), false)
	d.Crash(nil)
	if data, e := x.Step(9); data != "" || e != api.ErrDown {
		t.Error(data, e)
	}
	takes(t, x, "", false, api.ErrDown)
}

func TestBatches(t *testing.T) {
	d := newDisk(t, 100000)
	l := openLog(t, d)
	x := open(t, d, l, 3)
	write(t, l, 21)
	l.Sync()
	sends(t, x, 0, 3, 0, 8)
	takes(t, x, ack(3, 0, 8), true, api.OK)
	sends(t, x, 0, 3, 8, 16)
	takes(t, x, ack(3, 8, 16), true, api.OK)
	// A batch under way is sent again, though its records are thrown away, and there are more.
	sends(t, x, 0, 3, 16, 21)
	write(t, l, 3)
	l.Rotate()
	l.Retain(1)
	sends(t, x, 3, 3, 16, 21)
	takes(t, x, ack(3, 16, 24), false, api.OK)
	takes(t, x, ack(3, 16, 21), true, api.OK)
	sends(t, x, 4, 0, 0, 0)
	is(t, x, at(24, 3), false)
}

func TestTicks(t *testing.T) {
	d := newDisk(t, 10000)
	l := openLog(t, d)
	write(t, l, 1)
	l.Sync()
	for _, s := range []struct{ sent, now, next int }{{5, 7, 0}, {5, 8, 1}, {5, 4, 0}, {5, -1, 0}, {5, math.MaxInt, 1}, {-1, 1, 0}, {-1, 2, 1}} {
		x := open(t, d, l, 0)
		sends(t, x, s.sent, 0, 0, 1)
		sends(t, x, s.now, 0, 0, s.next)
	}
}

// Next and Gap never fall; what is below Next was answered, or is counted in Gap.
func TestCrashes(t *testing.T) {
	for seed := range int64(150) {
		r := rand.New(rand.NewSource(seed))
		d := newDisk(t, 20000)
		l := openLog(t, d)
		x := open(t, d, l, 1)
		answered := map[int]bool{}
		last := at(0, 0)
		for now := range 400 {
			if !d.Up() {
				d.Start()
				l = openLog(t, d)
				x = open(t, d, l, 1)
			}
			switch r.Intn(8) {
			case 0:
				d.Fail(r.Intn(12), []int{r.Intn(20), r.Intn(20), r.Intn(100)})
			case 1:
				l.Sync()
			case 2:
				l.Retain(1 + r.Intn(3))
			case 3, 4:
				l.Append(span(l.End()))
			default:
				data, e := x.Step(now)
				if data == "" || e != api.OK {
					break
				}
				b, _ := posts.DecodeBatch(data)
				for i := range b.Spans {
					if b.Spans[i] != span(b.First+i) {
						t.Fatal(seed, b)
					}
					answered[b.First+i] = true
				}
				x.Take(ack(1, b.First, b.First+len(b.Spans)))
			}
			c := x.Cursor()
			if c.Next < last.Next || c.Gap < last.Gap {
				t.Fatal(seed, c, last)
			}
			last = c
			missing := 0
			for i := range c.Next {
				if !answered[i] {
					missing++
				}
			}
			if missing > c.Gap {
				t.Fatal(seed, c, missing)
			}
		}
	}
}
