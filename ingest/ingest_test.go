package ingest_test

import (
	"math"
	"slices"
	"testing"

	"spoor/api"
	"spoor/disk"
	"spoor/ingest"
	"spoor/rows"
	"spoor/store"
)

func span(id int) api.Span {
	return api.Span{Trace: 3, ID: id, Start: 10 + id, Service: "a", Host: "h"}
}

func some(n int) []api.Span {
	l := []api.Span{}
	for i := range n {
		l = append(l, span(i+1))
	}
	return l
}

func open(t *testing.T, d *disk.Disk) *store.Store {
	t.Helper()
	s, e := store.Open(d)
	if e != api.OK {
		t.Fatal(e)
	}
	return s
}

func newDisk(t *testing.T, capacity int) *disk.Disk {
	t.Helper()
	d, e := disk.New(capacity)
	if e != api.OK {
		t.Fatal(e)
	}
	return d
}

func takes(t *testing.T, s *store.Store, b api.Batch, now int, ack api.Ack, n int, want api.Errno) {
	t.Helper()
	if a, m, e := ingest.Take(s, b, now); a != ack || m != n || e != want {
		t.Errorf("%v at %d: %v %d %v", b, now, a, m, e)
	}
}

// has holds the store's spans, that a range of all keys tells, against what should be; and the index, too.
func has(t *testing.T, s *store.Store, want ...api.Span) {
	t.Helper()
	l, _ := s.Range("", "")
	cells := []api.Cell{}
	for _, x := range want {
		both, _ := rows.Cells(x)
		cells = append(cells, both...)
	}
	keys := func(l []api.Cell) []string {
		k := []string{}
		for _, c := range l {
			k = append(k, c.Key+"="+c.Value)
		}
		slices.Sort(k)
		return k
	}
	if !slices.Equal(keys(l), keys(cells)) {
		t.Errorf("%v, not %v", l, want)
	}
}

func TestExamples(t *testing.T) {
	s := open(t, newDisk(t, 100000))
	b := api.Batch{First: 5, Spans: some(2)}
	takes(t, s, b, 20, api.Ack{First: 5, Next: 7}, 2, api.OK)
	has(t, s, some(2)...)
	takes(t, s, b, 20, api.Ack{First: 5, Next: 7}, 0, api.OK)
	has(t, s, some(2)...)
	takes(t, s, api.Batch{}, 20, api.Ack{}, 0, api.ErrLong)
	takes(t, s, api.Batch{Host: 4, Spans: some(1)}, 20, api.Ack{}, 0, api.ErrArg)
	// Some of it may be there, or have expired.
	takes(t, s, api.Batch{Host: 3, First: 0, Spans: some(8)}, 72, api.Ack{Host: 3, Next: 8}, 6, api.OK)
	has(t, s, some(8)...)
	takes(t, s, api.Batch{Host: 3, First: 9, Spans: some(8)}, 200, api.Ack{Host: 3, First: 9, Next: 17}, 0, api.OK)
	has(t, s, some(8)...)
}

func TestCheck(t *testing.T) {
	bad := span(1)
	bad.Dur = -1
	s := open(t, newDisk(t, 100000))
	for _, x := range []struct {
		b    api.Batch
		want api.Errno
	}{
		{api.Batch{Spans: some(1)}, 0}, {api.Batch{Host: 3, First: api.MaxID - 8, Spans: some(8)}, 0},
		{api.Batch{}, api.ErrLong}, {api.Batch{Spans: some(9)}, api.ErrLong}, {api.Batch{First: api.MaxID}, api.ErrLong},
		{api.Batch{Host: 4}, api.ErrArg}, {api.Batch{Host: -1, Spans: some(1)}, api.ErrArg}, {api.Batch{First: -1}, api.ErrArg}, {api.Batch{First: math.MinInt, Spans: some(1)}, api.ErrArg},
		{api.Batch{First: api.MaxID - 7, Spans: some(8)}, api.ErrArg}, {api.Batch{First: math.MaxInt, Spans: some(1)}, api.ErrArg}, {api.Batch{First: api.MaxID - 8, Spans: some(9)}, api.ErrArg},
		{api.Batch{Spans: []api.Span{span(1), bad}}, api.ErrArg}, {api.Batch{Spans: append(some(8), bad)}, api.ErrLong},
	} {
		if e := ingest.Check(x.b); e != x.want {
			t.Errorf("%v: %v", x.b, e)
		}
		if x.want != api.OK {
			takes(t, s, x.b, 20, api.Ack{}, 0, x.want)
		}
	}
	has(t, s)
}

func TestErrors(t *testing.T) {
	for _, s := range []*store.Store{nil, {}} {
		takes(t, s, api.Batch{Spans: some(1)}, 20, api.Ack{}, 0, api.ErrNil)
		takes(t, s, api.Batch{Spans: some(1)}, 99, api.Ack{}, 0, api.ErrNil)
	}
	d := newDisk(t, 100)
	s := open(t, d)
	takes(t, s, api.Batch{Spans: some(8)}, 20, api.Ack{}, 0, api.ErrFull)
	has(t, s)
	d.Crash(nil)
	takes(t, s, api.Batch{Spans: some(1)}, 20, api.Ack{}, 0, api.ErrDown)
	takes(t, s, api.Batch{Spans: some(1)}, 99, api.Ack{}, 0, api.ErrDown)
	takes(t, s, api.Batch{Host: 9}, 20, api.Ack{}, 0, api.ErrArg)
}

// Behind a crash a batch is there wholly, if it was answered; else wholly, or not at all.
func TestCrashes(t *testing.T) {
	for n := range 4 {
		for keep := range 400 {
			d := newDisk(t, 100000)
			s := open(t, d)
			takes(t, s, api.Batch{Spans: some(2)}, 20, api.Ack{Next: 2}, 2, api.OK)
			d.Fail(n, []int{keep, 0})
			_, _, e := ingest.Take(s, api.Batch{First: 2, Spans: some(4)}, 20)
			if (e == api.OK) != (n >= 2) {
				t.Fatal(n, keep, e)
			}
			if e == api.OK {
				d.Crash(nil)
			}
			d.Start()
			s = open(t, d)
			_, whole := s.Get(func() string { l, _ := rows.Cells(span(3)); return l[0].Key }())
			if e == api.OK && !whole {
				t.Fatal(n, keep, "it was answered")
			}
			if whole {
				has(t, s, some(4)...)
			} else {
				has(t, s, some(2)...)
			}
		}
	}
}
