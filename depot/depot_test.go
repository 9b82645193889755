package depot_test

import (
	"cmp"
	"fmt"
	"math"
	"math/rand"
	"slices"
	"testing"

	"spoor/api"
	"spoor/depot"
	"spoor/disk"
	"spoor/ingest"
	"spoor/keys"
	"spoor/rows"
	"spoor/store"
	"spoor/trees"
)

func span(trace, id, start int) api.Span {
	return api.Span{Trace: trace, ID: id, Start: start, Service: "a", Host: "h"}
}

func newStore(t *testing.T) (*store.Store, *disk.Disk) {
	t.Helper()
	d, _ := disk.New(1 << 20)
	s, e := store.Open(d)
	if e != api.OK {
		t.Fatal(e)
	}
	return s, d
}

func take(t *testing.T, s *store.Store, now int, l ...api.Span) {
	t.Helper()
	if _, _, e := ingest.Take(s, api.Batch{Spans: l}, now); e != api.OK {
		t.Fatal(e)
	}
}

func examples(t *testing.T) *store.Store {
	s, _ := newStore(t)
	take(t, s, 12, span(7, 1, 12), span(3, 2, 10), span(3, 1, 10))
	return s
}

func row(trace int, l ...api.Span) api.Row { return api.Row{Trace: trace, Spans: l} }

func sameRow(a, b api.Row) bool { return a.Trace == b.Trace && slices.Equal(a.Spans, b.Spans) }

func gets(t *testing.T, s *store.Store, trace, now int, want api.Row) {
	t.Helper()
	if r, e := depot.Get(s, trace, now); !sameRow(r, want) || e != api.OK {
		t.Errorf("Get %d at %d: %v %v, not %v", trace, now, r, e, want)
	}
	tree, e := depot.Tree(s, trace, now)
	if fmt.Sprint(tree) != fmt.Sprint(trees.Of(want.Spans)) || e != api.OK {
		t.Errorf("Tree %d at %d: %v %v", trace, now, tree, e)
	}
}

func scans(t *testing.T, s *store.Store, after, limit, now int, want api.Page) {
	t.Helper()
	p, e := depot.Scan(s, after, limit, now)
	if e != api.OK || !slices.EqualFunc(p.Rows, want.Rows, sameRow) || p.Next != want.Next || p.More != want.More {
		t.Errorf("Scan %d %d at %d: %v %v, not %v", after, limit, now, p, e, want)
	}
}

func query(service, host string, from, to, limit int) api.Query {
	return api.Query{Service: service, Host: host, From: from, To: to, Limit: limit}
}

func finds(t *testing.T, s *store.Store, q api.Query, now int, want ...int) {
	t.Helper()
	if l, e := depot.Find(s, q, now); !slices.Equal(l, want) || e != api.OK {
		t.Errorf("Find %v at %d: %v %v, not %v", q, now, l, e, want)
	}
}

func TestExamples(t *testing.T) {
	s := examples(t)
	three, seven := row(3, span(3, 1, 10), span(3, 2, 10)), row(7, span(7, 1, 12))
	gets(t, s, 3, 20, three)
	gets(t, s, 4, 20, row(4))
	gets(t, s, api.MaxID, 20, row(api.MaxID))
	scans(t, s, 0, 1, 20, api.Page{Rows: []api.Row{three}, Next: 3, More: true})
	scans(t, s, 3, 1, 20, api.Page{Rows: []api.Row{seven}, Next: 7})
	scans(t, s, 7, 1, 20, api.Page{Next: 7})
	scans(t, s, 0, 64, 20, api.Page{Rows: []api.Row{three, seven}, Next: 7})
	scans(t, s, api.MaxID, 64, 20, api.Page{Next: api.MaxID})
	finds(t, s, query("a", "h", 11, 12, 5), 20, 7)
	finds(t, s, query("a", "h", 0, 12, 1), 20, 3)
	finds(t, s, query("a", "h", 0, 12, 64), 20, 3, 7)
	finds(t, s, query("b", "h", 0, 12, 5), 20)
	finds(t, s, query("a", "g", 0, 12, 5), 20)
	finds(t, s, query("a", "h", 12, 11, 5), 20)
	finds(t, s, query("a", "h", 10, 10, 5), 20, 3)
	gets(t, s, 3, 70, row(3))
	scans(t, s, 0, 5, 70, api.Page{Rows: []api.Row{seven}, Next: 7})
	finds(t, s, query("a", "h", 0, api.MaxClock, 5), 70, 7)
	scans(t, s, 2, 5, 72, api.Page{Next: 2})
}

func TestNone(t *testing.T) {
	for _, s := range []*store.Store{nil, {}} {
		_, e1 := depot.Get(s, 3, 20)
		_, e2 := depot.Tree(s, 3, 20)
		_, e3 := depot.Scan(s, 0, 1, 20)
		_, e4 := depot.Find(s, query("a", "h", 0, 1, 1), 20)
		for i, e := range []api.Errno{e1, e2, e3, e4} {
			if e != api.ErrNil {
				t.Error(i, e)
			}
		}
	}
}

func TestErrors(t *testing.T) {
	d, _ := disk.New(1000)
	over, _ := store.Open(d)
	d.Crash(nil)
	for _, x := range []struct {
		s            *store.Store
		right, wrong api.Errno
	}{{examples(t), api.OK, api.ErrArg}, {over, api.ErrDown, api.ErrArg}} {
		for _, trace := range []int{3, 0, -1, api.MaxID + 1, math.MaxInt, math.MinInt} {
			want := x.wrong
			if trace == 3 {
				want = x.right
			}
			r, e := depot.Get(x.s, trace, 20)
			tree, f := depot.Tree(x.s, trace, 20)
			if e != want || f != want || e != api.OK && (r.Trace != 0 || len(r.Spans) > 0 || trees.Count(tree) > 0) {
				t.Error(trace, e, f, r, want)
			}
		}
		for _, l := range [][2]int{{0, 1}, {-1, 1}, {api.MaxID + 1, 1}, {0, 0}, {0, 65}, {0, -1}, {math.MaxInt, math.MaxInt}, {math.MinInt, 5}} {
			want := x.wrong
			if l == [2]int{0, 1} {
				want = x.right
			}
			if p, e := depot.Scan(x.s, l[0], l[1], 20); e != want || e != api.OK && (len(p.Rows) > 0 || p.Next != 0 || p.More) {
				t.Error(l, p, e, want)
			}
		}
		for i, q := range []api.Query{query("a", "h", 0, api.MaxClock, 64), {}, query("", "h", 0, 1, 1), query("a", "", 0, 1, 1), query("a b", "h", 0, 1, 1), query("a", "thirteenbytes", 0, 1, 1), query("a", "h", 0, 1, 0), query("a", "h", 0, 1, 65), query("a", "h", -1, 1, 1), query("a", "h", 0, api.MaxClock+1, 1), query("a", "h", math.MinInt, math.MaxInt, 1)} {
			want := x.wrong
			if i == 0 {
				want = x.right
			}
			if l, e := depot.Find(x.s, q, 20); e != want || e != api.OK && len(l) > 0 {
				t.Error(q, l, e, want)
			}
		}
	}
	finds(t, examples(t), query("a", "h", math.MaxInt, math.MinInt, 1), 20)
}

func TestDrop(t *testing.T) {
	l, _ := rows.Cells(span(3, 1, 10))
	before, then := depot.Drop(69), depot.Drop(70)
	for _, c := range l {
		if before(c) || !then(c) {
			t.Error(c)
		}
	}
	if then(api.Cell{Key: "junk"}) {
		t.Error("junk")
	}
}

// What is no span's cell tells nothing.
func TestJunk(t *testing.T) {
	s := examples(t)
	five, _ := keys.Of(5, 1)
	three, _ := rows.Cells(span(3, 1, 10))
	if e := s.Put([]api.Cell{{Key: five, Value: "junk"}, {Key: five + "x"}, {Key: "s"}, {Key: five[:9], Value: three[0].Value}, {Key: "zzz", Value: three[0].Value}}); e != api.OK {
		t.Fatal(e)
	}
	gets(t, s, 5, 20, row(5))
	scans(t, s, 0, 9, 20, api.Page{Rows: []api.Row{row(3, span(3, 1, 10), span(3, 2, 10)), row(7, span(7, 1, 12))}, Next: 7})
	finds(t, s, query("a", "h", 0, 20, 5), 20, 3, 7)
}

// A span that expired made room for another one: its cell in the index tells nothing any more.
func TestReplaced(t *testing.T) {
	s, _ := newStore(t)
	take(t, s, 10, span(3, 1, 10))
	other := span(3, 1, 75)
	other.Service = "b"
	take(t, s, 80, other)
	gets(t, s, 3, 80, row(3, other))
	finds(t, s, query("a", "h", 0, 100, 5), 80)
	finds(t, s, query("b", "h", 0, 100, 5), 80, 3)
}

// plain is the set R.
type plain []api.Span

func (p plain) rows(after, now int) []api.Row {
	l := []api.Row{}
	for _, s := range p {
		if now-s.Start >= 60 || s.Trace <= after {
			continue
		}
		if len(l) == 0 || l[len(l)-1].Trace != s.Trace {
			l = append(l, row(s.Trace))
		}
		l[len(l)-1].Spans = append(l[len(l)-1].Spans, s)
	}
	return l
}

func holds(t *testing.T, s *store.Store, r *rand.Rand, p plain, now int) {
	t.Helper()
	all := p.rows(0, now)
	for trace := 1; trace < 14; trace++ {
		want := row(trace)
		if i := slices.IndexFunc(all, func(x api.Row) bool { return x.Trace == trace }); i >= 0 {
			want = all[i]
		}
		gets(t, s, trace, now, want)
	}
	for after := range 14 {
		l := p.rows(after, now)
		for _, limit := range []int{1, 2, 5, 64} {
			want := api.Page{Rows: l[:min(limit, len(l))], Next: after, More: len(l) > limit}
			if len(l) > 0 {
				want.Next = want.Rows[len(want.Rows)-1].Trace
			}
			scans(t, s, after, limit, now, want)
		}
	}
	for range 10 {
		q := query(string(rune('a'+r.Intn(3))), string(rune('h'+r.Intn(2))), r.Intn(80), r.Intn(90), 1+r.Intn(4))
		want := []int{}
		for _, x := range all {
			if len(want) < q.Limit && slices.ContainsFunc(x.Spans, func(s api.Span) bool {
				return s.Service == q.Service && s.Host == q.Host && q.From <= s.Start && s.Start <= q.To
			}) {
				want = append(want, x.Trace)
			}
		}
		finds(t, s, q, now, want...)
	}
}

// Flushes, compactions, splits, merges, trims and crashes make no difference to any answer.
func TestWork(t *testing.T) {
	for seed := range int64(12) {
		r := rand.New(rand.NewSource(seed))
		s, d := newStore(t)
		p, now := plain{}, 5
		for range 60 {
			l := []api.Span{}
			for range 1 + r.Intn(4) {
				x := span(1+r.Intn(12), 1+r.Intn(4), max(0, now-r.Intn(70)))
				x.Service, x.Host, x.Parent = string(rune('a'+r.Intn(3))), string(rune('h'+r.Intn(2))), r.Intn(5)
				l = append(l, x)
			}
			take(t, s, now, l...)
			for _, x := range l {
				i, there := slices.BinarySearchFunc(p, x, func(a, b api.Span) int {
					return cmp.Or(cmp.Compare(a.Trace, b.Trace), cmp.Compare(a.ID, b.ID))
				})
				switch {
				case now-x.Start >= 60:
				case !there:
					p = slices.Insert(p, i, x)
				case now-p[i].Start >= 60:
					p[i] = x
				}
			}
			at := r.Intn(len(s.State().Tablets))
			switch r.Intn(7) {
			case 0, 1:
				s.Flush(at)
			case 2:
				s.Compact(at, depot.Drop(now))
			case 3:
				s.Split(at)
			case 4:
				s.Merge(at)
			case 5:
				s.Trim()
			case 6:
				d.Crash(nil)
				d.Start()
				s, _ = store.Open(d)
			}
			now += r.Intn(6)
			if r.Intn(4) == 0 {
				holds(t, s, r, p, now)
				holds(t, s, r, p, now+20)
			}
		}
	}
}

func TestOwnMemory(t *testing.T) {
	s := examples(t)
	p, _ := depot.Scan(s, 0, 5, 20)
	p.Rows[0].Spans = append(p.Rows[0].Spans, span(9, 9, 9))
	p.Rows[0].Spans[0].Note = "x"
	if p.Rows[1].Spans[0] != span(7, 1, 12) {
		t.Error("rows share memory")
	}
	gets(t, s, 3, 20, row(3, span(3, 1, 10), span(3, 2, 10)))
}
