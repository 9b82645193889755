package model_test

import (
	"fmt"
	"math"
	"math/rand"
	"slices"
	"testing"

	"spoor/api"
	"spoor/depot"
	"spoor/disk"
	"spoor/ingest"
	"spoor/model"
	"spoor/rows"
	"spoor/store"
	"spoor/trees"
)

func span(trace, id, start int) api.Span {
	return api.Span{Trace: trace, ID: id, Start: start, Service: "a", Host: "h"}
}

func query(service, host string, from, to, limit int) api.Query {
	return api.Query{Service: service, Host: host, From: from, To: to, Limit: limit}
}

func TestExamples(t *testing.T) {
	m := model.New()
	s := span(3, 1, 10)
	note := s
	note.Note = "another"
	for _, x := range [][2]int{{20, 1}, {69, 0}, {70, 0}} {
		if n := m.Take([]api.Span{s, note}, x[0]); n != x[1] {
			t.Error(x, n)
		}
	}
	if l := m.Spans(69); !slices.Equal(l, []api.Span{s}) {
		t.Error(l)
	}
	if l := m.Spans(70); len(l) != 0 {
		t.Error(l)
	}
	if l, e := m.Find(query("a", "h", 10, 10, 5), 30); !slices.Equal(l, []int{3}) || e != api.OK {
		t.Error(l, e)
	}
}

func TestTake(t *testing.T) {
	m := model.New()
	bad, later := span(3, 1, -1), span(3, 1, 65)
	later.Service = "b"
	if n := m.Take([]api.Span{bad, span(4, 1, 20), span(3, 1, 10), span(3, 2, 9), span(4, 1, 30)}, 30); n != 3 {
		t.Error(n)
	}
	if l := m.Spans(30); !slices.Equal(l, []api.Span{span(3, 1, 10), span(3, 2, 9), span(4, 1, 20)}) {
		t.Error(l)
	}
	// What is there stays, until it has expired; then another one may have its place.
	if n := m.Take([]api.Span{later}, 69); n != 0 {
		t.Error(n)
	}
	if n := m.Take([]api.Span{later, span(3, 1, 66)}, 70); n != 1 {
		t.Error(n)
	}
	if l := m.Spans(70); !slices.Equal(l, []api.Span{later, span(4, 1, 20)}) {
		t.Error(l)
	}
	if n := m.Take(nil, 70); n != 0 {
		t.Error(n)
	}
	if l := m.Spans(math.MaxInt); len(l) != 0 {
		t.Error(l)
	}
}

func TestErrors(t *testing.T) {
	m := model.New()
	m.Take([]api.Span{span(3, 1, 10)}, 20)
	for _, x := range []struct {
		m            *model.Model
		right, wrong api.Errno
	}{{nil, api.ErrNil, api.ErrNil}, {new(model.Model), api.ErrNil, api.ErrNil}, {m, api.OK, api.ErrArg}} {
		if x.right != api.OK && (x.m.Take([]api.Span{span(3, 1, 10)}, 20) != 0 || len(x.m.Spans(20)) != 0) {
			t.Error("none takes something")
		}
		for _, trace := range []int{3, 0, -1, api.MaxID + 1, math.MinInt} {
			want := x.wrong
			if trace == 3 {
				want = x.right
			}
			row, e := x.m.Get(trace, 20)
			tree, f := x.m.Tree(trace, 20)
			if e != want || f != want || e != api.OK && (row.Trace != 0 || len(row.Spans) > 0 || trees.Count(tree) > 0) {
				t.Error(trace, e, f, want)
			}
		}
		for _, l := range [][2]int{{0, 1}, {-1, 1}, {api.MaxID + 1, 1}, {0, 0}, {0, 65}, {math.MinInt, math.MinInt}} {
			want := x.wrong
			if l == [2]int{0, 1} {
				want = x.right
			}
			if p, e := x.m.Scan(l[0], l[1], 20); e != want || e != api.OK && (len(p.Rows) > 0 || p.Next != 0) {
				t.Error(l, p, e, want)
			}
		}
		for i, q := range []api.Query{query("a", "h", 0, api.MaxClock, 64), {}, query("", "h", 0, 1, 1), query("a", "h h", 0, 1, 1), query("a", "h", 0, 1, 0), query("a", "h", 0, 1, 65), query("a", "h", -1, 1, 1), query("a", "h", 0, api.MaxClock+1, 1)} {
			want := x.wrong
			if i == 0 {
				want = x.right
			}
			if l, e := x.m.Find(q, 20); e != want || e != api.OK && len(l) > 0 {
				t.Error(q, l, e, want)
			}
		}
	}
	if p, e := m.Scan(api.MaxID, 5, 20); e != api.OK || p.Next != api.MaxID || len(p.Rows) != 0 || p.More {
		t.Error(p, e)
	}
	if row, e := m.Get(9, 20); e != api.OK || row.Trace != 9 || len(row.Spans) != 0 {
		t.Error(row, e)
	}
}

// It answers as a store does that took the same.
func TestAsDepot(t *testing.T) {
	for seed := range int64(15) {
		r := rand.New(rand.NewSource(seed))
		d, _ := disk.New(1 << 20)
		s, _ := store.Open(d)
		m, now := model.New(), 0
		for range 40 {
			l := []api.Span{}
			for range 1 + r.Intn(8) {
				x := span(1+r.Intn(8), 1+r.Intn(5), max(0, now-r.Intn(70)))
				x.Service, x.Parent = string(rune('a'+r.Intn(2))), r.Intn(6)
				l = append(l, x)
			}
			_, n, e := ingest.Take(s, api.Batch{Spans: l}, now)
			if got := m.Take(l, now); got != n || e != api.OK {
				t.Fatal(seed, got, n, e)
			}
			now += r.Intn(9)
			same := func(a, b any, e, f api.Errno) {
				t.Helper()
				if fmt.Sprint(a, e) != fmt.Sprint(b, f) {
					t.Fatal(seed, a, e, b, f)
				}
			}
			trace, limit := r.Intn(10), r.Intn(6)
			row, e := m.Get(trace, now)
			want, f := depot.Get(s, trace, now)
			same(row, want, e, f)
			tree, e := m.Tree(trace, now)
			wantTree, f := depot.Tree(s, trace, now)
			same(tree, wantTree, e, f)
			page, e := m.Scan(trace, limit, now)
			wantPage, f := depot.Scan(s, trace, limit, now)
			same(page, wantPage, e, f)
			q := query("a", "h", r.Intn(200), r.Intn(200), limit)
			traces, e := m.Find(q, now)
			wantTraces, f := depot.Find(s, q, now)
			same(traces, wantTraces, e, f)
			all, _ := s.Range("", "")
			live := rows.Live(all, now)
			if got := m.Spans(now); !slices.Equal(got, live) {
				t.Fatal(seed, got, live)
			}
		}
	}
}

func TestOwnMemory(t *testing.T) {
	m := model.New()
	m.Take([]api.Span{span(3, 1, 10), span(3, 2, 10), span(4, 1, 10)}, 20)
	m.Spans(20)[0].Note = "x"
	p, _ := m.Scan(0, 5, 20)
	p.Rows[0].Spans = append(p.Rows[0].Spans, span(9, 9, 9))
	p.Rows[0].Spans[0].Note = "x"
	if got := fmt.Sprint(m.Spans(20), p.Rows[1]); got != fmt.Sprint([]api.Span{span(3, 1, 10), span(3, 2, 10), span(4, 1, 10)}, api.Row{Trace: 4, Spans: []api.Span{span(4, 1, 10)}}) {
		t.Error(got)
	}
}
