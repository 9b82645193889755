package audit_test

import (
	"math"
	"math/rand"
	"slices"
	"testing"

	"spoor/api"
	"spoor/audit"
	"spoor/farm"
	"spoor/model"
)

func span(trace, id, start int) api.Span {
	return api.Span{Trace: trace, ID: id, Start: start, Service: "a", Host: "h"}
}

func newFarm(t *testing.T, n int) *farm.Farm {
	t.Helper()
	f, e := farm.New(n, 200000)
	if e != api.OK {
		t.Fatal(e)
	}
	return f
}

func step(kind, node, n int, keep ...int) api.Step {
	return api.Step{Kind: kind, Node: node, N: n, Keep: keep}
}

func log(node int, s api.Span) api.Step { return api.Step{Kind: api.StLog, Node: node, Span: s} }

func does(t *testing.T, f *farm.Farm, l ...api.Step) {
	t.Helper()
	for _, x := range l {
		if e := f.Do(x); e != api.OK {
			t.Fatalf("%v: %v", x, e)
		}
	}
}

// sends lets a host write a span, and all mail arrive.
func sends(t *testing.T, f *farm.Farm, host int, s api.Span) {
	t.Helper()
	does(t, f, log(host, s), step(api.StSync, host, 0), step(api.StDaemon, host, 0))
	for len(f.Mail()) > 0 {
		does(t, f, step(api.StDeliver, 0, 0))
	}
}

// doubts lets the repository's disk fail while a batch of a span is laid: with the batch kept, or not.
func doubts(t *testing.T, f *farm.Farm, s api.Span, kept bool) {
	t.Helper()
	does(t, f, log(0, s), step(api.StSync, 0, 0), step(api.StDaemon, 0, 0))
	keep := 0
	if kept {
		keep = 9999
	}
	does(t, f, step(api.StFail, api.Repo, 0, keep, keep, keep))
	if e := f.Do(step(api.StDeliver, 0, 0)); e != api.ErrDown {
		t.Fatal(e)
	}
	does(t, f, step(api.StRestart, api.Repo, 0))
	// The host forgets it: so each batch is sent once.
	does(t, f, step(api.StCrash, 0, 0), step(api.StRestart, 0, 0))
}

func all(t *testing.T, f *farm.Farm, limit int, want ...api.Span) {
	t.Helper()
	if l, e := audit.All(f, limit); e != api.OK || !slices.Equal(l, want) {
		t.Errorf("%v %v, not %v", l, e, want)
	}
}

func TestExamples(t *testing.T) {
	f := newFarm(t, 1)
	if l := audit.Models(f); len(l) != 1 || len(l[0].Spans(0)) != 0 {
		t.Error(l)
	}
	if !audit.Fits(f) || !audit.Sound(f) || audit.Pending(f, 0) != 0 || audit.Missing(f, 0) != 0 {
		t.Error("a new one")
	}
	all(t, f, 64)
	doubts(t, f, span(3, 1, 0), true)
	l := audit.Models(f)
	if len(l) != 2 || len(l[0].Spans(0)) != 0 || !slices.Equal(l[1].Spans(0), []api.Span{span(3, 1, 0)}) {
		t.Error(l)
	}
	if !audit.Fits(f) || audit.Same(f, l[0]) || !audit.Same(f, l[1]) {
		t.Error("it is there")
	}
}

func TestNone(t *testing.T) {
	m := model.New()
	for _, f := range []*farm.Farm{nil, {}} {
		if l, e := audit.All(f, 0); len(l) != 0 || e != api.ErrNil {
			t.Error(l, e)
		}
		if len(audit.Models(f)) != 0 || audit.Same(f, m) || audit.Fits(f) || audit.Missing(f, 0) != 0 || audit.Sound(f) || audit.Pending(f, 0) != 0 {
			t.Error("none tells something")
		}
	}
	f := newFarm(t, 1)
	if !audit.Same(f, m) {
		t.Error("Same")
	}
	for _, limit := range []int{0, 65, -1, math.MinInt} {
		if l, e := audit.All(f, limit); len(l) != 0 || e != api.ErrArg {
			t.Error(limit, l, e)
		}
	}
	for _, i := range []int{-1, 1, math.MaxInt} {
		if audit.Missing(f, i) != 0 || audit.Pending(f, i) != 0 {
			t.Error(i)
		}
	}
	does(t, f, step(api.StCrash, api.Repo, 0))
	if l, e := audit.All(f, 5); len(l) != 0 || e != api.ErrNode || audit.Fits(f) || audit.Same(f, m) || !audit.Sound(f) {
		t.Error(l, e)
	}
}

// Each batch in doubt stands at its place among those that were answered, and just the first six may be taken.
func TestModels(t *testing.T) {
	f := newFarm(t, 2)
	noted := func(note string) api.Span {
		s := span(3, 1, 0)
		s.Note = note
		return s
	}
	// The batch that failed is sent again, by the host; the other host's comes first.
	doubts(t, f, noted("doubt"), false)
	sends(t, f, 1, noted("answered"))
	l := audit.Models(f)
	if len(l) != 2 || !slices.Equal(l[0].Spans(0), []api.Span{noted("answered")}) || !slices.Equal(l[1].Spans(0), []api.Span{noted("doubt")}) {
		t.Error("a batch in doubt that was ahead")
	}
	if !audit.Fits(f) {
		t.Error("it does not fit")
	}
	f = newFarm(t, 2)
	sends(t, f, 1, noted("answered"))
	doubts(t, f, span(4, 1, 0), true)
	sends(t, f, 1, span(4, 2, 0))
	for i := range 7 {
		doubts(t, f, span(5, 1+i, 0), i%2 == 0)
	}
	l = audit.Models(f)
	if len(l) != 64 {
		t.Fatal(len(l))
	}
	for which, m := range l {
		want := []api.Span{noted("answered")}
		if which&1 == 1 {
			want = append(want, span(4, 1, 0))
		}
		want = append(want, span(4, 2, 0))
		// Each failed batch of the host has the spans of those ahead, too: none of them was answered.
		most := 0
		for i := range 5 {
			if which>>(i+1)&1 == 1 {
				most = i + 1
			}
		}
		if which > 1 && !slices.Contains(want, span(4, 1, 0)) {
			want = slices.Insert(want, 1, span(4, 1, 0))
		}
		for i := range most {
			want = append(want, span(5, 1+i, 0))
		}
		if got := m.Spans(0); !slices.Equal(got, want) {
			t.Errorf("%b: %v, not %v", which, got, want)
		}
	}
}

func TestSame(t *testing.T) {
	f := newFarm(t, 2)
	list := []api.Span{}
	for i := range 6 {
		list = append(list, span(1+i/2, 1+i, 10*(i%2)))
		sends(t, f, i%2, list[i])
	}
	for _, limit := range []int{1, 2, 3, 64} {
		all(t, f, limit, list...)
	}
	of := func(l ...api.Span) *model.Model {
		m := model.New()
		m.Take(l, 0)
		return m
	}
	other := slices.Clone(list)
	other[3].Note = "x"
	if !audit.Same(f, of(list...)) || !audit.Fits(f) {
		t.Error("it is the same")
	}
	for i, l := range [][]api.Span{nil, list[1:], list[:5], other, append(slices.Clone(list), span(9, 9, 9))} {
		if audit.Same(f, of(l...)) {
			t.Error(i, "it is another one")
		}
	}
	for range 60 {
		does(t, f, step(api.StTick, api.Repo, 0))
	}
	all(t, f, 2, list[1], list[3], list[5])
	if !audit.Same(f, of(list...)) || !audit.Fits(f) {
		t.Error("it is the same")
	}
}

func TestMissing(t *testing.T) {
	f := newFarm(t, 2)
	is := func(missing, pending int, sound bool) {
		t.Helper()
		if audit.Missing(f, 1) != missing || audit.Pending(f, 1) != pending || audit.Sound(f) != sound || audit.Missing(f, 0) != 0 || audit.Pending(f, 0) != 0 {
			t.Errorf("%d %d %v", audit.Missing(f, 1), audit.Pending(f, 1), audit.Sound(f))
		}
	}
	for i := range 3 {
		does(t, f, log(1, span(3, 1+i, 0)))
	}
	is(0, 0, true)
	does(t, f, step(api.StSync, 1, 0))
	is(0, 3, true)
	sends(t, f, 1, span(3, 4, 0))
	is(0, 0, true)
	for i := range 5 {
		does(t, f, log(1, span(4, 1+i, 0)))
	}
	does(t, f, step(api.StRotate, 1, 0), step(api.StRetain, 1, 1), step(api.StDaemon, 1, 0))
	if c := f.Host(1).Cursor(); c != (api.Cursor{Next: 9, Gap: 5}) {
		t.Error(c)
	}
	is(5, 0, true)
	sends(t, f, 1, span(5, 1, 0))
	is(5, 0, true)
	does(t, f, log(1, span(5, 2, 0)), step(api.StSync, 1, 0), step(api.StCrash, 1, 0))
	is(0, 0, true)
	does(t, f, step(api.StRestart, 1, 0))
	is(5, 1, true)
	// One that was sent by nobody makes it unsound: here an answer that the repository never gave.
	does(t, f, step(api.StDaemon, 1, 0))
	if e := f.Host(1).Take(api.Mail{To: 1, Data: "A\x01\x0a\x01"}); e != api.OK {
		t.Fatal(e)
	}
	is(6, 0, false)
}

// Of what was answered twice, or in other pieces, nothing is missing.
func TestOverlaps(t *testing.T) {
	f := newFarm(t, 1)
	for i := range 5 {
		does(t, f, log(0, span(3, 1+i, 0)))
	}
	does(t, f, step(api.StSync, 0, 0), step(api.StDaemon, 0, 0), step(api.StDouble, 0, 0), step(api.StDeliver, 0, 0), step(api.StLose, 0, 1))
	// The daemon forgets its batch, and sends a longer one.
	does(t, f, step(api.StCrash, 0, 0), step(api.StRestart, 0, 0))
	sends(t, f, 0, span(3, 9, 0))
	if len(f.Taken()) != 3 || audit.Missing(f, 0) != 0 || f.Host(0).Cursor().Next != 6 || !audit.Sound(f) || !audit.Fits(f) {
		t.Error(len(f.Taken()), audit.Missing(f, 0), f.Host(0).Cursor())
	}
}

func anyStep(r *rand.Rand, f *farm.Farm) api.Step {
	node, n := r.Intn(3)-1, r.Intn(3)
	if r.Intn(3) > 0 {
		kind := []int{api.StLog, api.StLog, api.StSync, api.StDaemon, api.StDeliver, api.StDeliver, api.StTick}[r.Intn(7)]
		s := span(1+r.Intn(9), 1+r.Intn(9), max(0, f.Repo().Now()-r.Intn(3)))
		s.Service = string(rune('a' + r.Intn(2)))
		return api.Step{Kind: kind, Node: node, N: n, Span: s}
	}
	x := step(1+r.Intn(17), node, n, r.Intn(99), r.Intn(99), r.Intn(99))
	if x.Kind == api.StFail {
		x.N = r.Intn(9)
	}
	return x
}

// A scan that goes on from each page's Next, with any steps between pages, tells traces that rise,
// and each that is there all the while; and each page is as a model says at that moment.
func TestScans(t *testing.T) {
	for seed := range int64(20) {
		r := rand.New(rand.NewSource(seed))
		f := newFarm(t, 2)
		for i := range 12 {
			sends(t, f, i%2, span(2*i+1, 1, 0))
		}
		after, told := 0, []int{}
		for {
			page, e := f.Repo().Scan(after, 1+r.Intn(3))
			if e != api.OK {
				t.Fatal(e)
			}
			m := audit.Models(f)[0]
			want, _ := m.Scan(after, max(1, len(page.Rows)), f.Repo().Now())
			for i, row := range page.Rows {
				if row.Trace <= after || !slices.Equal(row.Spans, want.Rows[i].Spans) {
					t.Fatal(seed, row, want)
				}
				after = row.Trace
				told = append(told, after)
			}
			if page.Next != after {
				t.Fatal(seed, page, after)
			}
			if !page.More {
				break
			}
			for range 30 {
				x := anyStep(r, f)
				x.Span.Start = f.Host(0).Now()
				if x.Kind != api.StFail && x.Kind != api.StCrash && (x.Kind != api.StTick || f.Repo().Now() < 40) {
					f.Do(x)
				}
			}
		}
		for i := range 12 {
			if !slices.Contains(told, 2*i+1) {
				t.Fatal(seed, told)
			}
		}
	}
}

// Each farm that steps come to fits, and is sound.
func TestScripts(t *testing.T) {
	for seed := range int64(40) {
		r := rand.New(rand.NewSource(seed))
		f := newFarm(t, 2)
		for i := range 500 {
			f.Do(anyStep(r, f))
			for node := -1; node < 2; node++ {
				if r.Intn(4) == 0 {
					f.Do(step(api.StRestart, node, 0))
				}
			}
			if l, _ := f.Doubt(); len(l) > 6 {
				break
			}
			if !audit.Sound(f) || i%10 == 0 && f.Repo().Up() && !audit.Fits(f) {
				t.Fatal(seed, i)
			}
		}
	}
}
