package farm_test

import (
	"fmt"
	"math"
	"math/rand"
	"slices"
	"testing"

	"spoor/api"
	"spoor/farm"
	"spoor/model"
	"spoor/posts"
)

func span(trace, id, start int) api.Span {
	return api.Span{Trace: trace, ID: id, Start: start, Service: "a", Host: "h"}
}

func newFarm(t *testing.T, n, capacity int) *farm.Farm {
	t.Helper()
	f, e := farm.New(n, capacity)
	if e != api.OK || f == nil {
		t.Fatal(e)
	}
	return f
}

func step(kind, node, n int, keep ...int) api.Step {
	return api.Step{Kind: kind, Node: node, N: n, Keep: keep}
}

func log(node int, s api.Span) api.Step { return api.Step{Kind: api.StLog, Node: node, Span: s} }

// does holds steps' answers against OK.
func does(t *testing.T, f *farm.Farm, l ...api.Step) {
	t.Helper()
	for _, x := range l {
		if e := f.Do(x); e != api.OK {
			t.Errorf("%v: %v", x, e)
		}
	}
}

func told(t *testing.T, f *farm.Farm, want api.Errno, l ...api.Step) {
	t.Helper()
	for _, x := range l {
		if e := f.Do(x); e != want {
			t.Errorf("%v: %v, not %v", x, e, want)
		}
	}
}

func written(t *testing.T, f *farm.Farm, i int, want ...api.Span) {
	t.Helper()
	if l := f.Written(i); !slices.Equal(l, want) {
		t.Errorf("%v, not %v", l, want)
	}
}

func TestExamples(t *testing.T) {
	f := newFarm(t, 1, 100000)
	s := span(3, 1, 0)
	does(t, f, log(0, s), step(api.StDaemon, 0, 0))
	if len(f.Mail()) != 0 {
		t.Error(f.Mail())
	}
	does(t, f, step(api.StSync, 0, 0), step(api.StDaemon, 0, 0))
	data, _ := posts.EncodeBatch(api.Batch{Spans: []api.Span{s}})
	if !slices.Equal(f.Mail(), []api.Mail{{From: 0, To: api.Repo, Data: data}}) {
		t.Error(f.Mail())
	}
	deliver := step(api.StDeliver, 0, 0)
	does(t, f, step(api.StDouble, 0, 0), deliver, deliver)
	if l := f.Mail(); len(l) != 2 || l[0] != l[1] || l[0].From != api.Repo || l[0].To != 0 {
		t.Error(l)
	}
	does(t, f, deliver, deliver)
	if c := f.Host(0).Cursor(); c != (api.Cursor{Next: 1}) {
		t.Error(c)
	}
	if row, e := f.Repo().Get(3); !slices.Equal(row.Spans, []api.Span{s}) || e != api.OK {
		t.Error(row, e)
	}
	one := api.Taken{Batch: api.Batch{Spans: []api.Span{s}}}
	if got := fmt.Sprint(f.Taken()); got != fmt.Sprint([]api.Taken{one, one}) {
		t.Error(got)
	}
	if l, at := f.Doubt(); len(l) != 0 || len(at) != 0 {
		t.Error(l, at)
	}
	written(t, f, 0, s)
	told(t, f, api.ErrNone, deliver, step(api.StDouble, 0, 0), step(api.StLose, 0, 0))
}

func TestNew(t *testing.T) {
	for _, x := range []struct {
		n, capacity int
		want        api.Errno
	}{{0, 1000, api.ErrArg}, {5, 1000, api.ErrArg}, {-1, 0, api.ErrArg}, {1, 0, api.ErrArg}, {1, 3, api.ErrFull}, {4, 1<<20 + 1, api.ErrArg}, {math.MinInt, math.MaxInt, api.ErrArg}} {
		if f, e := farm.New(x.n, x.capacity); f != nil || e != x.want {
			t.Error(x, e)
		}
	}
	for n := 1; n <= 4; n++ {
		f := newFarm(t, n, 1000)
		if f.N() != n || f.Host(n-1) == nil || f.Host(n) != nil || f.Host(-1) != nil || f.Repo() == nil || !f.Repo().Up() || len(f.Mail()) != 0 || len(f.Taken()) != 0 || len(f.Written(0)) != 0 || len(f.Written(n)) != 0 || len(f.Written(-1)) != 0 {
			t.Error(n)
		}
	}
}

func TestNone(t *testing.T) {
	for _, f := range []*farm.Farm{nil, {}} {
		told(t, f, api.ErrNil, api.Step{}, step(api.StDeliver, 0, 0), step(api.StTick, 0, 0), step(api.StTick, api.Repo, 0), log(0, api.Span{}))
		l, at := f.Doubt()
		if f.N() != 0 || f.Host(0) != nil || f.Repo() != nil || len(f.Mail()) != 0 || len(f.Written(0)) != 0 || len(f.Taken()) != 0 || len(l) != 0 || len(at) != 0 {
			t.Error("none tells something")
		}
	}
}

func TestWrong(t *testing.T) {
	f := newFarm(t, 2, 10000)
	for _, kind := range []int{0, -1, 18, math.MaxInt, math.MinInt} {
		told(t, f, api.ErrArg, step(kind, 0, 0))
	}
	for _, node := range []int{2, -2, math.MaxInt, math.MinInt} {
		for _, kind := range []int{api.StTick, api.StCrash, api.StFail, api.StRestart, api.StLog, api.StSync, api.StRotate, api.StRetain, api.StDaemon} {
			told(t, f, api.ErrArg, step(kind, node, 1))
		}
	}
	for _, kind := range []int{api.StLog, api.StSync, api.StRotate, api.StRetain, api.StDaemon} {
		told(t, f, api.ErrArg, step(kind, api.Repo, 1))
	}
	told(t, f, api.ErrArg, log(0, api.Span{}), step(api.StRetain, 0, 0), step(api.StFail, 0, -1), step(api.StFail, api.Repo, -1))
	told(t, f, api.ErrNone, step(api.StDeliver, 0, -1), step(api.StLose, 0, 1), step(api.StDouble, 0, math.MaxInt), step(api.StFlush, 0, 1), step(api.StMerge, 0, 0), step(api.StSplit, 0, 0), step(api.StCompact, 0, -1))
	told(t, f, api.ErrNode, step(api.StRestart, 0, 0), step(api.StRestart, api.Repo, 0))
	does(t, f, step(api.StFlush, 9, 0), step(api.StCompact, 9, 0), step(api.StTrim, 9, 9), step(api.StTick, 1, 0), step(api.StTick, api.Repo, 0), step(api.StTick, api.Repo, 0), step(api.StCrash, 1, 0), step(api.StTick, 1, 0))
	if f.Repo().Now() != 2 || f.Host(1).Now() != 2 || f.Host(0).Now() != 0 || f.Host(1).Up() {
		t.Error("clocks")
	}
	told(t, f, api.ErrNode, step(api.StCrash, 1, 0), step(api.StSync, 1, 0), log(1, span(3, 1, 0)))
	does(t, f, step(api.StRestart, 1, 0), step(api.StCrash, api.Repo, 0))
	told(t, f, api.ErrNode, step(api.StFlush, 0, 0), step(api.StTrim, 0, 0))
	does(t, f, step(api.StRestart, api.Repo, 0))
}

// sent is a farm with one batch under way.
func sent(t *testing.T, capacity int) *farm.Farm {
	f := newFarm(t, 1, capacity)
	does(t, f, log(0, span(3, 1, 0)), step(api.StSync, 0, 0), step(api.StDaemon, 0, 0))
	return f
}

func TestDoubt(t *testing.T) {
	deliver := step(api.StDeliver, 0, 0)
	for n := range 3 {
		f := sent(t, 100000)
		does(t, f, step(api.StTick, api.Repo, 0), step(api.StDouble, 0, 0), deliver, log(0, span(3, 2, 0)), step(api.StSync, 0, 0), step(api.StDeliver, 0, 1), step(api.StDaemon, 0, 0))
		// One that brings nothing new changes nothing: so nothing fails.
		does(t, f, step(api.StFail, api.Repo, n, 9999, 9999), deliver)
		l, at := f.Doubt()
		if len(l) != 0 || len(f.Taken()) != 2 {
			t.Error(l, at, f.Taken())
		}
		e := f.Do(step(api.StDeliver, 0, 0))
		l, at = f.Doubt()
		want := fmt.Sprint([]api.Taken{{Batch: api.Batch{First: 1, Spans: []api.Span{span(3, 2, 0)}}, Now: 1}}, []int{2})
		if n < 2 && (e != api.ErrDown || fmt.Sprint(l, at) != want || len(f.Taken()) != 2) {
			t.Error(n, e, l, at)
		}
		if n == 2 && (e != api.OK || len(l) != 0 || len(f.Taken()) != 3) {
			t.Error(n, e, l, at)
		}
		if n < 2 {
			l[0].Batch.Spans[0].Note, at[0] = "x", 77
			if l, at = f.Doubt(); fmt.Sprint(l, at) != want {
				t.Error("what is handed out is the farm's own")
			}
		}
	}
	// A repository that is down, or has no room, puts nothing in doubt.
	f := sent(t, 100000)
	does(t, f, step(api.StCrash, api.Repo, 0))
	told(t, f, api.ErrNode, deliver)
	g := newFarm(t, 1, 100)
	does(t, g, log(0, span(3, 1, 0)), log(0, span(3, 2, 0)), step(api.StSync, 0, 0), step(api.StDaemon, 0, 0))
	told(t, g, api.ErrFull, deliver)
	for _, x := range []*farm.Farm{f, g} {
		if l, _ := x.Doubt(); len(l) != 0 || len(x.Taken()) != 0 || len(x.Mail()) != 0 {
			t.Error(l)
		}
	}
}

func TestWritten(t *testing.T) {
	a, b, c := span(3, 1, 0), span(3, 2, 0), span(3, 3, 0)
	// What was lost is written no more; its number may come to another one.
	f := newFarm(t, 1, 10000)
	does(t, f, log(0, a), step(api.StSync, 0, 0), log(0, b), log(0, c), step(api.StCrash, 0, 0, 25), step(api.StRestart, 0, 0))
	written(t, f, 0, a, b)
	does(t, f, step(api.StCrash, 0, 0), step(api.StRestart, 0, 0), log(0, c))
	written(t, f, 0, a, b, c)
	told(t, f, api.ErrArg, log(0, api.Span{}))
	written(t, f, 0, a, b, c)
	f.Written(0)[0] = c
	written(t, f, 0, a, b, c)
	// The one in whose Write the disk failed may be there, or not.
	for keep, want := range map[int][]api.Span{999: {a, b}, 5: {a}} {
		f := newFarm(t, 1, 10000)
		does(t, f, log(0, a), step(api.StSync, 0, 0), step(api.StFail, 0, 0, keep))
		told(t, f, api.ErrDown, log(0, b))
		told(t, f, api.ErrNode, log(0, c))
		written(t, f, 0, a)
		does(t, f, step(api.StRestart, 0, 0))
		written(t, f, 0, want...)
		does(t, f, log(0, c))
		written(t, f, 0, append(slices.Clone(want), c)...)
	}
	// Segments that are thrown away were written, too.
	f = newFarm(t, 1, 10000)
	for range 20 {
		does(t, f, log(0, a))
	}
	does(t, f, step(api.StRetain, 0, 1), step(api.StCrash, 0, 0, 999), step(api.StRestart, 0, 0))
	written(t, f, 0, slices.Repeat([]api.Span{a}, 20)...)
}

// What finds no room in the net is lost.
func TestFullNet(t *testing.T) {
	f := newFarm(t, 2, 100000)
	for i := range 2 {
		does(t, f, log(i, span(3, 1+i, 0)), step(api.StSync, i, 0))
	}
	does(t, f, step(api.StDaemon, 0, 0))
	for range api.MaxNet - 1 {
		does(t, f, step(api.StDouble, 0, 0))
	}
	told(t, f, api.ErrNone, step(api.StDouble, 0, 0))
	does(t, f, step(api.StDaemon, 1, 0))
	if l := f.Mail(); len(l) != api.MaxNet || l[63].From != 0 || !f.Host(1).Waiting() {
		t.Error(len(l))
	}
	does(t, f, step(api.StDeliver, 0, 0))
	if l := f.Mail(); len(l) != api.MaxNet || l[63].From != api.Repo {
		t.Error(len(l))
	}
}

// fits holds the repository's rows against models that have taken some of the batches in doubt.
func fits(f *farm.Farm) bool {
	taken := f.Taken()
	doubt, at := f.Doubt()
	page, e := f.Repo().Scan(0, 64)
	for which := range 1 << len(doubt) {
		m, next := model.New(), 0
		for i := range len(taken) + 1 {
			for ; next < len(doubt) && at[next] == i; next++ {
				if which>>next&1 == 1 {
					m.Take(doubt[next].Batch.Spans, doubt[next].Now)
				}
			}
			if i < len(taken) {
				m.Take(taken[i].Batch.Spans, taken[i].Now)
			}
		}
		if want, _ := m.Scan(0, 64, f.Repo().Now()); e == api.OK && fmt.Sprint(want) == fmt.Sprint(page) {
			return true
		}
	}
	return false
}

// sound tells whether of no host that is up more is missing than its gap says.
func sound(f *farm.Farm) bool {
	for i := range f.N() {
		had := map[int]bool{}
		for _, x := range f.Taken() {
			for j, s := range x.Batch.Spans {
				n := x.Batch.First + j
				if x.Batch.Host == i {
					had[n] = true
					if l := f.Written(i); n < len(l) && l[n] != s {
						return false
					}
				}
			}
		}
		if _, _, end := f.Host(i).Log(); f.Host(i).Up() && len(f.Written(i)) != end {
			return false
		}
		missing := 0
		for n := range f.Host(i).Cursor().Next {
			if !had[n] {
				missing++
			}
		}
		if f.Host(i).Up() && missing > f.Host(i).Cursor().Gap {
			return false
		}
	}
	return true
}

// any is some step.
func anyStep(r *rand.Rand, f *farm.Farm) api.Step {
	node, n := r.Intn(3)-1, r.Intn(3)
	if r.Intn(3) > 0 {
		kind := []int{api.StLog, api.StLog, api.StSync, api.StDaemon, api.StDeliver, api.StDeliver, api.StTick}[r.Intn(7)]
		return api.Step{Kind: kind, Node: node, N: n, Span: span(1+r.Intn(9), 1+r.Intn(9), max(0, f.Repo().Now()-r.Intn(3)))}
	}
	x := step(1+r.Intn(17), node, n, r.Intn(99), r.Intn(99), r.Intn(99))
	if x.Kind == api.StFail {
		x.N = r.Intn(9)
	}
	return x
}

func TestScripts(t *testing.T) {
	for seed := range int64(60) {
		r := rand.New(rand.NewSource(seed))
		f := newFarm(t, 2, 100000)
		for i := range 400 {
			f.Do(anyStep(r, f))
			for node := -1; node < 2; node++ {
				if r.Intn(4) == 0 {
					f.Do(step(api.StRestart, node, 0))
				}
			}
			if l, _ := f.Doubt(); len(l) > 6 {
				break
			}
			if !sound(f) || i%10 == 0 && f.Repo().Up() && !fits(f) {
				t.Fatal(seed, i)
			}
		}
	}
}

// A script that is run twice comes to the same.
func TestTwice(t *testing.T) {
	var told [2]string
	for i := range told {
		r := rand.New(rand.NewSource(99))
		f := newFarm(t, 2, 100000)
		for range 500 {
			told[i] += fmt.Sprint(f.Do(anyStep(r, f)), " ")
			f.Do(step(api.StRestart, r.Intn(3)-1, 0))
		}
		page, _ := f.Repo().Scan(0, 64)
		told[i] += fmt.Sprint(page, f.Mail(), f.Written(0), f.Written(1), f.Taken())
	}
	if told[0] != told[1] {
		t.Error("it tells something else")
	}
}
