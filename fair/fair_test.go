package fair_test

import (
	"math/rand"
	"testing"

	"spoor/api"
	"spoor/audit"
	"spoor/fair"
	"spoor/farm"
)

func span(trace, id, start int) api.Span {
	return api.Span{Trace: trace, ID: id, Start: start, Service: "a", Host: "h"}
}

func newFarm(t *testing.T, n int) *farm.Farm {
	t.Helper()
	f, e := farm.New(n, 400000)
	if e != api.OK {
		t.Fatal(e)
	}
	return f
}

func step(kind, node, n int, keep ...int) api.Step {
	return api.Step{Kind: kind, Node: node, N: n, Keep: keep}
}

func does(t *testing.T, f *farm.Farm, l ...api.Step) {
	t.Helper()
	for _, x := range l {
		if e := f.Do(x); e != api.OK {
			t.Fatalf("%v: %v", x, e)
		}
	}
}

// writes lets a host write so many spans, that are sure then.
func writes(t *testing.T, f *farm.Farm, host, n int) {
	t.Helper()
	for i := range n {
		does(t, f, api.Step{Kind: api.StLog, Node: host, Span: span(1+host, 1+i, 0)})
	}
	does(t, f, step(api.StSync, host, 0))
}

func runs(t *testing.T, f *farm.Farm, most, want int, done bool) {
	t.Helper()
	if n, ok := fair.Run(f, most); n != want || ok != done || fair.Done(f) != done {
		t.Errorf("Run %d: %d %v, not %d %v", most, n, ok, want, done)
	}
}

func TestExamples(t *testing.T) {
	f := newFarm(t, 2)
	if !fair.Done(f) || fair.Bound(f) != 4 {
		t.Error(fair.Bound(f))
	}
	runs(t, f, 5, 0, true)
	writes(t, f, 1, 1)
	if fair.Done(f) || fair.Bound(f) != 5 {
		t.Error(fair.Bound(f))
	}
	runs(t, f, 0, 0, false)
	runs(t, f, -1, 0, false)
	runs(t, f, 5, 1, true)
	if row, e := f.Repo().Get(2); len(row.Spans) != 1 || e != api.OK {
		t.Error(row, e)
	}
}

func TestNone(t *testing.T) {
	for _, f := range []*farm.Farm{nil, {}} {
		if e := fair.Round(f); e != api.ErrNil {
			t.Error(e)
		}
		if n, ok := fair.Run(f, 5); n != 0 || ok || fair.Done(f) || fair.Bound(f) != 4 {
			t.Error(n, ok)
		}
	}
}

func TestBound(t *testing.T) {
	for n, want := range map[int]int{0: 4, 1: 5, 8: 5, 9: 6, 16: 6, 17: 7} {
		f := newFarm(t, 3)
		writes(t, f, 0, 1)
		writes(t, f, 2, n)
		if got := fair.Bound(f); got != max(want, 5) {
			t.Error(n, got)
		}
		runs(t, f, 9, max((n+7)/8, 1), true)
	}
}

// A round: all mail arrives, and what answers it; each host ticks, and its daemon steps; all mail arrives again.
func TestRound(t *testing.T) {
	f := newFarm(t, 2)
	writes(t, f, 0, 10)
	writes(t, f, 1, 3)
	does(t, f, step(api.StDaemon, 0, 0), step(api.StDouble, 0, 0))
	is := func(next0, next1, clock int) {
		t.Helper()
		if a, b := f.Host(0).Cursor().Next, f.Host(1).Cursor().Next; a != next0 || b != next1 || len(f.Mail()) != 0 || f.Host(0).Now() != clock || f.Host(1).Now() != clock || f.Repo().Now() != 0 {
			t.Error(a, b, f.Mail(), f.Host(0).Now(), f.Host(1).Now(), f.Repo().Now())
		}
	}
	if e := fair.Round(f); e != api.OK {
		t.Error(e)
	}
	is(10, 3, 1)
	if !fair.Done(f) {
		t.Error("it is not done")
	}
	fair.Round(f)
	is(10, 3, 2)
	// What was lost is sent again three ticks later.
	writes(t, f, 1, 1)
	does(t, f, step(api.StDaemon, 1, 0), step(api.StLose, 0, 0))
	if fair.Done(f) || fair.Bound(f) != 5 {
		t.Error(fair.Bound(f))
	}
	runs(t, f, 2, 2, false)
	is(10, 3, 4)
	runs(t, f, 9, 1, true)
	is(10, 4, 5)
	// A batch that is under way is not done, with nothing pending behind it.
	does(t, f, step(api.StCrash, 1, 0))
	if !fair.Done(f) {
		t.Error("a host that is down has nothing to do")
	}
	// A repository that is down takes nothing.
	writes(t, f, 0, 1)
	does(t, f, step(api.StCrash, api.Repo, 0))
	runs(t, f, 6, 6, false)
	does(t, f, step(api.StRestart, api.Repo, 0))
	if n, ok := fair.Run(f, fair.Bound(f)); n > 5 || !ok {
		t.Error(n, ok)
	}
}

// Records that were thrown away unsent are in the gap, when it is done.
func TestGap(t *testing.T) {
	f := newFarm(t, 1)
	writes(t, f, 0, 20)
	does(t, f, step(api.StRetain, 0, 1))
	if n, ok := fair.Run(f, fair.Bound(f)); !ok || n > 7 {
		t.Error(n, ok)
	}
	if c := f.Host(0).Cursor(); c != (api.Cursor{Next: 20, Gap: 16}) {
		t.Error(c)
	}
}

func anyStep(r *rand.Rand, f *farm.Farm) api.Step {
	node, n := r.Intn(4)-1, r.Intn(3)
	if r.Intn(3) > 0 {
		kind := []int{api.StLog, api.StLog, api.StLog, api.StSync, api.StDaemon, api.StDeliver, api.StTick}[r.Intn(7)]
		return api.Step{Kind: kind, Node: node, N: n, Span: span(1+r.Intn(9), 1+r.Intn(99), f.Repo().Now())}
	}
	x := step(1+r.Intn(17), node, n, r.Intn(99), r.Intn(99), r.Intn(99))
	if x.Kind == api.StFail {
		x.N = r.Intn(9)
	}
	return x
}

// Whatever steps a farm has come to, it comes to its end within the bound.
func TestScripts(t *testing.T) {
	for seed := range int64(60) {
		r := rand.New(rand.NewSource(seed))
		f := newFarm(t, 3)
		for range 200 + r.Intn(300) {
			f.Do(anyStep(r, f))
			f.Do(step(api.StRestart, r.Intn(12)-1, 0))
		}
		// No disk fails from now on: what was set ends by a crash.
		for i := -1; i < 3; i++ {
			f.Do(step(api.StCrash, i, 0, 99, 99, 99))
			if r.Intn(3) > 0 || i < 0 {
				f.Do(step(api.StRestart, i, 0))
			}
		}
		if n, ok := fair.Run(f, fair.Bound(f)); !ok {
			t.Fatal(seed, n)
		}
		for i := range f.N() {
			_, sure, _ := f.Host(i).Log()
			if f.Host(i).Up() && f.Host(i).Cursor().Next != sure || audit.Pending(f, i) != 0 {
				t.Fatal(seed, i, sure, f.Host(i).Cursor())
			}
		}
		if !audit.Sound(f) {
			t.Fatal(seed, "not sound")
		}
	}
}
