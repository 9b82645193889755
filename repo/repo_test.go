package repo_test

import (
	"fmt"
	"math"
	"math/rand"
	"slices"
	"testing"

	"spoor/api"
	"spoor/posts"
	"spoor/repo"
)

func span(trace, id, start int) api.Span {
	return api.Span{Trace: trace, ID: id, Start: start, Service: "a", Host: "h"}
}

func mail(t *testing.T, host, first int, l ...api.Span) api.Mail {
	t.Helper()
	s, e := posts.EncodeBatch(api.Batch{Host: host, First: first, Spans: l})
	if e != api.OK {
		t.Fatal(e)
	}
	return api.Mail{From: host, To: api.Repo, Data: s}
}

func newRepo(t *testing.T, capacity int) *repo.Repo {
	t.Helper()
	r, e := repo.New(capacity)
	if e != api.OK || !r.Up() || r.Now() != 0 || r.Rejects() != 0 {
		t.Fatal(e)
	}
	return r
}

func told(t *testing.T, want []api.Errno, got ...api.Errno) {
	t.Helper()
	if !slices.Equal(got, want) {
		t.Errorf("%v, not %v", got, want)
	}
}

func ok(t *testing.T, got ...api.Errno) {
	t.Helper()
	told(t, slices.Repeat([]api.Errno{api.OK}, len(got)), got...)
}

// takes holds what mail is answered with against what should be.
func takes(t *testing.T, r *repo.Repo, m api.Mail, want api.Ack) {
	t.Helper()
	data, _ := posts.EncodeAck(want)
	if l, e := r.Take(m); e != api.OK || !slices.Equal(l, []api.Mail{{From: api.Repo, To: m.From, Data: data}}) {
		t.Errorf("%v %v", l, e)
	}
}

func takesNot(t *testing.T, r *repo.Repo, m api.Mail, want api.Errno) {
	t.Helper()
	if l, e := r.Take(m); e != want || len(l) != 0 {
		t.Errorf("%v %v, not %v", l, e, want)
	}
}

func gets(t *testing.T, r *repo.Repo, trace int, want ...api.Span) {
	t.Helper()
	if row, e := r.Get(trace); e != api.OK || row.Trace != trace || !slices.Equal(row.Spans, want) {
		t.Errorf("Get %d: %v %v, not %v", trace, row, e, want)
	}
}

func TestExamples(t *testing.T) {
	r := newRepo(t, 100000)
	s := span(3, 1, 10)
	takes(t, r, mail(t, 0, 0, s), api.Ack{Next: 1})
	gets(t, r, 3, s)
	takesNot(t, r, api.Mail{Data: "xyz"}, api.ErrForm)
	if r.Rejects() != 1 {
		t.Error(r.Rejects())
	}
	told(t, []api.Errno{api.ErrArg, 0, 0}, r.Work(9, 0), r.Work(api.StFlush, 0), r.Crash(nil))
	_, e := r.Get(3)
	told(t, []api.Errno{api.ErrNode, 0}, e, r.Restart())
	gets(t, r, 3, s)
}

func TestNone(t *testing.T) {
	down := newRepo(t, 10000)
	down.Tick()
	down.Take(api.Mail{})
	down.Crash(nil)
	for i, r := range []*repo.Repo{nil, {}, down} {
		want := api.ErrNil
		if i == 2 {
			want = api.ErrNode
		}
		l, e1 := r.Take(api.Mail{})
		row, e2 := r.Get(0)
		page, e3 := r.Scan(-1, 0)
		traces, e4 := r.Find(api.Query{})
		tree, e5 := r.Tree(0)
		told(t, slices.Repeat([]api.Errno{want}, 8), e1, e2, e3, e4, e5, r.Work(9, 9), r.Crash(nil), r.Fail(-1, nil))
		if got := fmt.Sprint(l, row, page, traces, tree, r.Up(), r.State()); got != "[] {0 []} {[] 0 false} [] {[] []} false {[] 0 0}" {
			t.Error(got)
		}
		if i < 2 {
			told(t, []api.Errno{want, want}, r.Tick(), r.Restart())
			if r.Now() != 0 || r.Rejects() != 0 {
				t.Error("none tells something")
			}
		}
	}
	if down.Now() != 1 || down.Rejects() != 1 {
		t.Error(down.Now(), down.Rejects())
	}
	ok(t, down.Tick(), down.Restart())
	told(t, []api.Errno{api.ErrNode}, down.Restart())
	if down.Now() != 2 || down.Rejects() != 1 || !down.Up() {
		t.Error(down.Now(), down.Rejects())
	}
	for capacity, want := range map[int]api.Errno{0: api.ErrArg, -1: api.ErrArg, 1<<20 + 1: api.ErrArg, 3: api.ErrFull, math.MinInt: api.ErrArg} {
		if r, e := repo.New(capacity); r != nil || e != want {
			t.Error(capacity, e)
		}
	}
}

func TestTake(t *testing.T) {
	r := newRepo(t, 100000)
	a, b := span(3, 1, 10), span(3, 2, 30)
	takes(t, r, mail(t, 2, 7, b, a), api.Ack{Host: 2, First: 7, Next: 9})
	m := mail(t, 2, 7, b, a)
	m.To = 3 // to whom it is makes no difference
	takes(t, r, m, api.Ack{Host: 2, First: 7, Next: 9})
	gets(t, r, 3, a, b)
	m.From = 1
	takesNot(t, r, m, api.ErrArg)
	m.From = api.Repo
	takesNot(t, r, m, api.ErrArg)
	ack, _ := posts.EncodeAck(api.Ack{})
	takesNot(t, r, api.Mail{Data: ack}, api.ErrForm)
	if r.Rejects() != 3 {
		t.Error(r.Rejects())
	}
	for range 70 {
		ok(t, r.Tick())
	}
	gets(t, r, 3, b)
	takes(t, r, mail(t, 0, 0, span(3, 1, 60)), api.Ack{Next: 1})
	gets(t, r, 3, span(3, 1, 60), b)
	// What finds no room is no reject.
	r = newRepo(t, 60)
	takesNot(t, r, mail(t, 0, 0, a, b), api.ErrFull)
	if r.Rejects() != 0 || !r.Up() {
		t.Error(r.Rejects())
	}
	gets(t, r, 3)
}

func TestAnswers(t *testing.T) {
	r := newRepo(t, 100000)
	for range 20 {
		r.Tick()
	}
	kid := span(3, 2, 12)
	kid.Parent = 1
	takes(t, r, mail(t, 0, 0, span(3, 1, 10), kid, span(7, 1, 12)), api.Ack{Next: 3})
	page, e := r.Scan(0, 1)
	if fmt.Sprint(page) != fmt.Sprint(api.Page{Rows: []api.Row{{Trace: 3, Spans: []api.Span{span(3, 1, 10), kid}}}, Next: 3, More: true}) || e != api.OK {
		t.Error(page, e)
	}
	traces, e := r.Find(api.Query{Service: "a", Host: "h", From: 11, To: 20, Limit: 5})
	if !slices.Equal(traces, []int{3, 7}) || e != api.OK {
		t.Error(traces, e)
	}
	tree, e := r.Tree(3)
	if len(tree.Roots) != 1 || len(tree.Roots[0].Kids) != 1 || e != api.OK {
		t.Error(tree, e)
	}
	_, e1 := r.Get(0)
	_, e2 := r.Scan(0, 65)
	_, e3 := r.Find(api.Query{})
	_, e4 := r.Tree(-1)
	told(t, slices.Repeat([]api.Errno{api.ErrArg}, 4), e1, e2, e3, e4)
}

func TestWork(t *testing.T) {
	r := newRepo(t, 100000)
	says := func(want string) {
		t.Helper()
		if got := fmt.Sprint(r.State()); got != want {
			t.Errorf("%s, not %s", got, want)
		}
	}
	says("{[{ []}] 1 2}")
	takes(t, r, mail(t, 0, 0, span(3, 1, 0), span(7, 1, 30)), api.Ack{Next: 2})
	told(t, slices.Repeat([]api.Errno{api.ErrNone}, 6), r.Work(api.StFlush, 1), r.Work(api.StCompact, 1), r.Work(api.StSplit, 1), r.Work(api.StMerge, 0), r.Work(api.StMerge, -1), r.Work(api.StFlush, -1))
	told(t, slices.Repeat([]api.Errno{api.ErrArg}, 4), r.Work(0, 0), r.Work(api.StLog, 0), r.Work(api.StCrash, 0), r.Work(-1, 0))
	ok(t, r.Work(api.StFlush, 0))
	says("{[{ [2]}] 1 3}")
	// Compaction drops what has expired at its clock.
	for range 59 {
		r.Tick()
	}
	ok(t, r.Work(api.StSplit, 0))
	if l := r.State().Tablets; len(l) != 2 {
		t.Error(l)
	}
	ok(t, r.Work(api.StMerge, 0), r.Work(api.StCompact, 0))
	says("{[{ [3]}] 1 4}")
	gets(t, r, 3, span(3, 1, 0))
	r.Tick()
	ok(t, r.Work(api.StCompact, 0), r.Work(api.StTrim, 77))
	says("{[{ [4]}] 5 6}")
	gets(t, r, 3)
	gets(t, r, 7, span(7, 1, 30))
}

func TestClock(t *testing.T) {
	r := newRepo(t, 1000)
	told(t, []api.Errno{api.ErrArg, 0, 0, 0}, r.Fail(-1, nil), r.Fail(0, nil), r.Tick(), r.Tick())
	if r.Now() != 2 {
		t.Error(r.Now())
	}
	takesNot(t, r, mail(t, 0, 0, span(3, 1, 0)), api.ErrDown)
	if r.Up() || r.Rejects() != 0 {
		t.Error("it is not down")
	}
}

// Whatever the disk fails in is answered with its error, and then it is down.
func TestFail(t *testing.T) {
	for _, kind := range []int{api.StFlush, api.StCompact, api.StSplit, api.StMerge, api.StTrim, 0} {
		r := newRepo(t, 100000)
		takes(t, r, mail(t, 0, 0, span(3, 1, 0), span(7, 1, 0)), api.Ack{Next: 2})
		ok(t, r.Work(api.StFlush, 0))
		takes(t, r, mail(t, 0, 2, span(4, 1, 0), span(8, 1, 0)), api.Ack{First: 2, Next: 4})
		if kind == api.StMerge {
			ok(t, r.Work(api.StSplit, 0))
		}
		ok(t, r.Fail(0, nil))
		if kind == 0 {
			takesNot(t, r, mail(t, 0, 4, span(5, 1, 0)), api.ErrDown)
		} else {
			told(t, []api.Errno{api.ErrDown}, r.Work(kind, 0))
		}
		if r.Up() || len(r.State().Tablets) != 0 {
			t.Error(kind, "it is up")
		}
		told(t, []api.Errno{api.ErrNode, 0}, r.Work(api.StFlush, 0), r.Restart())
		gets(t, r, 3, span(3, 1, 0))
		gets(t, r, 8, span(8, 1, 0))
	}
}

func TestLastTick(t *testing.T) {
	r := newRepo(t, 100)
	for range api.MaxClock {
		if e := r.Tick(); e != api.OK {
			t.Fatal(r.Now(), e)
		}
	}
	told(t, []api.Errno{api.ErrLong, 0, api.ErrLong}, r.Tick(), r.Crash(nil), r.Tick())
	if r.Now() != api.MaxClock {
		t.Error(r.Now())
	}
}

// Wherever the disk fails, a restart tells no error, and R is as it was: with the batch in which it failed, wholly, or without.
func TestCrashes(t *testing.T) {
	for seed := range int64(120) {
		x := rand.New(rand.NewSource(seed))
		r := newRepo(t, 1<<18)
		want := []api.Span{}
		id := 0
		for range 120 {
			maybe := want
			switch k := x.Intn(12); {
			case k < 4:
				l := []api.Span{}
				for range 1 + x.Intn(8) {
					id++
					l = append(l, span(1+x.Intn(9), id, 0))
				}
				maybe = append(slices.Clone(want), l...)
				if _, e := r.Take(mail(t, 0, 0, l...)); e == api.OK {
					want = maybe
				} else if r.Up() {
					t.Fatal(seed, e)
				}
			case k < 9:
				r.Work(api.StFlush+x.Intn(5), x.Intn(3))
			case k < 11:
				r.Fail(x.Intn(12), []int{x.Intn(300), x.Intn(300), x.Intn(300), x.Intn(300)})
			default:
				r.Crash([]int{x.Intn(99), x.Intn(99)})
			}
			if r.Up() {
				continue
			}
			ok(t, r.Restart())
			got := []api.Span{}
			page, _ := r.Scan(0, 64)
			for _, row := range page.Rows {
				got = append(got, row.Spans...)
			}
			slices.SortFunc(got, func(a, b api.Span) int { return a.ID - b.ID })
			if slices.Equal(got, maybe) {
				want = maybe
			} else if !slices.Equal(got, want) {
				t.Fatal(seed, got, want, maybe)
			}
		}
	}
}
