package rows_test

import (
	"math"
	"slices"
	"strings"
	"testing"

	"spoor/api"
	"spoor/keys"
	"spoor/rows"
	"spoor/spans"
)

func span(trace, id, start int) api.Span {
	return api.Span{Trace: trace, ID: id, Start: start, Service: "a", Host: "h", Note: "n"}
}

func cells(t *testing.T, s api.Span) []api.Cell {
	t.Helper()
	l, e := rows.Cells(s)
	if e != api.OK || len(l) != 2 {
		t.Fatal(s, l, e)
	}
	return l
}

func TestExpired(t *testing.T) {
	for _, x := range []struct {
		start, now int
		want       bool
	}{{10, 69, false}, {10, 70, true}, {10, 5, false}, {10, 10, false}, {0, 60, true}, {0, 59, false}, {math.MinInt, math.MinInt + 59, false}, {math.MinInt, math.MinInt + 60, true},
		{math.MaxInt - 60, math.MaxInt, true}, {math.MaxInt - 59, math.MaxInt, false}, {-5, 54, false}, {-5, 55, true}, {1 << 30, 1<<30 + 60, true}} {
		if got := rows.Expired(span(3, 1, x.start), x.now); got != x.want {
			t.Error(x, got)
		}
	}
}

func TestCells(t *testing.T) {
	s := span(3, 1, 10)
	value, _ := spans.Encode(s)
	key, _ := keys.Of(3, 1)
	index, _ := keys.Index(s)
	l := cells(t, s)
	if !slices.Equal(l, []api.Cell{{Key: key, Value: value}, {Key: index}}) {
		t.Error(l)
	}
	for _, bad := range []api.Span{{}, span(0, 1, 1), span(1, 1, -1)} {
		if l, e := rows.Cells(bad); len(l) != 0 || e != api.ErrArg {
			t.Error(bad, l, e)
		}
	}
	if got, ok := rows.Span(l[0]); got != s || !ok {
		t.Error(got, ok)
	}
	l[0].Seq = 77
	if got, ok := rows.Span(l[0]); got != s || !ok {
		t.Error(got, ok)
	}
	other, _ := keys.Of(3, 2)
	for _, c := range []api.Cell{l[1], {}, {Key: key}, {Key: other, Value: value}, {Key: index, Value: value}, {Value: value}, {Key: key, Value: value + "x"}, {Key: key + "x", Value: value}} {
		if got, ok := rows.Span(c); ok || got != (api.Span{}) {
			t.Error(c, got)
		}
	}
}

func TestDropped(t *testing.T) {
	s := span(3, 1, 10)
	l := cells(t, s)
	for _, c := range l {
		for now, want := range map[int]bool{69: false, 70: true, 5: false, math.MaxInt: true, -1: false} {
			if rows.Dropped(c, now) != want {
				t.Error(c, now, !want)
			}
		}
	}
	// One that has no span says something, but for an index cell, whatever its value is.
	other, _ := keys.Of(9, 9)
	for _, c := range []api.Cell{{}, {Key: "junk"}, {Key: l[0].Key}, {Key: other, Value: l[0].Value}, {Key: "x"}} {
		if rows.Dropped(c, math.MaxInt) {
			t.Error(c)
		}
	}
	if c := (api.Cell{Key: l[1].Key, Value: l[0].Value}); rows.Dropped(c, 69) || !rows.Dropped(c, 70) {
		t.Error(c)
	}
}

// there is a get, by a list of cells.
func there(l ...api.Cell) func(string) (api.Cell, bool) {
	return func(key string) (api.Cell, bool) {
		i := slices.IndexFunc(l, func(c api.Cell) bool { return c.Key == key })
		if i < 0 {
			return api.Cell{}, false
		}
		return l[i], true
	}
}

func takes(t *testing.T, get func(string) (api.Cell, bool), l []api.Span, now int, want ...api.Span) {
	t.Helper()
	before := slices.Clone(l)
	got, laid := rows.Take(get, l, now)
	both := []api.Cell{}
	for _, s := range want {
		both = append(both, cells(t, s)...)
	}
	if !slices.Equal(got, want) || !slices.Equal(laid, both) || !slices.Equal(l, before) {
		t.Errorf("%v %v, not %v", got, laid, want)
	}
}

func TestTake(t *testing.T) {
	s := span(3, 1, 10)
	takes(t, there(), []api.Span{s, s}, 20, s)
	takes(t, there(cells(t, s)[0]), []api.Span{s}, 20)
	takes(t, there(cells(t, s)[0]), []api.Span{s}, 70)
	takes(t, there(), []api.Span{s}, 70)
	takes(t, there(), nil, 20)
	// Just one of a trace and ID, the first one that may be taken; and in order.
	note := s
	note.Note = strings.Repeat("m", 24)
	bad := s
	bad.Service = ""
	old := span(3, 1, 0)
	takes(t, there(), []api.Span{bad, old, note, s, span(9, 1, 65), span(3, 2, 65)}, 65, note, span(9, 1, 65), span(3, 2, 65))
	// What says nothing any more makes room: a span that has expired; but not a cell that has none.
	takes(t, there(cells(t, old)[0]), []api.Span{s}, 59)
	takes(t, there(cells(t, old)[0]), []api.Span{s}, 60, s)
	takes(t, there(api.Cell{Key: cells(t, s)[0].Key, Value: "junk"}), []api.Span{s, span(3, 2, 10)}, 60, span(3, 2, 10))
	// In which pieces they come makes no difference.
	takes(t, there(append(cells(t, s), cells(t, span(4, 4, 4))...)...), []api.Span{span(4, 4, 4), span(4, 5, 4), s}, 20, span(4, 5, 4))
}

func TestLive(t *testing.T) {
	a, b, c := span(3, 1, 10), span(4, 1, 30), span(3, 2, 20)
	l := slices.Concat(cells(t, a), cells(t, b), []api.Cell{{Key: "junk"}}, cells(t, c), cells(t, a))
	for now, want := range map[int][]api.Span{69: {a, b, c, a}, 70: {b, c}, 80: {b}, 90: nil, -5: {a, b, c, a}} {
		if got := rows.Live(l, now); !slices.Equal(got, want) {
			t.Error(now, got)
		}
	}
	if got := rows.Live(nil, 0); len(got) != 0 {
		t.Error(got)
	}
}
