package tablets_test

import (
	"math/rand"
	"slices"
	"strings"
	"testing"

	"spoor/api"
	"spoor/keys"
	"spoor/memory"
	"spoor/tables"
	"spoor/tablets"
)

func cell(key string, seq int) api.Cell { return api.Cell{Key: key, Seq: seq} }

func compare(a, b api.Cell) int {
	if a.Key != b.Key {
		return strings.Compare(a.Key, b.Key)
	}
	return b.Seq - a.Seq
}

func table(t *testing.T, l ...api.Cell) *tables.Table {
	t.Helper()
	slices.SortFunc(l, compare)
	s, e := tables.Build(l)
	if e != api.OK {
		t.Fatal(e, l)
	}
	x, e := tables.Open(s)
	if e != api.OK {
		t.Fatal(e)
	}
	return x
}

func held(t *testing.T, l ...api.Cell) *memory.Memory {
	t.Helper()
	m := memory.New()
	for _, c := range l {
		if e := m.Put(c); e != api.OK {
			t.Fatal(e)
		}
	}
	return m
}

func reads(t *testing.T, x tablets.Tablet, from, to string, want ...api.Cell) {
	t.Helper()
	if l, e := tablets.Range(x, from, to); !slices.Equal(l, want) || e != api.OK {
		t.Errorf("Range %q %q: %v %v, not %v", from, to, l, e, want)
	}
}

func gets(t *testing.T, x tablets.Tablet, key string, want api.Cell) {
	t.Helper()
	if c, ok := tablets.Get(x, key); c != want || ok != (want.Key != "") {
		t.Errorf("Get %q: %v %v, not %v", key, c, ok, want)
	}
}

func merged(t *testing.T, x tablets.Tablet, drop func(api.Cell) bool, want ...api.Cell) {
	t.Helper()
	if l, e := tablets.Merge(x, drop); !slices.Equal(l, want) || e != api.OK {
		t.Errorf("Merge: %v %v, not %v", l, e, want)
	}
}

func TestExamples(t *testing.T) {
	x := tablets.Tablet{To: "m", Memory: held(t, cell("a", 5)), Tables: []*tables.Table{table(t, cell("a", 3), cell("b", 2), cell("z", 1))}}
	gets(t, x, "a", cell("a", 5))
	gets(t, x, "b", cell("b", 2))
	gets(t, x, "z", api.Cell{})
	reads(t, x, "", "", cell("a", 5), cell("b", 2))
	merged(t, x, nil, cell("a", 3), cell("b", 2))
}

func TestStretch(t *testing.T) {
	x := tablets.Tablet{From: "c", To: "g", Memory: held(t, cell("b", 9), cell("c", 9), cell("f", 9), cell("g", 9)), Tables: []*tables.Table{table(t, cell("a", 1), cell("c", 1), cell("e", 1), cell("g", 1))}}
	reads(t, x, "", "", cell("c", 9), cell("e", 1), cell("f", 9))
	reads(t, x, "a", "z", cell("c", 9), cell("e", 1), cell("f", 9))
	reads(t, x, "c", "f", cell("c", 9), cell("e", 1))
	reads(t, x, "d", "", cell("e", 1), cell("f", 9))
	for _, none := range [][2]string{{"f", "e"}, {"", "c"}, {"g", ""}, {"h", "z"}, {"e", "e"}} {
		reads(t, x, none[0], none[1])
	}
	merged(t, x, nil, cell("c", 1), cell("e", 1))
	for key, want := range map[string]api.Cell{"a": {}, "b": {}, "g": {}, "": {}, "d": {}, "c": cell("c", 9), "e": cell("e", 1)} {
		gets(t, x, key, want)
	}
}

func TestNewest(t *testing.T) {
	value := func(seq int, v string) api.Cell { return api.Cell{Key: "k", Seq: seq, Value: v} }
	low, high := table(t, value(3, "low")), table(t, value(7, "high"), value(2, "old"))
	x := tablets.Tablet{Memory: held(t, value(5, "memory")), Tables: []*tables.Table{nil, low, high, nil}}
	gets(t, x, "k", value(7, "high"))
	reads(t, x, "", "", value(7, "high"))
	merged(t, x, nil, value(7, "high"))
	x.Tables = []*tables.Table{low}
	gets(t, x, "k", value(5, "memory"))
	// Of several of one Seq the first one: memory, then tables as they stand.
	x = tablets.Tablet{Memory: held(t, value(7, "memory")), Tables: []*tables.Table{table(t, value(7, "one")), table(t, value(7, "two"))}}
	gets(t, x, "k", value(7, "memory"))
	reads(t, x, "", "", value(7, "memory"))
	merged(t, x, nil, value(7, "one"))
	x.Memory = nil
	gets(t, x, "k", value(7, "one"))
	reads(t, x, "", "", value(7, "one"))
	// None at all.
	for _, x := range []tablets.Tablet{{}, {Memory: memory.New(), Tables: []*tables.Table{nil, {}}}} {
		gets(t, x, "k", api.Cell{})
		reads(t, x, "", "")
		merged(t, x, nil)
		if m, ok := tablets.Middle(x); m != "" || ok {
			t.Error(m, ok)
		}
	}
}

func TestDrop(t *testing.T) {
	x := tablets.Tablet{To: "m", Memory: held(t, cell("d", 9)), Tables: []*tables.Table{table(t, cell("a", 3), cell("b", 2), cell("z", 1)), table(t, cell("a", 4), cell("c", 6))}}
	asked := []api.Cell{}
	drop := func(c api.Cell) bool {
		asked = append(asked, c)
		return c.Key == "a" || c.Seq == 6
	}
	merged(t, x, drop, cell("b", 2))
	if !slices.Contains(asked, cell("a", 4)) || slices.Contains(asked, cell("z", 1)) || slices.Contains(asked, cell("d", 9)) {
		t.Error(asked)
	}
	reads(t, x, "", "", cell("a", 4), cell("b", 2), cell("c", 6), cell("d", 9))
}

func of(t *testing.T, trace, id int) string {
	t.Helper()
	k, e := keys.Of(trace, id)
	if e != api.OK {
		t.Fatal(e)
	}
	return k
}

func index(trace int) string {
	k, _ := keys.Index(api.Span{Trace: trace, ID: 1, Service: "a", Host: "h"})
	return k
}

func TestMiddle(t *testing.T) {
	middle := func(x tablets.Tablet, want string) {
		t.Helper()
		if m, ok := tablets.Middle(x); m != want || ok != (want != "") {
			t.Errorf("%q %v, not %q", m, ok, want)
		}
	}
	row := func(trace int) string { return of(t, trace, 1)[:9] }
	// One row of three cells is none to be parted; keys that are none count not.
	one := []api.Cell{cell(of(t, 3, 1), 1), cell(of(t, 3, 2), 2), cell(of(t, 3, 9), 3), cell("junk", 4), cell("zzz", 5)}
	middle(tablets.Tablet{Memory: held(t, one...)}, "")
	x := tablets.Tablet{Memory: held(t, one...), Tables: []*tables.Table{table(t, cell(of(t, 7, 1), 7))}}
	middle(x, row(7))
	x.Tables = append(x.Tables, table(t, cell(of(t, 5, 1), 8), cell(of(t, 5, 2), 9)))
	middle(x, row(5))
	x.Tables = append(x.Tables, table(t, cell(index(2), 10)))
	middle(x, row(7))
	x.Tables = append(x.Tables, table(t, cell(index(3), 10), cell(index(4), 10)))
	middle(x, index(2))
	x.Tables = append(x.Tables, table(t, cell(index(5), 10), cell(index(6), 10)))
	middle(x, index(3))
	// Just rows of the stretch.
	x.To = of(t, 7, 1)
	middle(x, row(5))
	x.From = row(5)
	middle(x, "")
	// The one in the middle must be above From: here it is the row in which From lies.
	inside := tablets.Tablet{From: of(t, 3, 2), To: row(4), Memory: held(t, one...)}
	middle(inside, "")
	inside.To = row(9)
	inside.Tables = []*tables.Table{table(t, cell(of(t, 7, 1), 7))}
	middle(inside, row(7))
}

// A tablet that is parted reads in both halves what it reads in one; and merged it reads as before.
func TestParts(t *testing.T) {
	for seed := range int64(60) {
		r := rand.New(rand.NewSource(seed))
		x := tablets.Tablet{Memory: memory.New()}
		seq := 0
		some := func() []api.Cell {
			l := []api.Cell{}
			for range r.Intn(12) {
				seq++
				l = append(l, cell(string(rune('a'+r.Intn(12))), seq))
			}
			return l
		}
		for range r.Intn(4) {
			x.Tables = append(x.Tables, table(t, some()...))
		}
		for _, c := range some() {
			x.Memory.Put(c)
		}
		all, _ := tablets.Range(x, "", "")
		cut := string(rune('a' + r.Intn(12)))
		a, b := x, x
		a.To, b.From = cut, cut
		low, _ := tablets.Range(a, "", "")
		high, _ := tablets.Range(b, "", "")
		if !slices.Equal(slices.Concat(low, high), all) {
			t.Fatal(seed, low, high, all)
		}
		l, _ := tablets.Merge(x, nil)
		y := tablets.Tablet{Memory: x.Memory, Tables: []*tables.Table{table(t, l...)}}
		reads(t, y, "", "", all...)
		for _, c := range all {
			gets(t, x, c.Key, c)
			gets(t, y, c.Key, c)
		}
	}
}
