package merges_test

import (
	"math/rand"
	"slices"
	"strings"
	"testing"

	"spoor/api"
	"spoor/blocks"
	"spoor/merges"
)

func cell(key string, seq int, value string) api.Cell {
	return api.Cell{Key: key, Seq: seq, Value: value}
}

func examples() [][]api.Cell {
	return [][]api.Cell{{cell("a", 5, "one"), cell("b", 2, "")}, {cell("a", 7, ""), cell("a", 5, "two"), cell("c", 1, "")}}
}

// holds looks at rows in all three ways.
func holds(t *testing.T, rows [][]api.Cell, want []api.Cell) {
	t.Helper()
	all, e := merges.All(rows)
	if e != api.OK || !slices.Equal(all, want) {
		t.Fatalf("All: %v %v, not %v", all, e, want)
	}
	first := slices.CompactFunc(slices.Clone(want), func(a, b api.Cell) bool { return a.Key == b.Key })
	newest, e := merges.Newest(rows)
	if e != api.OK || !slices.Equal(newest, first) || !blocks.Sorted(newest) {
		t.Fatalf("Newest: %v %v, not %v", newest, e, first)
	}
	i, e := merges.New(rows)
	if e != api.OK || i == nil {
		t.Fatal(e)
	}
	for _, c := range want {
		if got, ok := i.Next(); got != c || !ok {
			t.Fatalf("Next: %v %v, not %v", got, ok, c)
		}
	}
	for range 2 {
		if c, ok := i.Next(); ok || c != (api.Cell{}) {
			t.Fatal("one more:", c)
		}
	}
}

func TestExamples(t *testing.T) {
	rows := examples()
	holds(t, rows, []api.Cell{cell("a", 7, ""), cell("a", 5, "one"), cell("a", 5, "two"), cell("b", 2, ""), cell("c", 1, "")})
	slices.Reverse(rows)
	holds(t, rows, []api.Cell{cell("a", 7, ""), cell("a", 5, "two"), cell("a", 5, "one"), cell("b", 2, ""), cell("c", 1, "")})
	holds(t, nil, nil)
	holds(t, [][]api.Cell{nil, {}, {cell("b", 2, "")}, nil}, []api.Cell{cell("b", 2, "")})
}

func TestWrong(t *testing.T) {
	good := []api.Cell{cell("a", 1, "")}
	for _, row := range [][]api.Cell{{cell("b", 2, ""), cell("a", 5, "")}, {cell("a", 1, ""), cell("a", 1, "")}, {cell("a", 1, ""), cell("a", 2, "")}, {cell("", 1, "")}, {cell("a", -1, "")}, {cell("a", 1, strings.Repeat("v", 129))}} {
		for _, rows := range [][][]api.Cell{{row}, {good, row}, {row, good}} {
			i, e := merges.New(rows)
			all, f := merges.All(rows)
			newest, g := merges.Newest(rows)
			if i != nil || len(all) != 0 || len(newest) != 0 || e != api.ErrArg || f != api.ErrArg || g != api.ErrArg {
				t.Error(rows, e, f, g)
			}
		}
	}
}

func TestNone(t *testing.T) {
	for _, i := range []*merges.Iter{nil, {}} {
		if c, ok := i.Next(); ok || c != (api.Cell{}) {
			t.Error(c, ok)
		}
	}
}

// What is told is as it was when rows were handed in, and they stay what they were.
func TestOwnMemory(t *testing.T) {
	rows := examples()
	i, _ := merges.New(rows)
	rows[0][0], rows[0][1], rows[1][2] = cell("z", 1, ""), cell("z", 0, ""), cell("y", 0, "")
	rows[1] = nil
	for _, want := range []string{"a", "a", "a", "b", "c"} {
		if c, _ := i.Next(); c.Key != want {
			t.Errorf("%s, not %s", c.Key, want)
		}
	}
	rows = examples()
	l, _ := merges.All(rows)
	l[0].Key = "q"
	if !slices.EqualFunc(rows, examples(), slices.Equal) {
		t.Error(rows)
	}
}

// many are rows of few keys and Seqs, each of them in one row at most, if they are to be unlike.
func many(r *rand.Rand, unlike bool) [][]api.Cell {
	rows := make([][]api.Cell, r.Intn(6))
	seen := map[api.Cell]bool{}
	for n := range rows {
		for range r.Intn(9) {
			c := cell(string(rune('a'+r.Intn(4))), r.Intn(6), "")
			if unlike && seen[c] {
				continue
			}
			seen[c] = true
			c.Value = string(rune('0' + n))
			rows[n] = append(rows[n], c)
		}
		slices.SortFunc(rows[n], func(a, b api.Cell) int {
			if a.Key != b.Key {
				return strings.Compare(a.Key, b.Key)
			}
			return b.Seq - a.Seq
		})
		rows[n] = slices.CompactFunc(rows[n], func(a, b api.Cell) bool { return a == b })
	}
	return rows
}

func TestMany(t *testing.T) {
	r := rand.New(rand.NewSource(7))
	for range 400 {
		rows := many(r, false)
		want := slices.Concat(rows...)
		slices.SortStableFunc(want, func(a, b api.Cell) int {
			if a.Key != b.Key {
				return strings.Compare(a.Key, b.Key)
			}
			return b.Seq - a.Seq
		})
		holds(t, rows, want)
	}
}

// Neither the order of rows makes a difference, nor in which pieces they are merged.
func TestPieces(t *testing.T) {
	r := rand.New(rand.NewSource(8))
	for range 200 {
		rows := many(r, true)
		all, _ := merges.All(rows)
		newest, _ := merges.Newest(rows)
		if !blocks.Sorted(all) {
			t.Fatal(all)
		}
		cut := r.Intn(len(rows) + 1)
		first, _ := merges.All(rows[:cut])
		pieces := append([][]api.Cell{first}, rows[cut:]...)
		r.Shuffle(len(pieces), func(i, j int) { pieces[i], pieces[j] = pieces[j], pieces[i] })
		holds(t, pieces, all)
		pieces[0], _ = merges.Newest(pieces[:1])
		if again, _ := merges.Newest(pieces); !slices.Equal(again, newest) {
			t.Fatal(again, newest)
		}
	}
}
