package memory_test

import (
	"fmt"
	"math"
	"math/rand"
	"slices"
	"strings"
	"testing"

	"spoor/api"
	"spoor/blocks"
	"spoor/memory"
)

func cell(key string, seq int, value string) api.Cell {
	return api.Cell{Key: key, Seq: seq, Value: value}
}

// plain is what a memory should hold: the cells, in order.
type plain []api.Cell

func compare(a, b api.Cell) int {
	if a.Key != b.Key {
		return strings.Compare(a.Key, b.Key)
	}
	return b.Seq - a.Seq
}

func (p plain) with(c api.Cell) plain {
	i, there := slices.BinarySearchFunc(p, c, compare)
	if there {
		return p
	}
	return slices.Insert(slices.Clone(p), i, c)
}

func (p plain) stretch(from, to string) plain {
	l := plain{}
	for _, c := range p {
		if c.Key >= from && (to == "" || c.Key < to) {
			l = append(l, c)
		}
	}
	return l
}

func holds(t *testing.T, m *memory.Memory, want plain) {
	t.Helper()
	if got := m.Range("", ""); !slices.Equal(got, want) || m.Len() != len(want) || !blocks.Sorted(got) {
		t.Fatalf("%d cells: %v, not %v", m.Len(), got, want)
	}
}

func put(t *testing.T, m *memory.Memory, l ...api.Cell) {
	t.Helper()
	for _, c := range l {
		if e := m.Put(c); e != api.OK {
			t.Fatal(c, e)
		}
	}
}

func TestExamples(t *testing.T) {
	m := memory.New()
	put(t, m, cell("a", 1, "x"), cell("a", 2, "y"), cell("a", 1, "z"))
	if e := m.Put(cell("", 1, "")); e != api.ErrArg {
		t.Error(e)
	}
	holds(t, m, plain{cell("a", 2, "y"), cell("a", 1, "x")})
	if c, ok := m.Get("a"); c != cell("a", 2, "y") || !ok {
		t.Error(c, ok)
	}
	put(t, m, cell("b", 1, ""))
	a, b := m.Cut("b")
	holds(t, a, plain{cell("a", 2, "y"), cell("a", 1, "x")})
	holds(t, b, plain{cell("b", 1, "")})
	holds(t, memory.Join(a, b), plain{cell("a", 2, "y"), cell("a", 1, "x"), cell("b", 1, "")})
}

func TestNone(t *testing.T) {
	for _, m := range []*memory.Memory{nil, {}} {
		if e := m.Put(cell("", 1, "")); e != api.ErrNil {
			t.Error(e)
		}
		if c, ok := m.Get("a"); ok || c != (api.Cell{}) || m.Len() != 0 || len(m.Range("", "")) != 0 {
			t.Error("none has cells")
		}
		a, b := m.Cut("a")
		if a.Len() != 0 || b.Len() != 0 {
			t.Error("none is cut to something")
		}
		other := memory.New()
		put(t, other, cell("a", 1, ""))
		holds(t, memory.Join(m, other), plain{cell("a", 1, "")})
		holds(t, memory.Join(other, m), plain{cell("a", 1, "")})
		holds(t, memory.Join(m, m), plain{})
	}
}

func TestWrong(t *testing.T) {
	m := memory.New()
	put(t, m, cell("a", math.MaxInt, ""), cell("a", 0, ""), cell(strings.Repeat("k", 64), 1, strings.Repeat("v", 128)))
	for _, c := range []api.Cell{{}, cell("a", -1, ""), cell(strings.Repeat("k", 65), 1, ""), cell("a", 1, strings.Repeat("v", 129))} {
		if e := m.Put(c); e != api.ErrArg {
			t.Error(c, e)
		}
	}
	if c, ok := m.Get("a"); c.Seq != math.MaxInt || !ok || m.Len() != 3 {
		t.Error(c, ok, m.Len())
	}
	if c, ok := m.Get(""); ok || c != (api.Cell{}) {
		t.Error(c, ok)
	}
}

// key is one of few keys, so that cells of one key fill more than a page.
func key(r *rand.Rand, few bool) string {
	if few {
		return string(rune('b' + r.Intn(4)))
	}
	return fmt.Sprintf("k%03d", r.Intn(400))
}

func fill(t *testing.T, r *rand.Rand, n int, few bool) (*memory.Memory, plain) {
	m, want := memory.New(), plain{}
	for i := range n {
		c := cell(key(r, few), r.Intn(200), fmt.Sprint(i))
		put(t, m, c)
		want = want.with(c)
	}
	return m, want
}

func TestMany(t *testing.T) {
	for seed := range int64(12) {
		r := rand.New(rand.NewSource(seed))
		few := seed%2 == 0
		m, want := fill(t, r, 100*int(seed), few)
		holds(t, m, want)
		for range 200 {
			from, to := key(r, few), key(r, few)
			if r.Intn(5) == 0 {
				to = ""
			}
			if got := m.Range(from, to); !slices.Equal(got, want.stretch(from, to)) {
				t.Fatal(from, to, got)
			}
			first := want.stretch(from, from+"\x00")
			if c, ok := m.Get(from); ok != (len(first) > 0) || ok && c != first[0] {
				t.Fatal(from, c, ok)
			}
		}
	}
}

// In which order cells come makes no difference.
func TestOrder(t *testing.T) {
	l := plain{}
	for i := range 300 {
		l = append(l, cell(fmt.Sprintf("k%02d", i%50), i, ""))
	}
	want := plain(slices.SortedFunc(slices.Values(l), compare))
	r := rand.New(rand.NewSource(1))
	for i := range 5 {
		m := memory.New()
		put(t, m, l...)
		holds(t, m, want)
		if i == 0 {
			slices.SortFunc(l, compare)
		} else if i == 1 {
			slices.Reverse(l)
		} else {
			r.Shuffle(len(l), func(i, j int) { l[i], l[j] = l[j], l[i] })
		}
	}
}

func TestCutAndJoin(t *testing.T) {
	for seed := range int64(10) {
		r := rand.New(rand.NewSource(seed))
		few := seed%2 == 0
		m, want := fill(t, r, 300, few)
		for _, at := range []string{"", "a", "z", key(r, few), key(r, few)} {
			a, b := m.Cut(at)
			low := plain{}
			if at != "" {
				low = want.stretch("", at)
			}
			holds(t, a, low)
			holds(t, b, want.stretch(at, ""))
			joined := memory.Join(b, a)
			holds(t, joined, want)
			// What is put into one is in no other one.
			wants := map[*memory.Memory]plain{m: want, a: low, b: want.stretch(at, ""), joined: want}
			for _, x := range []*memory.Memory{a, joined, b, m, a, b} {
				for range 40 {
					c := cell(key(r, few), 300+r.Intn(500), "new")
					put(t, x, c)
					wants[x] = wants[x].with(c)
				}
			}
			for x, w := range wants {
				holds(t, x, w)
			}
			want = wants[m]
		}
	}
}

// Of a Key and Seq that both have, the first one's cell counts.
func TestJoinAlike(t *testing.T) {
	a, b := memory.New(), memory.New()
	put(t, a, cell("k", 1, "a"), cell("l", 2, "a"))
	put(t, b, cell("k", 1, "b"), cell("k", 2, "b"), cell("m", 2, "b"))
	holds(t, memory.Join(a, b), plain{cell("k", 2, "b"), cell("k", 1, "a"), cell("l", 2, "a"), cell("m", 2, "b")})
	holds(t, memory.Join(b, a), plain{cell("k", 2, "b"), cell("k", 1, "b"), cell("l", 2, "a"), cell("m", 2, "b")})
	holds(t, memory.Join(a, a), plain{cell("k", 1, "a"), cell("l", 2, "a")})
}

func TestOwnMemory(t *testing.T) {
	m := memory.New()
	put(t, m, cell("a", 1, ""), cell("b", 1, ""))
	m.Range("", "")[0].Key = "q"
	holds(t, m, plain{cell("a", 1, ""), cell("b", 1, "")})
}
