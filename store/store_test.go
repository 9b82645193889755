package store_test

import (
	"fmt"
	"math"
	"math/rand"
	"slices"
	"strings"
	"testing"

	"spoor/api"
	"spoor/disk"
	"spoor/edits"
	"spoor/journal"
	"spoor/keys"
	"spoor/manifest"
	"spoor/store"
	"spoor/tables"
)

func cell(key string, seq int, value string) api.Cell {
	return api.Cell{Key: key, Seq: seq, Value: value}
}

// key is that of a span's cell, so that tablets can be parted there.
func key(trace int) string {
	k, _ := keys.Of(trace, 1)
	return k
}

func newDisk(t *testing.T, capacity int) *disk.Disk {
	t.Helper()
	d, e := disk.New(capacity)
	if e != api.OK {
		t.Fatal(e)
	}
	return d
}

func open(t *testing.T, d *disk.Disk) *store.Store {
	t.Helper()
	s, e := store.Open(d)
	if e != api.OK || s == nil {
		t.Fatal(e)
	}
	return s
}

func opensNot(t *testing.T, d *disk.Disk, want api.Errno) {
	t.Helper()
	if s, e := store.Open(d); s != nil || e != want {
		t.Errorf("%v, not %v", e, want)
	}
}

func ok(t *testing.T, l ...api.Errno) {
	t.Helper()
	told(t, slices.Repeat([]api.Errno{api.OK}, len(l)), l...)
}

func told(t *testing.T, want []api.Errno, l ...api.Errno) {
	t.Helper()
	if !slices.Equal(l, want) {
		t.Errorf("%v, not %v", l, want)
	}
}

// reads holds all that is read against what should be.
func reads(t *testing.T, s *store.Store, want ...api.Cell) {
	t.Helper()
	l, e := s.Range("", "")
	if e != api.OK || !slices.Equal(l, want) {
		t.Errorf("%v %v, not %v", l, e, want)
	}
	for _, c := range want {
		if got, ok := s.Get(c.Key); got != c || !ok {
			t.Errorf("%q: %v %v, not %v", c.Key, got, ok, c)
		}
	}
}

func says(t *testing.T, s *store.Store, want string) {
	t.Helper()
	if got := fmt.Sprint(s.State()); got != want {
		t.Errorf("%s, not %s", got, want)
	}
}

func names(t *testing.T, d *disk.Disk, want string) {
	t.Helper()
	if got := strings.Join(d.Names(), " "); got != want {
		t.Errorf("files %s, not %s", got, want)
	}
}

func crash(d *disk.Disk) {
	d.Crash(nil)
	d.Start()
}

func TestExamples(t *testing.T) {
	d := newDisk(t, 100000)
	s := open(t, d)
	reads(t, s)
	ok(t, s.Put([]api.Cell{cell("a", 77, "1"), cell("b", -5, "2")}), s.Put([]api.Cell{cell("a", 0, "3")}))
	reads(t, s, cell("a", 3, "3"), cell("b", 2, "2"))
	if s.Held(0) != 3 {
		t.Error(s.Held(0))
	}
	ok(t, s.Flush(0))
	says(t, s, "{[{ [2]}] 1 3}")
	if s.Held(0) != 0 {
		t.Error(s.Held(0))
	}
	names(t, d, "j1 m t2")
	ok(t, s.Flush(0))
	says(t, s, "{[{ [2]}] 1 3}")
	ok(t, s.Compact(0, nil))
	says(t, s, "{[{ [3]}] 1 4}")
	names(t, d, "j1 m t3")
	reads(t, s, cell("a", 3, "3"), cell("b", 2, "2"))
	crash(d)
	s = open(t, d)
	reads(t, s, cell("a", 3, "3"), cell("b", 2, "2"))
	told(t, []api.Errno{4, 4, 4, 0}, s.Split(0), s.Merge(0), s.Flush(1), s.Trim())
	reads(t, s, cell("a", 3, "3"), cell("b", 2, "2"))
	says(t, s, "{[{ [3 4]}] 5 6}")
	names(t, d, "m t3 t4")
	ok(t, s.Put([]api.Cell{cell("c", 0, "")}))
	reads(t, s, cell("a", 3, "3"), cell("b", 2, "2"), cell("c", 4, ""))
	names(t, d, "j5 m t3 t4")
}

func TestNone(t *testing.T) {
	for _, s := range []*store.Store{nil, {}} {
		_, e := s.Range("", "")
		told(t, slices.Repeat([]api.Errno{api.ErrNil}, 7), s.Put(nil), e, s.Flush(0), s.Compact(0, nil), s.Split(0), s.Merge(0), s.Trim())
		if c, ok := s.Get("a"); ok || c != (api.Cell{}) || s.Held(0) != 0 {
			t.Error("none tells something")
		}
		says(t, s, "{[] 0 0}")
	}
	down := newDisk(t, 10)
	down.Crash(nil)
	opensNot(t, nil, api.ErrNil)
	opensNot(t, down, api.ErrDown)
	opensNot(t, newDisk(t, 5), api.ErrFull)
}

func TestOver(t *testing.T) {
	for i := range 2 {
		d := newDisk(t, 10000)
		s := open(t, d)
		ok(t, s.Put([]api.Cell{cell("a", 0, "")}))
		d.Crash(nil)
		if i == 1 {
			d.Start()
		}
		_, e := s.Range("", "")
		told(t, slices.Repeat([]api.Errno{api.ErrDown}, 7), s.Put(nil), e, s.Flush(9), s.Compact(9, nil), s.Split(9), s.Merge(9), s.Trim())
		if c, ok := s.Get("a"); ok || c != (api.Cell{}) {
			t.Error(c)
		}
	}
}

// laid is a disk on which a store was laid, by the layers below.
func laid(t *testing.T) *disk.Disk {
	d := newDisk(t, 100000)
	m, _ := manifest.Open(d)
	ok(t, m.Do([]api.Edit{{Kind: api.EdTable, File: 5}, {Kind: api.EdTable, File: 7}, {Kind: api.EdSplit, Key: "m"}, {Kind: api.EdLog, File: 9}}))
	five, _ := tables.Build([]api.Cell{cell("a", 3, "five"), cell("n", 40, "five")})
	seven, _ := tables.Build([]api.Cell{cell("a", 4, "seven")})
	d.Append("t5", five)
	d.Append("t7", seven)
	j, _, _ := journal.Open(d, 9)
	ok(t, j.Append([]api.Cell{cell("n", 41, "j"), cell("b", 2, "j"), cell("a", 1, "j")}))
	return d
}

func TestOpen(t *testing.T) {
	d := laid(t)
	for _, n := range []string{"t+", "t6", "t10", "t2147483647", "t07", "t", "tx", "j8", "j+", "x"} {
		d.Append(n, "junk")
	}
	s := open(t, d)
	names(t, d, "j9 m t t07 t5 t7 tx x")
	reads(t, s, cell("a", 4, "seven"), cell("b", 2, "j"), cell("n", 41, "j"))
	if s.Held(0) != 2 || s.Held(1) != 1 || s.Held(2) != 0 || s.Held(-1) != 0 || s.Held(math.MaxInt) != 0 {
		t.Error(s.Held(0), s.Held(1))
	}
	ok(t, s.Put([]api.Cell{cell("a", 0, "new")}))
	reads(t, s, cell("a", 42, "new"), cell("b", 2, "j"), cell("n", 41, "j"))
	// The greatest Seq may be a table's, too.
	d = laid(t)
	d.Remove("j9")
	s = open(t, d)
	ok(t, s.Put([]api.Cell{cell("z", 0, "")}))
	reads(t, s, cell("a", 4, "seven"), cell("n", 40, "five"), cell("z", 41, ""))

	d = laid(t)
	d.Remove("t5")
	opensNot(t, d, api.ErrBroke)
	d = laid(t)
	d.Append("t7", "x")
	opensNot(t, d, api.ErrBroke)
	d = laid(t)
	d.Append("m", "x")
	open(t, d)
	d = laid(t)
	d.Append("j10", "")
	d.Append("j9", "x")
	opensNot(t, d, api.ErrBroke)
	d = newDisk(t, 100)
	d.Append("m", "x")
	opensNot(t, d, api.ErrBroke)
	// By names, and the disk's error.
	d = laid(t)
	d.Append("t8", "")
	d.Append("t+", "")
	d.Append("t10", "")
	d.Fail(2, nil)
	opensNot(t, d, api.ErrDown)
	d.Start()
	names(t, d, "j9 m t5 t7 t8")
}

func TestPut(t *testing.T) {
	d := newDisk(t, 1<<20)
	s := open(t, d)
	ok(t, s.Put(nil), s.Put([]api.Cell{}))
	names(t, d, "m")
	l := []api.Cell{cell("b", 9, "x"), cell("a", 9, "y"), cell("b", 9, "z")}
	ok(t, s.Put(l))
	if l[0] != cell("b", 9, "x") {
		t.Error("the cells that were handed in are others", l)
	}
	want := []api.Cell{cell("a", 2, "y"), cell("b", 3, "z")}
	reads(t, s, want...)
	told(t, []api.Errno{api.ErrArg, api.ErrArg, api.ErrLong}, s.Put([]api.Cell{cell("c", 0, ""), {}}), s.Put([]api.Cell{cell("c", 0, strings.Repeat("v", 129))}), s.Put(slices.Repeat([]api.Cell{cell("c", 0, strings.Repeat("v", 128))}, 200)))
	reads(t, s, want...)
	// The cells of errors took no Seqs; and there may be so many in memory.
	for range 8 {
		ok(t, s.Put(slices.Repeat([]api.Cell{cell("c", 0, "")}, 511)))
	}
	if s.Held(0) != 4091 {
		t.Error(s.Held(0))
	}
	six := slices.Repeat([]api.Cell{cell("c", 0, "")}, 6)
	told(t, []api.Errno{api.ErrFull, 0, api.ErrFull, api.ErrArg}, s.Put(six), s.Put(six[:5]), s.Put(six[:1]), s.Put([]api.Cell{six[0], {}}))
	reads(t, s, append(want, cell("c", 4096, ""))...)
	ok(t, s.Flush(0), s.Put(six))
	reads(t, s, append(want, cell("c", 4102, ""))...)
	// A disk without room.
	d = newDisk(t, 200)
	s = open(t, d)
	ok(t, s.Put([]api.Cell{cell("a", 0, "1")}))
	told(t, []api.Errno{api.ErrFull, api.ErrFull, 0}, s.Put([]api.Cell{cell("b", 0, strings.Repeat("v", 120)), cell("c", 0, strings.Repeat("v", 90))}), s.Put([]api.Cell{cell("b", 0, strings.Repeat("v", 128)), cell("c", 0, strings.Repeat("v", 40))}), s.Put([]api.Cell{cell("c", 0, "2")}))
	reads(t, s, cell("a", 1, "1"), cell("c", 2, "2"))
}

func TestSplitAndMerge(t *testing.T) {
	d := newDisk(t, 100000)
	s := open(t, d)
	want := []api.Cell{}
	for i := range 8 {
		want = append(want, cell(key(i+1), i+1, "v"))
	}
	ok(t, s.Put(want[:4]), s.Flush(0), s.Put(want[4:]), s.Split(0))
	row := keys.Row(key(5))
	says(t, s, fmt.Sprintf("{[{ [2]} {%s [2]}] 1 3}", row))
	if s.Held(0) != 0 || s.Held(1) != 4 {
		t.Error(s.Held(0), s.Held(1))
	}
	reads(t, s, want...)
	if l, e := s.Range(key(3), key(7)); !slices.Equal(l, want[2:6]) || e != api.OK {
		t.Error(l, e)
	}
	told(t, []api.Errno{4, 4, 4, 4, 4, 4, 4}, s.Split(2), s.Split(-1), s.Merge(1), s.Merge(2), s.Merge(-1), s.Flush(2), s.Compact(-1, nil))
	ok(t, s.Flush(1), s.Split(0), s.Split(2))
	reads(t, s, want...)
	crash(d)
	s = open(t, d)
	reads(t, s, want...)
	if len(s.State().Tablets) != 4 {
		t.Error(s.State())
	}
	ok(t, s.Compact(2, nil), s.Merge(0), s.Merge(1), s.Merge(0))
	reads(t, s, want...)
	if st := s.State(); len(st.Tablets) != 1 {
		t.Error(st)
	}
	ok(t, s.Compact(0, nil), s.Trim())
	reads(t, s, want...)
	if s.Held(0) != 0 {
		t.Error(s.Held(0))
	}
}

func TestLimits(t *testing.T) {
	d := newDisk(t, 1<<20)
	s := open(t, d)
	for i := range 40 {
		ok(t, s.Put([]api.Cell{cell(key(i+1), 0, "")}))
	}
	for len(s.State().Tablets) < api.MaxTablets {
		before := len(s.State().Tablets)
		for at := range before {
			s.Split(at)
		}
		if len(s.State().Tablets) == before {
			t.Fatal(s.State())
		}
	}
	for at := range api.MaxTablets {
		told(t, []api.Errno{api.ErrNone}, s.Split(at))
	}
	// A tablet has so many tables at most.
	s = open(t, newDisk(t, 1<<20))
	for i := range api.MaxTables {
		ok(t, s.Put([]api.Cell{cell(key(i+1), 0, "")}), s.Flush(0))
	}
	ok(t, s.Flush(0), s.Put([]api.Cell{cell(key(999), 0, "")}))
	told(t, []api.Errno{api.ErrLong}, s.Flush(0))
	if s.Held(0) != 1 {
		t.Error(s.Held(0))
	}
	// Both halves have these, till one has another one: one more than there may be.
	ok(t, s.Split(0), s.Compact(1, nil))
	told(t, []api.Errno{api.ErrLong}, s.Merge(0))
	// And of cells in memory, too, both may have so many.
	s = open(t, newDisk(t, 1<<20))
	ok(t, s.Put([]api.Cell{cell(key(1), 0, ""), cell(key(2), 0, "")}), s.Split(0))
	for range 4 {
		ok(t, s.Put(slices.Repeat([]api.Cell{cell(key(1), 0, "")}, 512)), s.Put(slices.Repeat([]api.Cell{cell(key(2), 0, "")}, 512)))
	}
	told(t, []api.Errno{api.ErrLong}, s.Merge(0))
	if s.Held(0) != 2049 || s.Held(1) != 2049 || len(s.State().Tablets) != 2 {
		t.Error(s.Held(0), s.Held(1))
	}
	ok(t, s.Flush(0), s.Merge(0))
	s = open(t, newDisk(t, 1<<20))
	ok(t, s.Put([]api.Cell{cell(key(1), 0, ""), cell(key(2), 0, "")}), s.Split(0))
	for range 4 {
		ok(t, s.Put(slices.Repeat([]api.Cell{cell(key(1), 0, "")}, 512)), s.Put(slices.Repeat([]api.Cell{cell(key(2), 0, "")}, 511)))
	}
	ok(t, s.Put([]api.Cell{cell(key(2), 0, ""), cell(key(2), 0, "")}), s.Merge(0))
	if s.Held(0) != 4096 || s.Held(1) != 0 {
		t.Error(s.Held(0), s.Held(1))
	}
	told(t, []api.Errno{api.ErrFull}, s.Put([]api.Cell{cell(key(1), 0, "")}))
}

func TestDrop(t *testing.T) {
	d := newDisk(t, 100000)
	s := open(t, d)
	ok(t, s.Compact(0, nil))
	says(t, s, "{[{ []}] 1 2}")
	ok(t, s.Put([]api.Cell{cell("a", 0, "1"), cell("b", 0, "2")}), s.Trim(), s.Put([]api.Cell{cell("c", 0, "3")}))
	ok(t, s.Compact(0, func(c api.Cell) bool { return c.Key != "b" }))
	reads(t, s, cell("b", 2, "2"), cell("c", 3, "3"))
	ok(t, s.Compact(0, func(c api.Cell) bool { return true }))
	reads(t, s, cell("c", 3, "3"))
	says(t, s, "{[{ []}] 3 5}")
	names(t, d, "j3 m")
}

// Without room a flush and a compaction are refused, and all is read as it was.
func TestFull(t *testing.T) {
	d := newDisk(t, 1000)
	s := open(t, d)
	ok(t, s.Put([]api.Cell{cell("a", 0, strings.Repeat("v", 100)), cell("b", 0, strings.Repeat("v", 100))}), s.Flush(0))
	for i := range 3 {
		s.Put([]api.Cell{cell(string(rune('c'+i)), 0, strings.Repeat("w", 100))})
	}
	l, _ := s.Range("", "")
	told(t, []api.Errno{api.ErrFull, api.ErrFull, api.ErrFull}, s.Flush(0), s.Compact(0, nil), s.Trim())
	reads(t, s, l...)
	says(t, s, "{[{ [2]}] 1 3}")
	crash(d)
	reads(t, open(t, d), l...)
}

// However little room there is: what is refused changes nothing that is told, and what is done nothing that is read.
func TestLittleRoom(t *testing.T) {
	for name, act := range map[string]func(s *store.Store) api.Errno{
		"flush":   func(s *store.Store) api.Errno { return s.Flush(1) },
		"compact": func(s *store.Store) api.Errno { return s.Compact(0, nil) },
		"split":   func(s *store.Store) api.Errno { return s.Split(1) },
		"merge":   func(s *store.Store) api.Errno { return s.Merge(0) },
		"trim":    func(s *store.Store) api.Errno { return s.Trim() },
	} {
		full, done := 0, 0
		for room := range 500 {
			d := newDisk(t, 10000)
			s := open(t, d)
			l := []api.Cell{}
			for i := range 8 {
				l = append(l, cell(key(i+1), i+1, "v"))
			}
			ok(t, s.Put(l[:4]), s.Flush(0), s.Put(l[4:]), s.Split(0))
			d.Append("x", strings.Repeat("x", 10000-d.Size()-room))
			before := fmt.Sprint(s.State(), s.Held(0), s.Held(1), s.Held(2))
			switch e := act(s); e {
			case api.OK:
				done++
			case api.ErrFull:
				full++
				if got := fmt.Sprint(s.State(), s.Held(0), s.Held(1), s.Held(2)); name != "trim" && got != before {
					t.Errorf("%s with %d bytes: %s, not %s", name, room, got, before)
				}
			default:
				t.Errorf("%s with %d bytes: %v", name, room, e)
			}
			reads(t, s, l...)
			d.Remove("x")
			ok(t, s.Put([]api.Cell{cell(key(9), 0, "w")}))
			crash(d)
			reads(t, open(t, d), append(l, cell(key(9), 9, "w"))...)
		}
		if full == 0 || done == 0 {
			t.Errorf("%s: %d times refused, %d times done", name, full, done)
		}
	}
}

// So many tables both may have, and not one more.
func TestMergeTables(t *testing.T) {
	for more, want := range map[int]api.Errno{0: api.OK, 1: api.ErrLong} {
		s := open(t, newDisk(t, 1<<20))
		ok(t, s.Put([]api.Cell{cell(key(1), 0, ""), cell(key(2), 0, "")}), s.Split(0))
		for i := range 256 + more {
			ok(t, s.Put([]api.Cell{cell(key(1+i%2), 0, "")}), s.Flush(i%2))
		}
		told(t, []api.Errno{want}, s.Merge(0))
	}
}

// plain is what is read, by keys.
type plain map[string]api.Cell

func (p plain) with(l []api.Cell) plain {
	q, last := plain{}, 0
	for k, c := range p {
		q[k] = c
		last = max(last, c.Seq)
	}
	for i, c := range l {
		c.Seq = last + 1 + i
		q[c.Key] = c
	}
	return q
}

func (p plain) is(l []api.Cell) bool {
	for _, c := range l {
		if p[c.Key] != c {
			return false
		}
	}
	return len(l) == len(p) && slices.IsSortedFunc(l, func(a, b api.Cell) int { return strings.Compare(a.Key, b.Key) })
}

func step(s *store.Store, r *rand.Rand) api.Errno {
	at := r.Intn(max(1, len(s.State().Tablets)))
	switch r.Intn(6) {
	case 0:
		return s.Compact(at, nil)
	case 1:
		return s.Split(at)
	case 2:
		return s.Merge(at)
	case 3:
		return s.Trim()
	}
	return s.Flush(at)
}

// Whatever is flushed, parted, joined and trimmed, and wherever the disk fails, what was put is read.
func TestCrashes(t *testing.T) {
	for seed := range int64(250) {
		r := rand.New(rand.NewSource(seed))
		d := newDisk(t, 200000)
		s := open(t, d)
		want := plain{}
		for range 5 {
			keep := []int{}
			for range 8 {
				keep = append(keep, r.Intn(200)-20)
			}
			d.Fail(r.Intn(70), keep)
			maybe := want
			for d.Up() {
				if r.Intn(2) == 0 {
					if e := step(s, r); e != api.OK && e != api.ErrNone && e != api.ErrDown {
						t.Fatal(seed, e)
					}
				} else {
					l := []api.Cell{}
					for range 1 + r.Intn(5) {
						l = append(l, cell(key(1+r.Intn(12)), 0, fmt.Sprint(r.Intn(99))))
					}
					maybe = want.with(l)
					if e := s.Put(l); e == api.OK {
						want = maybe
					} else if e != api.ErrDown {
						t.Fatal(seed, e)
					}
				}
				if l, e := s.Range("", ""); d.Up() && (e != api.OK || !want.is(l)) {
					t.Fatal(seed, e, l, want)
				}
				if d.Up() {
					maybe = want
				}
			}
			d.Start()
			s = open(t, d)
			l, e := s.Range("", "")
			if maybe.is(l) {
				want = maybe
			} else if !want.is(l) || e != api.OK {
				t.Fatal(seed, e, l, want, maybe)
			}
		}
	}
}

func TestOwnMemory(t *testing.T) {
	s := open(t, laid(t))
	st := s.State()
	st.Tablets[0].Tables[0] = 99
	l, _ := s.Range("", "")
	l[0].Key = "q"
	if got := s.State(); !edits.Check(got) || got.Tablets[0].Tables[0] != 5 {
		t.Error(got)
	}
	reads(t, s, cell("a", 4, "seven"), cell("b", 2, "j"), cell("n", 41, "j"))
}
