package journal_test

import (
	"math"
	"math/rand"
	"slices"
	"strings"
	"testing"

	"spoor/api"
	"spoor/disk"
	"spoor/frames"
	"spoor/ints"
	"spoor/journal"
)

func cell(key string, seq int, value string) api.Cell {
	return api.Cell{Key: key, Seq: seq, Value: value}
}

func batch(from, n int) []api.Cell {
	l := []api.Cell{}
	for i := range n {
		l = append(l, cell("key"+strings.Repeat("z", from%5), from+i, strings.Repeat("v", (from+i)%20)))
	}
	return l
}

// text is the frames of batches.
func text(batches ...[]api.Cell) string {
	s := ""
	for _, l := range batches {
		b, _ := journal.Encode(l)
		f, _ := frames.Frame(b)
		s += f
	}
	return s
}

func newDisk(t *testing.T, capacity int) *disk.Disk {
	t.Helper()
	d, e := disk.New(capacity)
	if e != api.OK {
		t.Fatal(e)
	}
	return d
}

func open(t *testing.T, d *disk.Disk, from int, want ...[]api.Cell) *journal.Journal {
	t.Helper()
	j, l, e := journal.Open(d, from)
	if e != api.OK || j == nil {
		t.Fatal(e)
	}
	if !slices.Equal(l, slices.Concat(want...)) {
		t.Errorf("%v, not %v", l, want)
	}
	return j
}

func opensNot(t *testing.T, d *disk.Disk, from int, want api.Errno) {
	t.Helper()
	if j, l, e := journal.Open(d, from); j != nil || len(l) != 0 || e != want {
		t.Errorf("%v %v, not %v", l, e, want)
	}
}

func names(t *testing.T, d *disk.Disk, want string) {
	t.Helper()
	if s := strings.Join(d.Names(), " "); s != want {
		t.Errorf("files %s, not %s", s, want)
	}
}

func ok(t *testing.T, l ...api.Errno) {
	t.Helper()
	for i, e := range l {
		if e != api.OK {
			t.Error(i, e)
		}
	}
}

func TestBytes(t *testing.T) {
	l := []api.Cell{cell("ab", 300, "x"), cell("a", 0, ""), cell("ab", 300, "x")}
	b, e := journal.Encode(l)
	if b != "\x02ab\x82\x2c\x01x"+"\x01a\x00\x00"+"\x02ab\x82\x2c\x01x" || e != api.OK {
		t.Errorf("%q %v", b, e)
	}
	if back, e := journal.Decode(b); !slices.Equal(back, l) || e != api.OK {
		t.Error(back, e)
	}
	if b, e := journal.Encode(nil); b != "" || e != api.OK {
		t.Error(b, e)
	}
	if l, e := journal.Decode(""); len(l) != 0 || e != api.OK {
		t.Error(l, e)
	}
	for _, c := range []api.Cell{{}, cell("a", -1, ""), cell(strings.Repeat("k", 65), 0, ""), cell("a", 0, strings.Repeat("v", 129))} {
		if b, e := journal.Encode([]api.Cell{l[0], c}); b != "" || e != api.ErrArg {
			t.Errorf("%q %v", b, e)
		}
	}
	for i := range b {
		l, e := journal.Decode(b[:i])
		if whole := i == 0 || i == 7 || i == 11; whole != (e == api.OK) || !whole && (len(l) != 0 || e != api.ErrForm) {
			t.Errorf("%q: %v %v", b[:i], l, e)
		}
	}
	for _, s := range []string{"x", b + "\x00", "\x00\x01\x00", "\x01a\x80\x01\x00", "\x41" + strings.Repeat("k", 65) + "\x01\x00", "\x01a\x01\x81\x01" + strings.Repeat("v", 129), ints.Put(math.MaxInt) + b} {
		if l, e := journal.Decode(s); len(l) != 0 || e != api.ErrForm {
			t.Errorf("%q: %v %v", s, l, e)
		}
	}
}

func TestExamples(t *testing.T) {
	d := newDisk(t, 10000)
	j := open(t, d, 3)
	names(t, d, "")
	two := batch(1, 2)
	ok(t, j.Append(two))
	if j.Number() != 3 || j.Size() != len(text(two)) || d.Synced("j3") != j.Size() {
		t.Error(j.Number(), j.Size(), d.Synced("j3"))
	}
	d.Crash(nil)
	d.Start()
	j = open(t, d, 3, two)
	ok(t, j.Begin(5))
	names(t, d, "")
	if j.Number() != 5 || j.Size() != 0 {
		t.Error(j.Number(), j.Size())
	}
	one := batch(7, 1)
	ok(t, j.Append(one))
	names(t, d, "j5")
	open(t, d, 3, one)
	j = open(t, d, 5, one)
	if e := j.Begin(5); e != api.ErrArg {
		t.Error(e)
	}
	ok(t, j.Append(nil), j.Append([]api.Cell{}))
	open(t, d, 5, one)
	open(t, d, 6)
	names(t, d, "")
}

func TestNone(t *testing.T) {
	for _, j := range []*journal.Journal{nil, {}} {
		if j.Append(nil) != api.ErrNil || j.Begin(0) != api.ErrNil || j.Number() != 0 || j.Size() != 0 {
			t.Error("none does something")
		}
	}
	down := newDisk(t, 10)
	down.Crash(nil)
	opensNot(t, nil, 0, api.ErrNil)
	opensNot(t, new(disk.Disk), 0, api.ErrNil)
	opensNot(t, down, 0, api.ErrDown)
	d := newDisk(t, 100)
	d.Append("j+", "draft")
	for _, from := range []int{0, -1, math.MinInt} {
		opensNot(t, d, from, api.ErrArg)
	}
	names(t, d, "j+")
}

func TestOver(t *testing.T) {
	for i := range 3 {
		d := newDisk(t, 1000)
		j := open(t, d, 1)
		ok(t, j.Append(batch(1, 1)))
		switch i {
		case 0:
			d.Crash(nil)
		case 1:
			d.Crash(nil)
			d.Start()
		case 2:
			d.Fail(0, nil)
			if e := j.Append(batch(2, 1)); e != api.ErrDown {
				t.Error(e)
			}
			d.Start()
		}
		if j.Append(nil) != api.ErrDown || j.Append([]api.Cell{{}}) != api.ErrDown || j.Begin(0) != api.ErrDown || j.Number() != 0 || j.Size() != 0 {
			t.Error(i, "it is not over")
		}
	}
}

func TestOpen(t *testing.T) {
	lay := func(l ...string) *disk.Disk {
		d := newDisk(t, 100000)
		for i := 0; i < len(l); i += 2 {
			d.Append(l[i], l[i+1])
		}
		return d
	}
	a, b, c := batch(1, 2), batch(5, 1), batch(9, 3)
	// By numbers; what is not the journal's stays; drafts and what is below from go, by names.
	d := lay("j9", text(a, b), "j10", text(c), "j8", "junk", "j+", "junk", "j07", "x", "j0", "x", "j", "x", "j2147483648", "x", "k9", "x", "j-1", "x")
	j := open(t, d, 9, a, b, c)
	names(t, d, "j j-1 j0 j07 j10 j2147483648 j9 k9")
	if j.Number() != 10 || j.Size() != len(text(a, b, c)) {
		t.Error(j.Number(), j.Size())
	}
	ok(t, j.Append(b))
	if s, _ := d.Read("j10"); s != text(c, b) {
		t.Errorf("%q", s)
	}
	d = lay("j1", "x", "j10", "x", "j2", "x", "j+", "x")
	d.Fail(2, nil)
	opensNot(t, d, 11, api.ErrDown)
	d.Start()
	names(t, d, "j10 j2")
	// The last one may have something torn; so it is written anew.
	d = lay("j9", text(a), "j10", text(c, b)+text(a)[:7])
	j = open(t, d, 1, a, c, b)
	names(t, d, "j10 j9")
	if s, _ := d.Read("j10"); s != text(c, b) || d.Synced("j10") != len(s) {
		t.Errorf("%q", s)
	}
	ok(t, j.Append(a))
	open(t, d, 1, a, c, b, a)
	d = lay("j4", "torn")
	open(t, d, 1)
	if s, e := d.Read("j4"); s != "" || e != api.OK {
		t.Errorf("%q %v", s, e)
	}
	open(t, lay("j4", "", "j5", text(a)), 1, a)
	open(t, lay("j2147483647", text(a)), 1, a)
	bad, _ := frames.Frame("junk")
	for _, d := range []*disk.Disk{lay("j9", text(a)+"x", "j10", text(b)), lay("j9", "x", "j10", ""), lay("j9", bad), lay("j9", text(a)+bad+"x"), lay("j9", bad, "j10", text(a))} {
		before := strings.Join(d.Names(), " ")
		opensNot(t, d, 1, api.ErrBroke)
		names(t, d, before)
	}
}

func TestErrors(t *testing.T) {
	d := newDisk(t, 400)
	j := open(t, d, 3)
	for _, n := range []int{3, 2, 0, -1, math.MinInt, api.MaxID + 1, math.MaxInt} {
		if e := j.Begin(n); e != api.ErrArg || j.Number() != 3 {
			t.Error(n, e)
		}
	}
	ok(t, j.Append(batch(1, 2)))
	if e := j.Append([]api.Cell{cell("a", 1, ""), {}}); e != api.ErrArg {
		t.Error(e)
	}
	long := batch(1, 2000)
	if e := j.Append(long); e != api.ErrLong {
		t.Error(e)
	}
	if e := j.Append(batch(1, 30)); e != api.ErrFull {
		t.Error(e)
	}
	ok(t, j.Append(batch(7, 1)))
	open(t, d, 3, batch(1, 2), batch(7, 1))
	ok(t, j.Begin(api.MaxID))
	names(t, d, "")
	ok(t, j.Append(batch(1, 1)))
	names(t, d, "j2147483647")
}

// A batch may have just as many bytes as a frame takes.
func TestLongest(t *testing.T) {
	d := newDisk(t, 100000)
	j := open(t, d, 1)
	l := slices.Repeat([]api.Cell{cell(strings.Repeat("k", 61), 0, strings.Repeat("v", 63))}, 129)
	if b, _ := journal.Encode(l); len(b) != 129*127 {
		t.Fatal(len(b))
	}
	l = append(l, l[0])[:129]
	last := &l[128]
	last.Value += "v"
	for b, _ := journal.Encode(l); len(b) < 16384; b, _ = journal.Encode(l) {
		l = append(l, cell("k", 0, ""))
	}
	if b, _ := journal.Encode(l); len(b) != 16384 {
		t.Fatal(len(b))
	}
	ok(t, j.Append(l))
	if e := j.Append(append(slices.Clone(l), cell("k", 0, ""))); e != api.ErrLong {
		t.Error(e)
	}
	open(t, d, 1, l)
}

// Wherever the disk fails, and whatever it keeps, each batch is there wholly, or not at all.
func TestCrashes(t *testing.T) {
	for seed := range int64(500) {
		r := rand.New(rand.NewSource(seed))
		d := newDisk(t, 20000)
		j := open(t, d, 1)
		from, sure := 1, [][]api.Cell{}
		for range 5 {
			d.Fail(r.Intn(20), []int{r.Intn(60) - 5, r.Intn(60) - 5, r.Intn(60) - 5})
			maybe := sure
			for d.Up() {
				if r.Intn(6) == 0 {
					from++
					if e := j.Begin(from); e == api.OK {
						sure = nil
					} else if e != api.ErrDown {
						t.Fatal(seed, e)
					}
					maybe = nil
					continue
				}
				l := batch(r.Intn(50), 1+r.Intn(4))
				maybe = append(slices.Clone(sure), l)
				if e := j.Append(l); e == api.OK {
					sure = maybe
				} else if e != api.ErrDown {
					t.Fatal(seed, e)
				}
			}
			d.Start()
			var l []api.Cell
			var e api.Errno
			if j, l, e = journal.Open(d, from); e != api.OK {
				t.Fatal(seed, e)
			}
			if all := slices.Concat(maybe...); slices.Equal(l, all) {
				sure = maybe
			} else if !slices.Equal(l, slices.Concat(sure...)) {
				t.Fatal(seed, l, sure, maybe)
			}
		}
	}
}
