package hostlog_test

import (
	"math"
	"math/rand"
	"slices"
	"strings"
	"testing"

	"spoor/api"
	"spoor/disk"
	"spoor/frames"
	"spoor/hostlog"
	"spoor/spans"
)

func span(i int) api.Span {
	return api.Span{Trace: 1 + i, ID: 2, Service: "a", Host: "h", Start: i, Note: strings.Repeat("n", i%5)}
}

// text is some records' frames.
func text(from, to int) string {
	s := ""
	for i := from; i < to; i++ {
		b, _ := spans.Encode(span(i))
		f, _ := frames.Frame(b)
		s += f
	}
	return s
}

func newDisk(t *testing.T, capacity int) *disk.Disk {
	t.Helper()
	d, e := disk.New(capacity)
	if e != api.OK {
		t.Fatal(e)
	}
	return d
}

func open(t *testing.T, d *disk.Disk) *hostlog.Log {
	t.Helper()
	l, e := hostlog.Open(d)
	if e != api.OK || l == nil {
		t.Fatal("Open:", e)
	}
	return l
}

func write(t *testing.T, l *hostlog.Log, from, to int) {
	t.Helper()
	for i := from; i < to; i++ {
		if e := l.Append(span(i)); e != api.OK {
			t.Fatal(i, e)
		}
	}
}

func ok(t *testing.T, what string, l ...api.Errno) {
	t.Helper()
	for i, e := range l {
		if e != api.OK {
			t.Errorf("%s, %d: %v", what, i, e)
		}
	}
}

// tells holds First, Sure, End and Segments against what they should be.
func tells(t *testing.T, l *hostlog.Log, first, sure, end, segments int) {
	t.Helper()
	if l.First() != first || l.Sure() != sure || l.End() != end || l.Segments() != segments {
		t.Errorf("%d %d %d %d, not %d %d %d %d", l.First(), l.Sure(), l.End(), l.Segments(), first, sure, end, segments)
	}
}

// reads holds Read against the records from from on, up to next.
func reads(t *testing.T, l *hostlog.Log, from, most, next int) {
	t.Helper()
	s, n, e := l.Read(from, most)
	if e != api.OK || n != next || len(s) != next-from {
		t.Errorf("Read %d %d: %d, %d, %v", from, most, len(s), n, e)
		return
	}
	for i, x := range s {
		if x != span(from+i) {
			t.Errorf("Read %d %d: record %d is %+v", from, most, from+i, x)
		}
	}
}

func readsNot(t *testing.T, l *hostlog.Log, from, most int, should api.Errno) {
	t.Helper()
	if s, n, e := l.Read(from, most); len(s) != 0 || n != 0 || e != should {
		t.Errorf("Read %d %d: %d, %d, %v", from, most, len(s), n, e)
	}
}

func names(t *testing.T, d *disk.Disk, should string) {
	t.Helper()
	if s := strings.Join(d.Names(), " "); s != should {
		t.Errorf("files %s, not %s", s, should)
	}
}

func TestExamples(t *testing.T) {
	d := newDisk(t, 5000)
	l := open(t, d)
	tells(t, l, 0, 0, 0, 0)
	names(t, d, "")
	write(t, l, 0, 17)
	names(t, d, "l0 l16")
	tells(t, l, 0, 16, 17, 2)
	reads(t, l, 15, 9, 16)
	readsNot(t, l, 17, 1, api.ErrNone)
	reads(t, l, 16, 5, 16)
	ok(t, "sync and so on", l.Sync(), l.Rotate(), l.Rotate(), l.Retain(2))
	names(t, d, "l16 l17")
	readsNot(t, l, 3, 1, api.ErrNone)
	tells(t, l, 16, 17, 17, 2)
	reads(t, l, 16, 100, 17)

	d = newDisk(t, 100)
	d.Append("l3", "")
	tells(t, open(t, d), 3, 3, 3, 1)
}

func TestNone(t *testing.T) {
	for _, l := range []*hostlog.Log{nil, {}} {
		for i, e := range []api.Errno{l.Append(api.Span{}), l.Sync(), l.Rotate(), l.Retain(0)} {
			if e != api.ErrNil {
				t.Error(i, e)
			}
		}
		readsNot(t, l, -1, -1, api.ErrNil)
		tells(t, l, 0, 0, 0, 0)
	}
	for _, d := range []*disk.Disk{nil, {}} {
		if l, e := hostlog.Open(d); l != nil || e != api.ErrNil {
			t.Error("Open of none:", e)
		}
	}
	d := newDisk(t, 10)
	d.Crash(nil)
	if l, e := hostlog.Open(d); l != nil || e != api.ErrDown {
		t.Error("Open of one that is down:", e)
	}
}

func TestOver(t *testing.T) {
	for _, again := range []bool{false, true} {
		d := newDisk(t, 1000)
		l := open(t, d)
		write(t, l, 0, 1)
		l.Sync()
		d.Crash(nil)
		if again {
			d.Start()
		}
		for i, e := range []api.Errno{l.Append(api.Span{}), l.Sync(), l.Rotate(), l.Retain(0)} {
			if e != api.ErrDown {
				t.Error(i, e)
			}
		}
		readsNot(t, l, -1, -1, api.ErrDown)
		tells(t, l, 0, 0, 0, 0)
	}
	// An error of the disk but ErrFull, too: here the file is gone.
	d := newDisk(t, 1000)
	l := open(t, d)
	write(t, l, 0, 1)
	d.Remove("l0")
	if e := l.Sync(); e != api.ErrNone {
		t.Error(e)
	}
	if e := l.Append(span(1)); e != api.ErrDown || l.End() != 0 {
		t.Error(e, l.End())
	}
}

func TestErrors(t *testing.T) {
	d := newDisk(t, 1000)
	l := open(t, d)
	write(t, l, 0, 2)
	for _, n := range []int{0, -1, math.MinInt} {
		if e := l.Retain(n); e != api.ErrArg {
			t.Error(n, e)
		}
	}
	if e := l.Append(api.Span{Trace: 1, ID: 1, Service: "a", Host: ""}); e != api.ErrArg || l.End() != 2 {
		t.Error(e)
	}
	l.Sync()
	for _, from := range []int{-1, 3, math.MaxInt, math.MinInt} {
		readsNot(t, l, from, 1, api.ErrNone)
		readsNot(t, l, from, -1, api.ErrArg)
	}
	reads(t, l, 0, 0, 0)
	reads(t, l, 2, math.MaxInt, 2)
	reads(t, l, 0, math.MaxInt, 2)
	ok(t, "many may stay", l.Retain(math.MaxInt))
	tells(t, l, 0, 2, 2, 1)
}

func TestFull(t *testing.T) {
	size := len(text(0, 3))
	d := newDisk(t, size)
	l := open(t, d)
	write(t, l, 0, 3)
	if e := l.Append(span(3)); e != api.ErrFull {
		t.Error(e)
	}
	tells(t, l, 0, 0, 3, 1)
	ok(t, "it goes on", l.Sync(), l.Rotate(), l.Retain(1))
	write(t, l, 3, 4)
	tells(t, l, 3, 3, 4, 1)

	// The number of a new segment has nine digits at most.
	d = newDisk(t, 1000)
	d.Append("l999999999", "")
	l = open(t, d)
	tells(t, l, 999999999, 999999999, 999999999, 1)
	write(t, l, 0, 16)
	if l.Rotate() != api.ErrFull || l.Append(span(16)) != api.ErrFull {
		t.Error("a number of ten digits")
	}
	ok(t, "it goes on", l.Sync())
	tells(t, l, 999999999, 1000000015, 1000000015, 1)
	d = newDisk(t, 1000)
	d.Append("l999999983", "")
	l = open(t, d)
	write(t, l, 0, 17)
	names(t, d, "l999999983 l999999999")
	tells(t, l, 999999983, 999999999, 1000000000, 2)
	// And there may be so many files.
	d = newDisk(t, 1000)
	for i := range api.MaxFiles - 1 {
		d.Append(string([]byte{'x', byte(i >> 8), byte(i)}), "")
	}
	l = open(t, d)
	write(t, l, 0, 1)
	if e := l.Rotate(); e != api.ErrFull {
		t.Error(e)
	}
	tells(t, l, 0, 1, 1, 1)
}

// file lays a file, safe or not.
func file(d *disk.Disk, name, text string, safe bool) {
	d.Append(name, text)
	if safe {
		d.Sync(name)
	}
}

func TestOpen(t *testing.T) {
	d := newDisk(t, 10000)
	// Others' files are not looked at; the draft goes.
	for _, n := range []string{"l", "l00", "l01", "l-1", "l+1", "l1000000000", "lx", "m", "L0", "lnew", "lnew2"} {
		d.Append(n, "junk")
	}
	file(d, "l5", text(5, 8), true)
	file(d, "l8", text(8, 9)+"torn", true)
	l := open(t, d)
	tells(t, l, 5, 9, 9, 2)
	reads(t, l, 5, 9, 9)
	names(t, d, "L0 l l+1 l-1 l00 l01 l1000000000 l5 l8 lnew2 lx m")
	if s, _ := d.Read("l8"); s != text(8, 9) {
		t.Errorf("l8 is %q", s)
	}
	ok(t, "it goes on", l.Append(span(9)), l.Sync())
	tells(t, open(t, d), 5, 10, 10, 2)

	// What is there counts as sure as far as its bytes are safe.
	d = newDisk(t, 10000)
	d.Append("l0", text(0, 2))
	d.Sync("l0")
	d.Append("l0", text(2, 4))
	file(d, "l4", text(4, 5), true)
	l = open(t, d)
	tells(t, l, 0, 2, 5, 2)
	ok(t, "the last one's sync", l.Sync())
	tells(t, l, 0, 2, 5, 2)
	ok(t, "retain", l.Retain(1))
	tells(t, l, 4, 5, 5, 1)

	// A frame that is safe but for its last byte is not sure.
	d = newDisk(t, 10000)
	whole := text(0, 1)
	d.Append("l0", whole[:len(whole)-1])
	d.Sync("l0")
	d.Append("l0", whole[len(whole)-1:])
	tells(t, open(t, d), 0, 0, 1, 1)
	// Nothing but what is torn.
	d = newDisk(t, 10000)
	d.Append("l7", whole[:len(whole)-1])
	tells(t, open(t, d), 7, 7, 7, 1)
	if s, e := d.Read("l7"); s != "" || e != api.OK {
		t.Errorf("l7 is %q, %v", s, e)
	}
	// A segment that is full when it is opened: the next record goes to a new one.
	d = newDisk(t, 10000)
	d.Append("l0", text(0, 16))
	l = open(t, d)
	write(t, l, 16, 17)
	names(t, d, "l0 l16")
	tells(t, l, 0, 16, 17, 2)
}

func TestBroke(t *testing.T) {
	notASpan, _ := frames.Frame("not a span")
	for i, lay := range []func(d *disk.Disk){
		func(d *disk.Disk) { file(d, "l0", text(0, 1), true); file(d, "l2", text(2, 3), true) },
		func(d *disk.Disk) { file(d, "l0", text(0, 2), true); file(d, "l1", text(1, 3), true) },
		func(d *disk.Disk) { file(d, "l0", "", true); file(d, "l1", "", true) },
		func(d *disk.Disk) { file(d, "l0", text(0, 1)+"x", true); file(d, "l1", text(1, 2), true) },
		func(d *disk.Disk) { file(d, "l0", notASpan, true) },
		func(d *disk.Disk) { file(d, "l0", text(0, 1)+notASpan+"torn", true) },
		func(d *disk.Disk) { file(d, "l9", text(0, 1), true); file(d, "l10", notASpan, true) },
	} {
		d := newDisk(t, 1000)
		file(d, "lnew", "junk", false)
		lay(d)
		d.Fail(0, nil) // so that any change would be seen
		before := strings.Join(d.Names(), " ")
		if l, e := hostlog.Open(d); l != nil || e != api.ErrBroke {
			t.Errorf("%d: %v", i, e)
		}
		if names(t, d, before); !d.Up() {
			t.Errorf("%d: something was changed", i)
		}
	}
}

// Whatever bytes a segment has: they are a log's, or refused.
func TestAnyBytes(t *testing.T) {
	whole := text(0, 3)
	for i := range len(whole) {
		for _, c := range []byte{0, 2, 3, 128, 255, whole[i] + 1} {
			bent := whole[:i] + string([]byte{c}) + whole[i+1:]
			d := newDisk(t, 1000)
			d.Append("l0", bent)
			payloads, end := frames.Whole(bent)
			l, e := hostlog.Open(d)
			if e == api.ErrBroke {
				for _, p := range payloads {
					if _, bad := spans.Decode(p); bad != api.OK {
						e = api.OK
					}
				}
				if s, _ := d.Read("l0"); e != api.OK || s != bent {
					t.Errorf("%q is refused", bent)
				}
				continue
			}
			if s, _ := d.Read("l0"); e != api.OK || l.End() != len(payloads) || s != bent[:end] {
				t.Errorf("%q: %v, %q", bent, e, s)
			}
		}
	}
}

// By numbers, not by names as texts: l9 stands ahead of l10.
func TestByNumbers(t *testing.T) {
	d := newDisk(t, 10000)
	file(d, "l9", text(9, 10), true)
	file(d, "l10", text(10, 12), true)
	l := open(t, d)
	tells(t, l, 9, 12, 12, 2)
	reads(t, l, 9, 2, 11)
	ok(t, "retain", l.Retain(1))
	names(t, d, "l10")
}

// script does many things to a log, up to the first that fails; it tells how many records are sure, and there, and thrown away.
func script(d *disk.Disk, r *rand.Rand, first, sure, end int) (int, int, int, bool) {
	l, e := hostlog.Open(d)
	if e != api.OK {
		return first, sure, end, false
	}
	for range 60 {
		switch k := r.Intn(12); k {
		case 0, 1:
			e = l.Sync()
		case 2:
			e = l.Rotate()
		case 3:
			e = l.Retain(1 + r.Intn(3))
		default:
			if e = l.Append(span(l.End())); e == api.ErrFull {
				e = l.Retain(1)
			}
		}
		if e != api.OK {
			return first, sure, end + 1, false
		}
		if l.First() < first || l.Sure() < sure || l.Sure() > l.End() || l.First() > l.Sure() {
			return -1, -1, -1, false
		}
		first, sure, end = l.First(), l.Sure(), l.End()
	}
	return first, sure, end, true
}

// Wherever the disk fails, and whatever it keeps, what was sure stands at its number.
func TestCrashes(t *testing.T) {
	for seed := range int64(400) {
		r := rand.New(rand.NewSource(seed))
		d := newDisk(t, 4000)
		first, sure, end := 0, 0, 0
		for range 5 {
			keep := []int{}
			for range 6 {
				keep = append(keep, r.Intn(90)-10)
			}
			d.Fail(r.Intn(50), keep)
			up := false
			first, sure, end, up = script(d, r, first, sure, end)
			if first < 0 {
				t.Fatal(seed, "numbers fell")
			}
			if up && d.Up() {
				d.Crash(keep)
			}
			d.Start()
			l, e := hostlog.Open(d)
			if e != api.OK {
				t.Fatal(seed, e)
			}
			if l.Sure() < sure || l.End() > end || l.Sure() != l.End() || l.First() < first {
				t.Fatal(seed, l.First(), l.Sure(), l.End(), first, sure, end)
			}
			first, sure, end = l.First(), l.Sure(), l.End()
			reads(t, l, first, 1000, end)
		}
	}
}

func TestOwnMemory(t *testing.T) {
	l := open(t, newDisk(t, 1000))
	write(t, l, 0, 3)
	l.Sync()
	s, _, _ := l.Read(0, 3)
	slices.Reverse(s)
	reads(t, l, 0, 3, 3)
}
