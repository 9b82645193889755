package disk_test

import (
	"math"
	"math/rand"
	"slices"
	"strconv"
	"strings"
	"testing"

	"spoor/api"
	"spoor/disk"
)

func open(t *testing.T, capacity int) *disk.Disk {
	t.Helper()
	d, e := disk.New(capacity)
	if e != api.OK || d == nil {
		t.Fatal(e)
	}
	return d
}

// want holds errors, one behind the other, against those that there should be.
func want(t *testing.T, what string, got, should []api.Errno) {
	t.Helper()
	if !slices.Equal(got, should) {
		t.Errorf("%s: %v, not %v", what, got, should)
	}
}

func read(t *testing.T, d *disk.Disk, name, should string) {
	t.Helper()
	if s, e := d.Read(name); s != should || e != api.OK {
		t.Errorf("%s is %q, %v, not %q", name, s, e, should)
	}
}

func TestNew(t *testing.T) {
	for _, n := range []int{0, -1, 1<<20 + 1, math.MaxInt, math.MinInt} {
		if d, e := disk.New(n); d != nil || e != api.ErrArg {
			t.Errorf("New(%d): %v", n, e)
		}
	}
	for _, n := range []int{1, 1 << 20} {
		d := open(t, n)
		if !d.Up() || d.Starts() != 0 || d.Size() != 0 || len(d.Names()) != 0 || len(d.Unsynced()) != 0 {
			t.Errorf("New(%d) is not an empty one that runs", n)
		}
	}
}

func TestNone(t *testing.T) {
	for _, d := range []*disk.Disk{nil, {}} {
		_, read := d.Read("")
		want(t, "of none", []api.Errno{d.Append("", ""), d.Sync(""), d.Rename("", ""), d.Remove("a"), read, d.Crash(nil), d.Fail(-1, nil), d.Start()},
			slices.Repeat([]api.Errno{api.ErrNil}, 8))
		if d.Synced("a") != 0 || len(d.Names()) != 0 || d.Size() != 0 || len(d.Unsynced()) != 0 || d.Up() || d.Starts() != 0 {
			t.Error("none tells something")
		}
	}
}

func TestExamples(t *testing.T) {
	d := open(t, 10)
	want(t, "first", []api.Errno{d.Append("b", "xyz"), d.Sync("b"), d.Append("b", "uv"), d.Append("a", "12345"), d.Append("c", "6")}, []api.Errno{0, 0, 0, 0, api.ErrFull})
	if !slices.Equal(d.Names(), []string{"a", "b"}) || d.Size() != 10 || !slices.Equal(d.Unsynced(), []int{5, 2}) || d.Synced("b") != 3 {
		t.Error(d.Names(), d.Size(), d.Unsynced(), d.Synced("b"))
	}
	want(t, "crash", []api.Errno{d.Crash([]int{2, 1})}, []api.Errno{0})
	if d.Size() != 6 || d.Up() {
		t.Error(d.Size(), d.Up())
	}
	want(t, "start", []api.Errno{d.Start()}, []api.Errno{0})
	read(t, d, "b", "xyzu")
	if !slices.Equal(d.Unsynced(), []int{0, 0}) || d.Starts() != 1 {
		t.Error(d.Unsynced(), d.Starts())
	}
	want(t, "fail", []api.Errno{d.Fail(1, []int{0, 9}), d.Append("b", "q"), d.Rename("b", "a"), d.Start()}, []api.Errno{0, 0, api.ErrDown, 0})
	if !slices.Equal(d.Names(), []string{"a", "b"}) {
		t.Error(d.Names())
	}
	read(t, d, "b", "xyzuq")
}

func TestErrors(t *testing.T) {
	d := open(t, 5)
	long := strings.Repeat("n", 17)
	want(t, "running", []api.Errno{
		d.Append("", "x"), d.Append(long, "x"), d.Append("", "too long a text"), d.Append("a", "123456"), d.Append(long[:16], "12345"), d.Append("a", ""), d.Append("a", "x"),
		d.Sync("b"), d.Sync(""), d.Rename("b", ""), d.Rename("a", ""), d.Rename("a", long), d.Remove("b"), d.Fail(-1, nil), d.Start(),
	}, []api.Errno{2, 2, 2, 50, 0, 0, 50, 4, 4, 4, 2, 2, 4, 2, 2})
	if s, e := d.Read("b"); s != "" || e != api.ErrNone {
		t.Error(s, e)
	}
	if d.Synced("b") != 0 {
		t.Error("no file is safe")
	}
	d.Crash(nil)
	_, e := d.Read("a")
	want(t, "down", []api.Errno{d.Append("", ""), d.Sync("b"), d.Rename("b", ""), d.Remove("b"), e, d.Crash(nil), d.Fail(-1, nil)}, slices.Repeat([]api.Errno{api.ErrDown}, 7))
	if !slices.Equal(d.Names(), []string{"a", long[:16]}) || d.Up() {
		t.Error("down, too, it has names", d.Names())
	}
}

func TestFiles(t *testing.T) {
	d := open(t, 2000)
	for i := range api.MaxFiles {
		if e := d.Append("f"+strconv.Itoa(i), ""); e != api.OK {
			t.Fatal(i, e)
		}
	}
	want(t, "one more", []api.Errno{d.Append("g", ""), d.Append("f7", "x"), d.Remove("f8"), d.Append("g", ""), d.Append("h", "")}, []api.Errno{50, 0, 0, 0, 50})
}

func TestRename(t *testing.T) {
	d := open(t, 8)
	d.Append("a", "12")
	d.Sync("a")
	d.Append("a", "3")
	d.Append("b", "vwxyz")
	want(t, "onto itself", []api.Errno{d.Rename("a", "a")}, []api.Errno{0})
	read(t, d, "a", "123")
	want(t, "onto another one", []api.Errno{d.Rename("a", "b"), d.Append("c", "45678"), d.Append("c", "9")}, []api.Errno{0, 0, 50})
	read(t, d, "b", "123")
	if d.Synced("b") != 2 || d.Synced("a") != 0 || d.Size() != 8 || !slices.Equal(d.Names(), []string{"b", "c"}) {
		t.Error(d.Synced("b"), d.Size(), d.Names())
	}
}

// A crash that is set comes with just that change: an Append is made ahead of it, nothing else is.
func TestFail(t *testing.T) {
	change := map[string]func(d *disk.Disk) api.Errno{
		"append": func(d *disk.Disk) api.Errno { return d.Append("a", "zz") },
		"new":    func(d *disk.Disk) api.Errno { return d.Append("n", "zz") },
		"sync":   func(d *disk.Disk) api.Errno { return d.Sync("a") },
		"rename": func(d *disk.Disk) api.Errno { return d.Rename("a", "b") },
		"itself": func(d *disk.Disk) api.Errno { return d.Rename("a", "a") },
		"remove": func(d *disk.Disk) api.Errno { return d.Remove("a") },
	}
	left := map[string]string{"append": "xyzzz", "new": "xyz", "sync": "xyz", "rename": "xyz", "itself": "xyz", "remove": "xyz"}
	for name, do := range change {
		for n := range 3 {
			d := open(t, 100)
			d.Append("a", "x")
			d.Sync("a")
			d.Append("a", "yz")
			keep := []int{9, 1, 9}
			want(t, name, []api.Errno{d.Fail(0, nil), d.Fail(n, keep)}, []api.Errno{0, 0})
			keep[0] = 0 // what was handed in is not kept
			for range n {
				// What is refused, or only read, is no change.
				d.Read("a")
				want(t, name, []api.Errno{d.Append("", ""), d.Sync("none"), d.Rename("a", ""), d.Remove("none"), d.Rename("a", "a")}, []api.Errno{2, 4, 2, 4, 0})
			}
			if e := do(d); e != api.ErrDown || d.Up() {
				t.Errorf("%s behind %d: %v", name, n, e)
			}
			d.Start()
			read(t, d, "a", left[name])
			if s, e := d.Read("b"); e != api.ErrNone {
				t.Errorf("%s behind %d: b is %q", name, n, s)
			}
			if s, _ := d.Read("n"); name == "new" && s != "z" {
				t.Errorf("behind %d: n is %q", n, s)
			}
			// It has ended.
			want(t, name, []api.Errno{d.Append("c", "1"), d.Sync("c")}, []api.Errno{0, 0})
		}
	}
	d := open(t, 10)
	d.Fail(0, nil)
	want(t, "a crash ends it", []api.Errno{d.Crash(nil), d.Start(), d.Append("a", "1"), d.Fail(0, nil), d.Fail(math.MaxInt, nil), d.Append("a", "2")}, []api.Errno{0, 0, 0, 0, 0, 0})
}

func TestOwnMemory(t *testing.T) {
	d := open(t, 100)
	d.Append("a", "123")
	d.Append("b", "4")
	l, u := d.Names(), d.Unsynced()
	l[0], u[0] = "q", 77
	if !slices.Equal(d.Names(), []string{"a", "b"}) || !slices.Equal(d.Unsynced(), []int{3, 1}) {
		t.Error("what is handed out is the disk's own")
	}
}

func TestStarts(t *testing.T) {
	d := open(t, 10)
	for i := range 3 {
		if d.Starts() != i || !d.Up() {
			t.Error(d.Starts(), d.Up())
		}
		d.Crash(nil)
		if d.Starts() != i || d.Up() {
			t.Error(d.Starts(), d.Up())
		}
		d.Start()
	}
}

// plain is what a disk should hold.
type plain struct {
	text map[string]string
	safe map[string]int
}

func (p plain) names() []string {
	l := []string{}
	for n := range p.text {
		l = append(l, n)
	}
	slices.Sort(l)
	return l
}

func (p plain) crash(keep []int) {
	for i, n := range p.names() {
		k := 0
		if i < len(keep) && keep[i] > 0 {
			k = min(keep[i], len(p.text[n])-p.safe[n])
		}
		p.text[n] = p.text[n][:p.safe[n]+k]
		p.safe[n] = len(p.text[n])
	}
}

func TestScripts(t *testing.T) {
	for seed := range int64(60) {
		r := rand.New(rand.NewSource(seed))
		d := open(t, 400)
		p := plain{map[string]string{}, map[string]int{}}
		due, armed, kept := 0, false, []int(nil)
		for range 300 {
			name, to := string(rune('a'+r.Intn(5))), string(rune('a'+r.Intn(5)))
			_, there := p.text[name]
			fails := armed && due == 0
			var e api.Errno
			var done bool
			switch r.Intn(9) {
			case 0, 1, 2:
				s := strings.Repeat(to, r.Intn(12))
				e = d.Append(name, s)
				if e == api.OK || fails && e == api.ErrDown {
					p.text[name] += s
					done = true
				}
			case 3, 4:
				if e = d.Sync(name); e == api.OK {
					p.safe[name], done = len(p.text[name]), true
				}
				done = done || there
			case 5:
				if e = d.Rename(name, to); e == api.OK && name != to {
					p.text[to], p.safe[to] = p.text[name], p.safe[name]
					delete(p.text, name)
					delete(p.safe, name)
				}
				done = there
			case 6:
				if e = d.Remove(name); e == api.OK {
					delete(p.text, name)
					delete(p.safe, name)
				}
				done = there
			case 7:
				if r.Intn(4) == 0 {
					due, armed, kept = r.Intn(4), true, []int{r.Intn(9) - 2, r.Intn(9), r.Intn(9)}
					if d.Fail(due, kept) != api.OK {
						t.Fatal("Fail")
					}
				}
			case 8:
				if r.Intn(4) == 0 {
					k := []int{r.Intn(9), r.Intn(9)}
					if d.Crash(k) != api.OK || d.Start() != api.OK {
						t.Fatal("Crash")
					}
					p.crash(k)
					armed = false
				}
			}
			if done && armed {
				if fails {
					if e != api.ErrDown || d.Up() || d.Start() != api.OK {
						t.Fatal("no crash", e)
					}
					p.crash(kept)
					armed = false
				}
				due--
			}
			size, loose := 0, []int{}
			for _, n := range p.names() {
				size += len(p.text[n])
				loose = append(loose, len(p.text[n])-p.safe[n])
				read(t, d, n, p.text[n])
				if d.Synced(n) != p.safe[n] {
					t.Fatalf("%s: %d are safe, not %d", n, d.Synced(n), p.safe[n])
				}
			}
			if !slices.Equal(d.Names(), p.names()) || d.Size() != size || !slices.Equal(d.Unsynced(), loose) {
				t.Fatal(d.Names(), p.names(), d.Size(), size)
			}
		}
	}
}
