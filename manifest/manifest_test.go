package manifest_test

import (
	"fmt"
	"math/rand"
	"slices"
	"strings"
	"testing"

	"spoor/api"
	"spoor/disk"
	"spoor/edits"
	"spoor/frames"
	"spoor/manifest"
)

func table(at, file int) api.Edit          { return api.Edit{Kind: api.EdTable, At: at, File: file} }
func split(at int, key string) api.Edit    { return api.Edit{Kind: api.EdSplit, At: at, Key: key} }
func says(m *manifest.Manifest) string     { return fmt.Sprint(m.State()) }
func frame(b string) string                { f, _ := frames.Frame(b); return f }
func ofEdits(l ...api.Edit) string         { return frame(edits.Encode(l)) }
func ofState(s api.State) string           { b, _ := edits.EncodeState(s); return frame(b) }
func content(d *disk.Disk) string          { s, _ := d.Read("m"); return s }
func after(l ...api.Edit) api.State        { s, _ := edits.All(edits.First(), l); return s }
func named(d *disk.Disk, l ...string) bool { return slices.Equal(d.Names(), l) }

func newDisk(t *testing.T, capacity int) *disk.Disk {
	t.Helper()
	d, e := disk.New(capacity)
	if e != api.OK {
		t.Fatal(e)
	}
	return d
}

func open(t *testing.T, d *disk.Disk, want api.State) *manifest.Manifest {
	t.Helper()
	m, e := manifest.Open(d)
	if e != api.OK || m == nil {
		t.Fatal(e)
	}
	if says(m) != fmt.Sprint(want) {
		t.Errorf("it says %s, not %v", says(m), want)
	}
	return m
}

func TestExamples(t *testing.T) {
	d := newDisk(t, 10000)
	m := open(t, d, edits.First())
	if content(d) != ofState(edits.First()) || d.Synced("m") != len(content(d)) || !named(d, "m") {
		t.Errorf("%q %v", content(d), d.Names())
	}
	l := []api.Edit{table(0, 5), split(0, "m")}
	if e := m.Do(l); e != api.OK || says(m) != fmt.Sprint(after(l...)) {
		t.Error(e, says(m))
	}
	if content(d) != ofState(edits.First())+ofEdits(l...) || d.Synced("m") != len(content(d)) {
		t.Errorf("%q", content(d))
	}
	d.Crash(nil)
	d.Start()
	m = open(t, d, after(l...))
	if e := m.Do([]api.Edit{table(0, 5)}); e != api.ErrArg || says(m) != fmt.Sprint(after(l...)) {
		t.Error(e, says(m))
	}
}

func TestNone(t *testing.T) {
	for _, m := range []*manifest.Manifest{nil, {}} {
		if m.Do(nil) != api.ErrNil || m.Anew() != api.ErrNil || says(m) != fmt.Sprint(api.State{}) {
			t.Error("none does something")
		}
	}
	down := newDisk(t, 10)
	down.Crash(nil)
	for _, x := range []struct {
		d    *disk.Disk
		want api.Errno
	}{{nil, api.ErrNil}, {new(disk.Disk), api.ErrNil}, {down, api.ErrDown}, {newDisk(t, 5), api.ErrFull}} {
		if m, e := manifest.Open(x.d); m != nil || e != x.want {
			t.Error(e, x.want)
		}
	}
}

func TestOver(t *testing.T) {
	for i := range 3 {
		d := newDisk(t, 1000)
		m := open(t, d, edits.First())
		switch i {
		case 0:
			d.Crash(nil)
		case 1:
			d.Crash(nil)
			d.Start()
		case 2: // an error of the disk but ErrFull
			d.Remove("m")
			if e := m.Do([]api.Edit{table(0, 5)}); e == api.OK {
				d.Crash(nil)
			}
		}
		if m.Do(nil) != api.ErrDown || m.Do([]api.Edit{table(0, 1)}) != api.ErrDown || m.Anew() != api.ErrDown {
			t.Error(i, "it is not over")
		}
	}
}

func TestOpenWhatIsThere(t *testing.T) {
	first := ofState(edits.First())
	two := first + ofEdits(table(0, 5)) + ofEdits() + ofEdits(table(0, 6), split(0, "m"))
	want := after(table(0, 5), table(0, 6), split(0, "m"))
	d := newDisk(t, 10000)
	d.Append("m", two)
	d.Append("m+", "left")
	open(t, d, want)
	if content(d) != two || !named(d, "m", "m+") {
		t.Error("what is whole is changed", d.Names())
	}
	for _, torn := range []string{"x", ofEdits(table(0, 7))[:9], "\x02"} {
		d := newDisk(t, 10000)
		d.Append("m", two+torn)
		d.Append("m+", "left")
		open(t, d, want)
		if content(d) != ofState(want) || !named(d, "m") || d.Synced("m") != len(content(d)) {
			t.Errorf("%q: %q", torn, content(d))
		}
	}
	for _, b := range []string{"", "x", first[:len(first)-1], ofEdits(), frame("junk"), first + frame("junk"), first + ofEdits(table(0, 1)), first + ofEdits(table(0, 5)) + ofEdits(table(0, 5)), first + first, frame("")} {
		d := newDisk(t, 10000)
		d.Append("m", b)
		if m, e := manifest.Open(d); m != nil || e != api.ErrBroke || content(d) != b {
			t.Errorf("%q: %v", b, e)
		}
	}
}

func TestDo(t *testing.T) {
	d := newDisk(t, 100000)
	m := open(t, d, edits.First())
	before := content(d)
	if m.Do(nil) != api.OK || m.Do([]api.Edit{}) != api.OK || content(d) != before {
		t.Error("no edits do something")
	}
	for _, l := range [][]api.Edit{{table(0, 1)}, {table(0, 5), table(0, 5)}, {{Kind: 9}}} {
		if e := m.Do(l); e != api.ErrArg || content(d) != before {
			t.Error(l, e)
		}
	}
	// More than a frame takes: each edit is one that may be done.
	huge := []api.Edit{}
	for i := range 4000 {
		huge = append(huge, api.Edit{Kind: api.EdLog, File: 100 + i})
	}
	if e := m.Do(huge); e != api.ErrLong || says(m) != fmt.Sprint(edits.First()) || content(d) != before {
		t.Error(e)
	}
	// From 2000 bytes on it is written anew first.
	n := 0
	for file := 5; n < 3; file++ {
		old, state := content(d), m.State()
		l := []api.Edit{{Kind: api.EdLog, File: file}}
		if e := m.Do(l); e != api.OK {
			t.Fatal(e)
		}
		want := old + ofEdits(l...)
		if len(old) >= 2000 {
			want = ofState(state) + ofEdits(l...)
			n++
		}
		if content(d) != want {
			t.Fatalf("behind %d bytes: %d", len(old), len(content(d)))
		}
		if d.Synced("m") != len(want) || !named(d, "m") {
			t.Fatal(d.Names())
		}
	}
	if e := m.Anew(); e != api.OK || content(d) != ofState(m.State()) {
		t.Error(e)
	}
	open(t, d, m.State())
}

// It is from 2000 bytes on that the file is written anew, ahead of what is done.
func TestLong(t *testing.T) {
	for size, anew := range map[int]bool{1999: false, 2000: true, 2001: true} {
		first := ofState(edits.First())
		filling := func(n int) string { return ofEdits(api.Edit{Kind: api.EdLog, File: 5, Key: strings.Repeat("k", n)}) }
		text := first + filling(size-len(first)-len(filling(200))+200)
		if len(text) != size {
			t.Fatal(len(text))
		}
		d := newDisk(t, 10000)
		d.Append("m", text)
		m := open(t, d, after(api.Edit{Kind: api.EdLog, File: 5}))
		want := text
		if anew {
			want = ofState(m.State())
		}
		want += ofEdits(table(0, 9))
		if e := m.Do([]api.Edit{table(0, 9)}); e != api.OK || content(d) != want {
			t.Errorf("behind %d bytes: %v, %d bytes", size, e, len(content(d)))
		}
	}
}

func TestFull(t *testing.T) {
	d := newDisk(t, 100)
	m := open(t, d, edits.First())
	d.Append("x", strings.Repeat("x", 100-d.Size()-3))
	if m.Do([]api.Edit{table(0, 5)}) != api.ErrFull || m.Anew() != api.ErrFull || says(m) != fmt.Sprint(edits.First()) {
		t.Error("not full")
	}
	d.Remove("x")
	if e := m.Do([]api.Edit{table(0, 5)}); e != api.OK {
		t.Error(e)
	}
	open(t, d, after(table(0, 5)))
}

// A long file that finds no room to be written anew lets nothing be done, though the edits would find theirs.
func TestLongAndFull(t *testing.T) {
	d := newDisk(t, 3000)
	m := open(t, d, edits.First())
	key := strings.Repeat("k", 60)
	if e := m.Do([]api.Edit{split(0, key), {Kind: api.EdLog, File: 5, Key: strings.Repeat("k", 2000)}}); e != api.OK {
		t.Fatal(e)
	}
	before, l := content(d), []api.Edit{{Kind: api.EdSwap}}
	d.Append("x", strings.Repeat("x", 3000-d.Size()-len(ofEdits(l...))))
	if len(ofEdits(l...)) >= len(ofState(m.State())) {
		t.Fatal("there is room for both")
	}
	if e := m.Do(l); e != api.ErrFull || content(d) != before {
		t.Error(e)
	}
	d.Remove("x")
	if e := m.Do(l); e != api.OK || content(d) == before {
		t.Error(e)
	}
}

func TestOwnMemory(t *testing.T) {
	m := open(t, newDisk(t, 1000), edits.First())
	l := []api.Edit{{Kind: api.EdSwap, Files: []int{5}}}
	m.Do(l)
	l[0].Files[0] = 9
	s := m.State()
	s.Tablets[0].Tables[0] = 7
	s.Tablets[0].From = "q"
	if got := m.State(); got.Tablets[0].Tables[0] != 5 || got.Tablets[0].From != "" {
		t.Error(got)
	}
}

// Wherever the disk fails, and whatever it keeps, the state is the old one or the new one.
func TestCrashes(t *testing.T) {
	for seed := range int64(500) {
		r := rand.New(rand.NewSource(seed))
		d := newDisk(t, 10000)
		m := open(t, d, edits.First())
		state := edits.First()
		for range 4 {
			keep := []int{r.Intn(40) - 5, r.Intn(40) - 5}
			d.Fail(r.Intn(30), keep)
			maybe := state
			for d.Up() {
				l := []api.Edit{table(0, state.Next+r.Intn(3))}
				if r.Intn(2) == 0 {
					l = append(l, api.Edit{Kind: api.EdLog, File: state.Next + 5}, api.Edit{Kind: api.EdSwap})
				}
				next, _ := edits.All(state, l)
				e := api.OK
				if r.Intn(9) == 0 {
					e, next = m.Anew(), state
				} else {
					e = m.Do(l)
				}
				if e == api.OK {
					state = next
				} else if maybe = next; e != api.ErrDown {
					t.Fatal(seed, e)
				}
			}
			d.Start()
			var e api.Errno
			if m, e = manifest.Open(d); e != api.OK {
				t.Fatal(seed, e)
			}
			if got := says(m); got != fmt.Sprint(state) && got != fmt.Sprint(maybe) {
				t.Fatal(seed, got, state, maybe)
			}
			state = m.State()
		}
	}
}
