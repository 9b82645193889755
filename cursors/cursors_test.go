package cursors_test

import (
	"math"
	"slices"
	"strings"
	"testing"

	"spoor/api"
	"spoor/cursors"
	"spoor/disk"
	"spoor/ints"
)

func at(next, gap int) api.Cursor { return api.Cursor{Next: next, Gap: gap} }

func newDisk(t *testing.T, capacity int) *disk.Disk {
	t.Helper()
	d, e := disk.New(capacity)
	if e != api.OK {
		t.Fatal(e)
	}
	return d
}

func loads(t *testing.T, d *disk.Disk, want api.Cursor) {
	t.Helper()
	if c, e := cursors.Load(d); c != want || e != api.OK {
		t.Errorf("%v %v, not %v", c, e, want)
	}
}

var wrong = []api.Cursor{at(-1, 0), at(0, -1), at(api.MaxID+1, 0), at(0, api.MaxID+1), at(math.MaxInt, 0), at(0, math.MinInt)}

func TestBytes(t *testing.T) {
	if s, e := cursors.Encode(at(300, 2)); s != "C\x82\x2c\x02" || e != api.OK {
		t.Errorf("%q %v", s, e)
	}
	for _, c := range []api.Cursor{{}, at(300, 2), at(api.MaxID, api.MaxID), at(0, 128)} {
		s, e := cursors.Encode(c)
		if back, f := cursors.Decode(s); back != c || e != api.OK || f != api.OK {
			t.Error(c, back, e, f)
		}
		for i := range s {
			if back, e := cursors.Decode(s[:i]); back != (api.Cursor{}) || e != api.ErrForm {
				t.Errorf("%q: %v %v", s[:i], back, e)
			}
		}
	}
	for _, c := range wrong {
		if s, e := cursors.Encode(c); s != "" || e != api.ErrArg {
			t.Errorf("%v: %q %v", c, s, e)
		}
	}
	for _, s := range []string{"", "C", "D\x01\x02", "c\x01\x02", "C\x01\x02\x03", "\x01\x02", "CC\x01\x02", "C\x80\x01\x02", "C\x01\x80\x02", "C" + ints.Put(api.MaxID+1) + "\x00", "C\x00" + ints.Put(math.MaxInt)} {
		if c, e := cursors.Decode(s); c != (api.Cursor{}) || e != api.ErrForm {
			t.Errorf("%q: %v %v", s, c, e)
		}
	}
}

func TestExamples(t *testing.T) {
	d := newDisk(t, 100)
	loads(t, d, at(0, 0))
	if e := cursors.Save(d, at(3, 0)); e != api.OK {
		t.Error(e)
	}
	loads(t, d, at(3, 0))
	if !slices.Equal(d.Names(), []string{"cursor"}) || d.Synced("cursor") != 3 {
		t.Error(d.Names())
	}
	for _, s := range []string{"D", "", "C\x01"} {
		d := newDisk(t, 100)
		d.Append("cursor", s)
		if c, e := cursors.Load(d); c != (api.Cursor{}) || e != api.ErrBroke {
			t.Errorf("%q: %v %v", s, c, e)
		}
	}
}

func TestErrors(t *testing.T) {
	d := newDisk(t, 100)
	d.Append("cursor+", "draft")
	d.Fail(0, nil)
	for _, c := range wrong {
		if e := cursors.Save(d, c); e != api.ErrArg || !d.Up() {
			t.Error(c, e)
		}
	}
	for _, x := range []struct {
		d    *disk.Disk
		want api.Errno
	}{{nil, api.ErrNil}, {new(disk.Disk), api.ErrNil}, {newDisk(t, 5), api.ErrDown}} {
		x.d.Crash(nil)
		if e := cursors.Save(x.d, at(-1, 0)); e != x.want {
			t.Error("Save", e, x.want)
		}
		if c, e := cursors.Load(x.d); c != (api.Cursor{}) || e != x.want {
			t.Error("Load", c, e, x.want)
		}
	}
	d = newDisk(t, 5)
	d.Append("x", "1")
	if e := cursors.Save(d, at(1, 1)); e != api.OK {
		t.Error(e)
	}
	if e := cursors.Save(d, at(2, 2)); e != api.ErrFull {
		t.Error(e)
	}
	loads(t, d, at(1, 1))
}

// Wherever the disk fails, and whatever it keeps, the cursor is that of before, or the new one.
func TestCrashes(t *testing.T) {
	for n := range 6 {
		for keep := range 5 {
			for _, draft := range []string{"", "junk"} {
				d := newDisk(t, 100)
				d.Append("other", "file")
				cursors.Save(d, at(200, 1))
				if draft != "" {
					d.Append("cursor+", draft)
				}
				d.Fail(n, []int{keep, keep, keep})
				e := cursors.Save(d, at(300, 2))
				acts := 3 + strings.Count(draft, "junk")
				if (e == api.OK) != (n >= acts) || e != api.OK && e != api.ErrDown {
					t.Errorf("fails behind %d: %v", n, e)
				}
				if e == api.OK {
					d.Crash([]int{keep, keep, keep})
				}
				d.Start()
				want := at(200, 1)
				if e == api.OK {
					want = at(300, 2)
				}
				loads(t, d, want)
				// What is left of a draft makes no difference.
				if e := cursors.Save(d, at(400, 3)); e != api.OK {
					t.Error(e)
				}
				loads(t, d, at(400, 3))
				if !slices.Equal(d.Names(), []string{"cursor", "other"}) {
					t.Error(d.Names())
				}
			}
		}
	}
}
