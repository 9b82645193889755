package files_test

import (
	"slices"
	"testing"

	"spoor/api"
	"spoor/disk"
	"spoor/files"
)

func TestNumber(t *testing.T) {
	for name, want := range map[string]int{"j0": 0, "j7": 7, "j10": 10, "j99": 99, "j100": -1, "j07": -1, "j": -1, "j+7": -1, "j-0": -1, "k7": -1, "7": -1, "j7x": -1} {
		n, ok := files.Number(name, "j", 0, 99)
		if ok != (want >= 0) || ok && n != want || !ok && n != 0 {
			t.Errorf("%s: %d %v", name, n, ok)
		}
	}
	if _, ok := files.Number("j4", "j", 5, 9); ok {
		t.Error("below the least")
	}
}

func TestDrafts(t *testing.T) {
	d, _ := disk.New(100)
	for _, n := range []string{"j10", "j9", "j1", "x", "j+"} {
		d.Append(n, "old")
	}
	if l := files.Numbers(d, "j", 2, 50); !slices.Equal(l, []int{9, 10}) {
		t.Error(l)
	}
	if e := files.Renew(d, "j+", "j9", "new"); e != api.OK || !slices.Equal(d.Names(), []string{"j1", "j10", "j9", "x"}) {
		t.Error(e, d.Names())
	}
	if s, _ := d.Read("j9"); s != "new" || d.Synced("j9") != 3 {
		t.Error(s)
	}
	d.Fail(1, nil)
	if e := files.Clear(d, func(n string) bool { return n != "j10" }); e != api.ErrDown || !slices.Equal(d.Names(), []string{"j10", "j9", "x"}) {
		t.Error(e, d.Names())
	}
}

func TestHold(t *testing.T) {
	d, _ := disk.New(100)
	for _, told := range []api.Errno{api.OK, api.ErrFull, api.ErrNone} {
		h := files.On(d)
		calls := 0
		act := func() api.Errno { calls++; return told }
		if e := h.Do(act, act); e != told || (calls == 1) == (told == api.OK) {
			t.Error(told, e, calls)
		}
		if (h.State() == api.ErrDown) != (told == api.ErrNone) {
			t.Error(told, h.State())
		}
	}
	h := files.On(d)
	d.Crash(nil)
	d.Start()
	if h.State() != api.ErrDown || new(files.Hold).State() != api.ErrNil || files.State(d) != api.OK || files.State(nil) != api.ErrNil {
		t.Error("states")
	}
}
