package blocks_test

import (
	"math"
	"math/rand"
	"slices"
	"strings"
	"testing"

	"spoor/api"
	"spoor/blocks"
)

func cell(key string, seq int, value string) api.Cell {
	return api.Cell{Key: key, Seq: seq, Value: value}
}

var three = []api.Cell{cell("ab", 7, "x"), cell("ab", 3, ""), cell("ac", 0, "y")}

const threeBytes = "\x03\x00\x02ab\x07\x01x\x02\x00\x03\x00\x01\x01c\x00\x01y"

func TestCheck(t *testing.T) {
	for _, c := range []api.Cell{cell("a", 0, ""), cell(strings.Repeat("\x00", 64), math.MaxInt, strings.Repeat("v", 128))} {
		if e := blocks.Check(c); e != api.OK {
			t.Error(c, e)
		}
	}
	for _, c := range []api.Cell{{}, cell("", 1, "v"), cell(strings.Repeat("k", 65), 1, ""), cell("a", -1, ""), cell("a", math.MinInt, ""), cell("a", 1, strings.Repeat("v", 129))} {
		if e := blocks.Check(c); e != api.ErrArg {
			t.Error(c, e)
		}
		if blocks.Sorted([]api.Cell{c}) {
			t.Error(c, "is sorted")
		}
		if s, e := blocks.Encode([]api.Cell{cell("A", 1, ""), c}); s != "" || e != api.ErrArg {
			t.Errorf("%v: %q %v", c, s, e)
		}
	}
}

func TestEncode(t *testing.T) {
	if s, e := blocks.Encode(three); s != threeBytes || e != api.OK {
		t.Errorf("%q %v", s, e)
	}
	for _, none := range [][]api.Cell{nil, {}} {
		if s, e := blocks.Encode(none); s != "\x00" || e != api.OK || !blocks.Sorted(none) {
			t.Errorf("%q %v", s, e)
		}
	}
	for _, l := range [][]api.Cell{
		{cell("ab", 3, ""), cell("ab", 7, "")}, {cell("ab", 7, ""), cell("ab", 7, "")}, {cell("ab", 7, "x"), cell("ab", 7, "y")},
		{cell("b", 1, ""), cell("a", 1, "")}, {cell("ab", 1, ""), cell("a", 1, "")}, {cell("a", 1, ""), cell("b", 1, ""), cell("b", 2, "")}, {cell("", 1, "")},
	} {
		if s, e := blocks.Encode(l); s != "" || e != api.ErrArg || blocks.Sorted(l) {
			t.Errorf("%v: %q %v", l, s, e)
		}
	}
}

func TestDecode(t *testing.T) {
	if l, e := blocks.Decode("\x01\x00\x01a\x05\x00"); !slices.Equal(l, []api.Cell{cell("a", 5, "")}) || e != api.OK {
		t.Error(l, e)
	}
	if l, e := blocks.Decode("\x00"); len(l) != 0 || e != api.OK {
		t.Error(l, e)
	}
	bad := []string{"", "\x00\x00", threeBytes + "\x00", "\x02" + threeBytes[1:], "\x04" + threeBytes[1:], "\x80\x03" + threeBytes[1:],
		"\x02\x00\x02ab\x05\x00\x00\x02ac\x04\x00", // it leaves out less than it can
		"\x02\x00\x02ab\x05\x00\x03\x01c\x04\x00",  // more than there is
		"\x01\x01\x01a\x05\x00", "\x01\x00\x00\x05\x00",
		"\x02\x00\x01a\x05\x00\x01\x00\x05\x00", // twice the same
		"\x02\x00\x01b\x05\x00\x00\x01a\x05\x00",
		"\x02\x00\x01a\x05\x00\x01\x00\x06\x00",
		"\x01\x00\x41" + strings.Repeat("k", 65) + "\x05\x00",
		"\x01\x00\x01a\x05\x81\x01" + strings.Repeat("v", 129),
		"\xff\xff\xff\xff\xff\xff\xff\xff\x7f\x00\x01a\x05\x00",
	}
	for i := range threeBytes {
		bad = append(bad, threeBytes[:i])
	}
	for _, s := range bad {
		if l, e := blocks.Decode(s); len(l) != 0 || e != api.ErrForm {
			t.Errorf("%q: %v %v", s, l, e)
		}
		if c, ok := blocks.Find(s, "ab"); ok || c != (api.Cell{}) {
			t.Errorf("in %q ab is found", s)
		}
	}
	for i := range threeBytes {
		for c := range 256 {
			s := threeBytes[:i] + string([]byte{byte(c)}) + threeBytes[i+1:]
			l, e := blocks.Decode(s)
			if back, f := blocks.Encode(l); e == api.OK && (back != s || f != api.OK) {
				t.Errorf("%q came back as %q, %v", s, back, f)
			}
		}
	}
}

func TestFind(t *testing.T) {
	for key, want := range map[string]api.Cell{"ab": three[0], "ac": three[2], "b": {}, "": {}, "a": {}, "abc": {}} {
		if c, ok := blocks.Find(threeBytes, key); c != want || ok != (want.Key != "") {
			t.Errorf("%s: %v %v", key, c, ok)
		}
	}
}

// lists are sorted cells, of few keys that have much in common.
func lists() [][]api.Cell {
	r := rand.New(rand.NewSource(1))
	ls := [][]api.Cell{}
	for range 200 {
		l := []api.Cell{}
		for range r.Intn(12) {
			key := "k" + strings.Repeat("a", r.Intn(4)) + strings.Repeat("\xff", r.Intn(3))
			l = append(l, cell(key, r.Intn(300), strings.Repeat("v", r.Intn(129))))
		}
		slices.SortFunc(l, func(a, b api.Cell) int {
			if a.Key != b.Key {
				return strings.Compare(a.Key, b.Key)
			}
			return b.Seq - a.Seq
		})
		l = slices.CompactFunc(l, func(a, b api.Cell) bool { return a.Key == b.Key && a.Seq == b.Seq })
		ls = append(ls, l)
	}
	return ls
}

func TestThereAndBack(t *testing.T) {
	for _, l := range lists() {
		s, e := blocks.Encode(l)
		if e != api.OK || !blocks.Sorted(l) {
			t.Fatal(l, e)
		}
		back, e := blocks.Decode(s)
		if !slices.Equal(back, l) || e != api.OK {
			t.Fatal(l, back, e)
		}
		for _, c := range l {
			i := slices.IndexFunc(l, func(x api.Cell) bool { return x.Key == c.Key })
			if got, ok := blocks.Find(s, c.Key); got != l[i] || !ok {
				t.Fatal(c.Key, got, ok)
			}
		}
		if len(l) > 1 {
			l[0], l[1] = l[1], l[0]
			if blocks.Sorted(l) {
				t.Fatal(l)
			}
		}
	}
}
