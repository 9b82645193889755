package ints_test

import (
	"math"
	"strings"
	"testing"

	"spoor/ints"
)

// numbers are edges: around each power of 2, and the greatest int.
func numbers() []int {
	l := []int{0, 1, 5, 300, 1000003, math.MaxInt, math.MaxInt - 1}
	for i := range 63 {
		l = append(l, 1<<i-1, 1<<i, 1<<i+1)
	}
	return l
}

func TestPut(t *testing.T) {
	for _, x := range []struct {
		n    int
		want string
	}{
		{0, "\x00"}, {5, "\x05"}, {127, "\x7f"}, {128, "\x81\x00"}, {300, "\x82\x2c"}, {-1, ""}, {math.MinInt, ""},
		{16383, "\xff\x7f"}, {16384, "\x81\x80\x00"}, {math.MaxInt, "\xff\xff\xff\xff\xff\xff\xff\xff\x7f"},
	} {
		if s := ints.Put(x.n); s != x.want {
			t.Errorf("Put(%d) = %q", x.n, s)
		}
	}
	for _, n := range numbers() {
		most := 1
		for m := n; m >= 128; m >>= 7 {
			most++
		}
		if s := ints.Put(n); len(s) != most || len(s) > 9 {
			t.Errorf("Put(%d) has %d bytes, not %d", n, len(s), most)
		}
	}
}

func TestGet(t *testing.T) {
	for _, x := range []struct {
		s       string
		at      int
		n, next int
		ok      bool
	}{
		{"\x82\x2c\x07", 0, 300, 2, true}, {"\x82\x2c\x07", 1, 44, 2, true}, {"\x82\x2c\x07", 2, 7, 3, true},
		{"\x82\x2c\x07", 3, 0, 0, false}, {"\x82\x2c\x07", 4, 0, 0, false}, {"\x05", -1, 0, 0, false},
		{"\x05", math.MaxInt, 0, 0, false}, {"\x05", math.MinInt, 0, 0, false}, {"", 0, 0, 0, false},
		{"\x80\x05", 0, 0, 0, false}, {"\x80", 0, 0, 0, false}, {"\x82", 0, 0, 0, false},
		{"\x81\x80\x80\x80\x80\x80\x80\x80\x80\x00", 0, 0, 0, false}, {strings.Repeat("\xff", 40), 3, 0, 0, false},
	} {
		if n, next, ok := ints.Get(x.s, x.at); n != x.n || next != x.next || ok != x.ok {
			t.Errorf("Get(%q, %d) = %d %d %v", x.s, x.at, n, next, ok)
		}
	}
}

func TestBig(t *testing.T) {
	if s := ints.Big(258); s != "\x00\x00\x00\x00\x00\x00\x01\x02" {
		t.Errorf("Big(258) = %q", s)
	}
	for _, n := range []int{-1, math.MinInt} {
		if s := ints.Big(n); s != "" {
			t.Errorf("Big(%d) = %q", n, s)
		}
	}
	eight := ints.Big(258)
	for _, x := range []struct {
		s  string
		at int
	}{{eight[:7], 0}, {eight, 1}, {eight, -1}, {eight, 8}, {eight, math.MaxInt}, {strings.Repeat("\xff", 8), 0}, {"\x80" + eight[1:], 0}, {"", 0}} {
		if n, ok := ints.OfBig(x.s, x.at); n != 0 || ok {
			t.Errorf("OfBig(%q, %d) = %d %v", x.s, x.at, n, ok)
		}
	}
}

func TestText(t *testing.T) {
	if s := ints.PutText("abc"); s != "\x03abc" {
		t.Errorf("PutText: %q", s)
	}
	for _, x := range []struct {
		s    string
		at   int
		want string
		next int
		ok   bool
	}{
		{"\x02xyz", 0, "xy", 3, true}, {"\x03xy", 0, "", 0, false}, {"\x00", 0, "", 1, true}, {"", 0, "", 0, false},
		{"q\x01r", 1, "r", 3, true}, {"\x01r", 2, "", 0, false}, {"\x01r", -1, "", 0, false}, {"\x80\x01r", 0, "", 0, false},
		{"\xff\xff\xff\xff\xff\xff\xff\xff\x7fabc", 0, "", 0, false},
	} {
		if s, next, ok := ints.GetText(x.s, x.at); s != x.want || next != x.next || ok != x.ok {
			t.Errorf("GetText(%q, %d) = %q %d %v", x.s, x.at, s, next, ok)
		}
	}
}

// What was put is got, whatever stands around it; of what is cut off nothing is got.
func TestThereAndBack(t *testing.T) {
	for _, n := range numbers() {
		s := ints.Put(n)
		for _, around := range []string{"", "\x00", "\x80", "\xff\x01z"} {
			at := len(around)
			if m, next, ok := ints.Get(around+s+around, at); m != n || next != at+len(s) || !ok {
				t.Errorf("%d in %q: %d %d %v", n, around, m, next, ok)
			}
			if m, ok := ints.OfBig(around+ints.Big(n)+around, at); m != n || !ok {
				t.Errorf("%d big in %q: %d %v", n, around, m, ok)
			}
		}
		for i := range len(s) {
			if m, next, ok := ints.Get(s[:i], 0); m != 0 || next != 0 || ok {
				t.Errorf("%d cut off at %d: %d %d %v", n, i, m, next, ok)
			}
		}
	}
	for _, size := range []int{0, 1, 127, 128, 20000} {
		text := strings.Repeat("\x81", size)
		s := ints.PutText(text)
		if got, next, ok := ints.GetText("\x02"+s+"\x02", 1); got != text || next != 1+len(s) || !ok {
			t.Errorf("a text of %d: %d bytes, %d, %v", size, len(got), next, ok)
		}
		if got, _, ok := ints.GetText(s[:len(s)-1], 0); got != "" || ok {
			t.Errorf("a text of %d, cut off", size)
		}
	}
}

// What was got was put: no bytes but a number's own are read as it.
func TestOneWay(t *testing.T) {
	for a := range 256 {
		for b := range 256 {
			s := string([]byte{byte(a), byte(b), 5})
			if n, next, ok := ints.Get(s, 0); ok && ints.Put(n) != s[:next] {
				t.Errorf("%q is read as %d", s, n)
			}
		}
	}
}

func TestOrder(t *testing.T) {
	l := numbers()
	for _, a := range l {
		for _, b := range l {
			if (a < b) != (ints.Big(a) < ints.Big(b)) {
				t.Errorf("%d and %d", a, b)
			}
		}
	}
}
