package frames_test

import (
	"math"
	"slices"
	"strings"
	"testing"

	"spoor/api"
	"spoor/frames"
	"spoor/sums"
)

const ofA = "\x02\x00\x01a\x00\x62\x00\x62\x03"

func frame(t *testing.T, payload string) string {
	t.Helper()
	s, e := frames.Frame(payload)
	if e != api.OK {
		t.Fatalf("a payload of %d: %v", len(payload), e)
	}
	return s
}

func payloads() []string {
	return []string{"", "a", "\x02", "\x03", "\x02\x00\x00", "xyz", strings.Repeat("\x02", 300), strings.Repeat("q", 255), strings.Repeat("q", 256), strings.Repeat("\xff", 16384)}
}

func TestFrame(t *testing.T) {
	if s := frame(t, "a"); s != ofA {
		t.Errorf("%q", s)
	}
	for _, p := range payloads() {
		want := "\x02" + string([]byte{byte(len(p) >> 8), byte(len(p))}) + p + sums.Bytes(sums.Sum(p)) + "\x03"
		if s := frame(t, p); s != want || len(s) != len(p)+8 {
			t.Errorf("a payload of %d: %q", len(p), s)
		}
	}
	for _, n := range []int{16385, 65536, 70000} {
		if s, e := frames.Frame(strings.Repeat("b", n)); s != "" || e != api.ErrLong {
			t.Errorf("a payload of %d: %v", n, e)
		}
	}
}

func TestNext(t *testing.T) {
	for _, p := range payloads() {
		s := frame(t, p)
		for _, around := range []string{"", "\x02", "xx", ofA} {
			at := len(around)
			if got, next, ok := frames.Next(around+s+around, at); got != p || next != at+len(s) || !ok {
				t.Errorf("a payload of %d behind %q: %d bytes, %d, %v", len(p), around, len(got), next, ok)
			}
		}
		for _, cut := range []int{0, 1, 2, 3, len(s) - 6, len(s) - 1} {
			if got, next, ok := frames.Next(s[:max(cut, 0)], 0); got != "" || next != 0 || ok {
				t.Errorf("a payload of %d, cut off at %d", len(p), cut)
			}
		}
	}
	for _, at := range []int{1, 8, 9, 10, -1, math.MaxInt, math.MinInt} {
		if got, next, ok := frames.Next(ofA, at); got != "" || next != 0 || ok {
			t.Errorf("at %d: %q %d %v", at, got, next, ok)
		}
	}
	// What says that it is longer than a frame may be is none, whole as it is.
	p := strings.Repeat("b", 16385)
	long := "\x02\x40\x01" + p + sums.Bytes(sums.Sum(p)) + "\x03"
	if _, _, ok := frames.Next(long, 0); ok {
		t.Error("a frame of 16385 bytes")
	}
}

// A frame of which one byte is another one is not found.
func TestBent(t *testing.T) {
	s := frame(t, "some bytes\x00\xff")
	for i := range s {
		for c := range 256 {
			if byte(c) == s[i] {
				continue
			}
			bent := s[:i] + string([]byte{byte(c)}) + s[i+1:]
			if p, next, ok := frames.Next(bent, 0); p != "" || next != 0 || ok {
				t.Errorf("byte %d as %d: %q", i, c, p)
			}
		}
	}
}

func TestWhole(t *testing.T) {
	if l, end := frames.Whole(ofA + ofA + ofA[:4]); !slices.Equal(l, []string{"a", "a"}) || end != 18 {
		t.Errorf("%q %d", l, end)
	}
	if l, end := frames.Whole("x" + ofA); len(l) != 0 || end != 0 {
		t.Errorf("behind an x: %q %d", l, end)
	}
	if l, end := frames.Whole(""); len(l) != 0 || end != 0 {
		t.Errorf("of nothing: %q %d", l, end)
	}
	// Of what is cut off just the frames that are whole are found.
	want, s, ends := []string{}, "", []int{0}
	for _, p := range payloads()[:8] {
		s += frame(t, p)
		want, ends = append(want, p), append(ends, len(s))
	}
	for cut := range len(s) + 1 {
		n := 0
		for n+1 < len(ends) && ends[n+1] <= cut {
			n++
		}
		if l, end := frames.Whole(s[:cut]); !slices.Equal(l, want[:n]) || end != ends[n] {
			t.Fatalf("cut off at %d: %d payloads, %d", cut, len(l), end)
		}
	}
}

func TestResync(t *testing.T) {
	s := "xx" + ofA
	for at, want := range map[int]int{0: 2, 2: 2, 3: 11, -5: 2, 11: 11, 12: 11, math.MaxInt: 11, math.MinInt: 2, 1: 2} {
		if got := frames.Resync(s, at); got != want {
			t.Errorf("from %d: %d", at, got)
		}
	}
	if got := frames.Resync("", 0); got != 0 {
		t.Errorf("of nothing: %d", got)
	}
	if got := frames.Resync("\x02\x02\x00\x02"+ofA, 0); got != 4 {
		t.Errorf("behind what begins like one: %d", got)
	}
	// All frames are found between what is none.
	junk := []string{"", "abc", "\x03\x00\x01", strings.Repeat("z", 100)}
	text, want := "", []int{}
	for _, p := range []string{"a", "", "bcd", strings.Repeat("e", 200)} {
		for _, j := range junk {
			text += j
			want = append(want, len(text))
			text += frame(t, p)
		}
	}
	got, at := []int{}, 0
	for at = frames.Resync(text, 0); at < len(text); at = frames.Resync(text, at) {
		got = append(got, at)
		_, at, _ = frames.Next(text, at)
	}
	if !slices.Equal(got, want) {
		t.Errorf("%v, not %v", got, want)
	}
}

// A text of begins alone is gone through, and soon.
func TestResyncLong(t *testing.T) {
	s := strings.Repeat("\x02", 1<<20)
	if got := frames.Resync(s, 0); got != len(s) {
		t.Error(got)
	}
}
