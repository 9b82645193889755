package sums_test

import (
	"hash/adler32"
	"math"
	"strings"
	"testing"

	"spoor/sums"
)

// texts are of many lengths, with low bytes and high ones.
func texts() []string {
	l := []string{"", "a", "ab", "abc", "Wikipedia", "\x00", "\x00\x00", strings.Repeat("\xff", 5552), strings.Repeat("\xff", 70000)}
	b := []byte{}
	for i := range 300 {
		b = append(b, byte(i*i*7+i))
		l = append(l, string(b))
	}
	return l
}

func TestSum(t *testing.T) {
	for s, want := range map[string]uint32{"": 1, "a": 0x620062, "abc": 0x24d0127, "Wikipedia": 0x11e60398, "\x00": 0x10001} {
		if got := sums.Sum(s); got != want {
			t.Errorf("%q: %x", s, got)
		}
	}
	// Both parts come to just 65521 here, by the last byte: that is 0.
	onTheSpot := strings.Repeat("\xff", 256) + "\xf0"
	if got := sums.Sum(onTheSpot); got&0xffff != 0 || got != adler32.Checksum([]byte(onTheSpot)) {
		t.Errorf("%x", got)
	}
	if got := sums.More(65520<<16, "\x01"); got != 1 {
		t.Errorf("%x", got)
	}
	for _, s := range texts() {
		if got, want := sums.Sum(s), adler32.Checksum([]byte(s)); got != want {
			t.Errorf("a text of %d: %x, not %x", len(s), got, want)
		}
	}
}

func TestMore(t *testing.T) {
	for _, s := range texts() {
		for _, cut := range []int{0, len(s) / 3, len(s)} {
			if got := sums.More(sums.Sum(s[:cut]), s[cut:]); got != sums.Sum(s) {
				t.Errorf("a text of %d, cut at %d: %x", len(s), cut, got)
			}
		}
	}
	// Parts that are too great are brought below 65521, by no bytes, too.
	for sum, want := range map[uint32]uint32{0xffffffff: 14<<16 | 14, 65521: 0, 65521 << 16: 0, 65520: 65520, 0xfff20007: 1<<16 | 7} {
		if got := sums.More(sum, ""); got != want {
			t.Errorf("%x by nothing: %x", sum, got)
		}
		a, b := want&0xffff, want>>16
		a = (a + 3) % 65521
		b = (b + a) % 65521
		if got := sums.More(sum, "\x03"); got != b<<16|a {
			t.Errorf("%x by 3: %x", sum, got)
		}
	}
}

func TestRoll(t *testing.T) {
	if got := sums.Roll(sums.Sum("abc"), 3, 'a', 'd'); got != sums.Sum("bcd") {
		t.Errorf("abc to bcd: %x", got)
	}
	b := []byte{}
	for i := range 1000 {
		b = append(b, byte(i*i*31+i*5))
	}
	for i := range 100 {
		b[i] = 0xff * byte(i%2)
	}
	for _, n := range []int{1, 2, 7, 255, 700} {
		sum := sums.Sum(string(b[:n]))
		for i := n; i < len(b); i++ {
			sum = sums.Roll(sum, n, b[i-n], b[i])
			if want := sums.Sum(string(b[i-n+1 : i+1])); sum != want {
				t.Fatalf("%d bytes up to %d: %x, not %x", n, i, sum, want)
			}
		}
	}
}

// Roll of any n and any sum is what the words say, reckoned step by step.
func TestRollOfAny(t *testing.T) {
	for _, n := range []int{0, -1, -3, 65521, 65520, 65522, 1 << 40, math.MaxInt, math.MinInt, math.MinInt + 5} {
		for _, sum := range []uint32{0, 1, 0xffffffff, 65521 << 16, 65520<<16 | 65520, 0x24d0127} {
			for _, x := range [][2]byte{{0, 0}, {255, 0}, {0, 255}, {255, 255}, {97, 100}} {
				m := n % 65521
				if m < 0 {
					m += 65521
				}
				a := (int(sum&0xffff)%65521 + 65521 - int(x[0]) + int(x[1])) % 65521
				b := int(sum>>16) % 65521
				for range x[0] {
					b = (b + 65521 - m) % 65521
				}
				b = (b + a + 65520) % 65521
				if got, want := sums.Roll(sum, n, x[0], x[1]), uint32(b<<16|a); got != want {
					t.Errorf("Roll(%x, %d, %v) = %x, not %x", sum, n, x, got, want)
				}
			}
		}
	}
}

func TestBytes(t *testing.T) {
	for sum, want := range map[uint32]string{0x11e60398: "\x11\xe6\x03\x98", 0: "\x00\x00\x00\x00", 0xff000001: "\xff\x00\x00\x01"} {
		if got := sums.Bytes(sum); got != want {
			t.Errorf("%x: %q", sum, got)
		}
	}
}

// One byte that is another one, or two that change places, make another sum.
func TestUnlike(t *testing.T) {
	s := []byte("a text of some bytes\x00\xff")
	sum := sums.Sum(string(s))
	for i := range s {
		old := s[i]
		for x := range 256 {
			s[i] = byte(x)
			if byte(x) != old && sums.Sum(string(s)) == sum {
				t.Errorf("byte %d as %d", i, x)
			}
		}
		s[i] = old
		for j := range i {
			s[i], s[j] = s[j], s[i]
			if s[i] != s[j] && sums.Sum(string(s)) == sum {
				t.Errorf("bytes %d and %d", i, j)
			}
			s[i], s[j] = s[j], s[i]
		}
	}
}
