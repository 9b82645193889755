package tables_test

import (
	"fmt"
	"slices"
	"strings"
	"testing"

	"spoor/api"
	"spoor/blocks"
	"spoor/ints"
	"spoor/sums"
	"spoor/tables"
)

func cell(key string, seq int, value string) api.Cell {
	return api.Cell{Key: key, Seq: seq, Value: value}
}

func build(t *testing.T, l []api.Cell) string {
	t.Helper()
	s, e := tables.Build(l)
	if e != api.OK {
		t.Fatal(e)
	}
	return s
}

func open(t *testing.T, text string) *tables.Table {
	t.Helper()
	x, e := tables.Open(text)
	if e != api.OK || x == nil {
		t.Fatal(e)
	}
	return x
}

// many are n keys of one to six cells each.
func many(n int) []api.Cell {
	l := []api.Cell{}
	for i := range n {
		for seq := i%6 + 1; seq > 0; seq-- {
			l = append(l, cell(fmt.Sprintf("k%04d", 2*i), seq*3, strings.Repeat("v", i%5)))
		}
	}
	return l
}

func TestExamples(t *testing.T) {
	empty := "\x00" + "\x00\x01\x00\x01" + strings.Repeat("\x00", 16) + "spoor"
	if s := build(t, nil); s != empty {
		t.Errorf("%q", s)
	}
	if x := open(t, empty); x.Len() != 0 || len(x.All()) != 0 {
		t.Error(x.All())
	}
	if x, e := tables.Open(empty[:len(empty)-1]); x != nil || e != api.ErrForm {
		t.Error(x, e)
	}
	l := []api.Cell{cell("a", 2, ""), cell("a", 1, ""), cell("b", 5, "")}
	x := open(t, build(t, l))
	if c, ok := x.Get("a"); c != l[0] || !ok {
		t.Error(c, ok)
	}
	if !slices.Equal(x.Range("a", "b"), l[:2]) || !slices.Equal(x.Range("b", ""), l[2:]) || len(x.Range("b", "a")) != 0 {
		t.Error(x.Range("a", "b"), x.Range("b", ""), x.Range("b", "a"))
	}
}

// The text is made here once more, word by word.
func TestText(t *testing.T) {
	for _, n := range []int{1, 2, 3, 5, 30} {
		l := many(n)
		body, index, count := "", "", 0
		for part := range slices.Chunk(l, 4) {
			b, _ := blocks.Encode(part)
			body += b + sums.Bytes(sums.Sum(b))
			index += ints.PutText(part[0].Key) + ints.Put(len(b))
			count++
		}
		index = ints.Put(count) + index
		want := body + index + sums.Bytes(sums.Sum(index)) + ints.Big(len(body)) + ints.Big(len(l)) + "spoor"
		if s := build(t, l); s != want {
			t.Errorf("%d: %q, not %q", n, s, want)
		}
	}
}

func TestBuildErrors(t *testing.T) {
	if s, e := tables.Build([]api.Cell{cell("b", 1, ""), cell("a", 1, "")}); s != "" || e != api.ErrArg {
		t.Error(s, e)
	}
	l := []api.Cell{}
	for i := range api.MaxTable + 1 {
		l = append(l, cell(fmt.Sprintf("%05d", i), 1, ""))
	}
	if s, e := tables.Build(l); s != "" || e != api.ErrLong {
		t.Error(len(s), e)
	}
	if x := open(t, build(t, l[:api.MaxTable])); x.Len() != api.MaxTable || !slices.Equal(x.All(), l[:api.MaxTable]) {
		t.Error(x.Len())
	}
	l[0].Key = "9"
	if s, e := tables.Build(l); s != "" || e != api.ErrArg {
		t.Error(s, e)
	}
}

func TestNone(t *testing.T) {
	for _, x := range []*tables.Table{nil, {}} {
		if c, ok := x.Get("a"); ok || c != (api.Cell{}) || len(x.All()) != 0 || len(x.Range("", "")) != 0 || x.Len() != 0 {
			t.Error("none has cells")
		}
	}
}

func TestReads(t *testing.T) {
	for _, n := range []int{0, 1, 2, 7, 40} {
		l := many(n)
		x := open(t, build(t, l))
		if !slices.Equal(x.All(), l) || x.Len() != len(l) {
			t.Fatal(n, x.All())
		}
		places := []string{"", "a", "z"}
		for i := range 2*n + 1 {
			places = append(places, fmt.Sprintf("k%04d", i))
		}
		for _, from := range places {
			i := slices.IndexFunc(l, func(c api.Cell) bool { return c.Key == from })
			if c, ok := x.Get(from); ok != (i >= 0) || ok && c != l[i] || !ok && c != (api.Cell{}) {
				t.Fatal(n, from, c, ok)
			}
			for _, to := range places {
				want := []api.Cell{}
				for _, c := range l {
					if c.Key >= from && (to == "" || c.Key < to) {
						want = append(want, c)
					}
				}
				if got := x.Range(from, to); !slices.Equal(got, want) {
					t.Fatal(n, from, to, got, want)
				}
			}
		}
	}
}

// Nothing but what was built is opened.
func TestOpen(t *testing.T) {
	s := build(t, many(4))
	bad := []string{s + "\x00", "\x00" + s, s + s, "", "spoor", strings.Repeat("\xff", 20) + "spoor", strings.Repeat("\xff", 60) + "spoor", strings.Repeat("\x00", 60) + "spoor"}
	for i := range s {
		bad = append(bad, s[:i])
		for _, c := range []byte{0, 1, 5, 127, 128, 255, s[i] + 1} {
			if c != s[i] {
				bad = append(bad, s[:i]+string([]byte{c})+s[i+1:])
			}
		}
	}
	// Blocks of five cells and of one, with all sums as they should be.
	l := many(3)
	first, _ := blocks.Encode(l[:5])
	last, _ := blocks.Encode(l[5:])
	body := first + sums.Bytes(sums.Sum(first)) + last + sums.Bytes(sums.Sum(last))
	index := ints.Put(2) + ints.PutText(l[0].Key) + ints.Put(len(first)) + ints.PutText(l[5].Key) + ints.Put(len(last))
	bad = append(bad, body+index+sums.Bytes(sums.Sum(index))+ints.Big(len(body))+ints.Big(6)+"spoor")
	for _, b := range bad {
		if x, e := tables.Open(b); x != nil || e != api.ErrForm {
			t.Errorf("%q is opened: %v", b, e)
		}
	}
}

func TestOwnMemory(t *testing.T) {
	l := many(3)
	x := open(t, build(t, l))
	x.All()[0].Key = "other"
	if !slices.Equal(x.All(), l) {
		t.Error(x.All())
	}
}
