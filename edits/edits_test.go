package edits_test

import (
	"fmt"
	"math"
	"math/rand"
	"slices"
	"strings"
	"testing"

	"spoor/api"
	"spoor/edits"
	"spoor/ints"
)

func table(at, file int) api.Edit { return api.Edit{Kind: api.EdTable, At: at, File: file} }
func swap(at int, files ...int) api.Edit {
	return api.Edit{Kind: api.EdSwap, At: at, Files: files}
}
func split(at int, key string) api.Edit { return api.Edit{Kind: api.EdSplit, At: at, Key: key} }
func merge(at int) api.Edit             { return api.Edit{Kind: api.EdMerge, At: at} }
func log(file int) api.Edit             { return api.Edit{Kind: api.EdLog, File: file} }

// state is what should be: tablets are written as From and their tables.
func state(log, next int, tablets ...any) api.State {
	s := api.State{Log: log, Next: next}
	for _, x := range tablets {
		switch v := x.(type) {
		case string:
			s.Tablets = append(s.Tablets, api.Tablet{From: v})
		case int:
			t := &s.Tablets[len(s.Tablets)-1]
			t.Tables = append(t.Tables, v)
		}
	}
	return s
}

func same(a, b api.State) bool {
	return a.Log == b.Log && a.Next == b.Next && slices.EqualFunc(a.Tablets, b.Tablets, func(x, y api.Tablet) bool {
		return x.From == y.From && slices.Equal(x.Tables, y.Tables)
	})
}

func sameEdit(a, b api.Edit) bool {
	return a.Kind == b.Kind && a.At == b.At && a.File == b.File && a.Key == b.Key && slices.Equal(a.Files, b.Files)
}

// does holds edits, one behind the other, against the state that should come of them.
func does(t *testing.T, from, want api.State, l ...api.Edit) {
	t.Helper()
	before := fmt.Sprint(from, l)
	got, ok := edits.All(from, l)
	if !ok || !same(got, want) {
		t.Errorf("%v: %v %v, not %v", l, got, ok, want)
	}
	s := from
	for _, e := range l {
		if s, ok = edits.Apply(s, e); !ok {
			t.Errorf("%v may not be done", e)
		}
	}
	if len(l) > 0 && !same(s, want) || before != fmt.Sprint(from, l) {
		t.Errorf("%v: %v, not %v", l, s, want)
	}
}

func doesNot(t *testing.T, from api.State, e api.Edit) {
	t.Helper()
	if got, ok := edits.Apply(from, e); ok || !same(got, api.State{}) {
		t.Errorf("%v is done: %v", e, got)
	}
	if got, ok := edits.All(from, []api.Edit{e}); ok || !same(got, api.State{}) {
		t.Errorf("%v is done: %v", e, got)
	}
}

func TestExamples(t *testing.T) {
	first := edits.First()
	does(t, first, state(1, 2, ""))
	does(t, first, state(9, 10, "", 5), table(0, 5), log(9))
	doesNot(t, first, table(0, 1))
	doesNot(t, first, table(1, 5))
	does(t, first, state(1, 4, "", 3), swap(0, 3))
	parted := state(1, 6, "", 5, "m", 5)
	does(t, first, parted, table(0, 5), split(0, "m"))
	does(t, parted, state(1, 8, "", 5, "m", 5, 7), table(1, 7))
	does(t, parted, state(1, 8, "", 5, 7), table(1, 7), merge(0))
	for key, want := range map[string]int{"a": 0, "m": 1, "z": 1, "": 0, "l\xff": 0, "m\x00": 1} {
		if got := edits.Find(parted, key); got != want {
			t.Errorf("%q lies in %d", key, got)
		}
	}
}

func TestCheck(t *testing.T) {
	many, over := state(1, 1000, ""), state(1, 1000, "")
	for i := range 257 {
		if i < 256 {
			many.Tablets[0].Tables = append(many.Tablets[0].Tables, i+1)
		}
		over.Tablets[0].Tables = append(over.Tablets[0].Tables, i+1)
	}
	full, above := state(1, 2), state(1, 2)
	for i := range 17 {
		from := strings.Repeat("k", i)
		if i < 16 {
			full.Tablets = append(full.Tablets, api.Tablet{From: from})
		}
		above.Tablets = append(above.Tablets, api.Tablet{From: from})
	}
	k64 := strings.Repeat("k", 64)
	for i, s := range []api.State{edits.First(), many, full, state(1, api.MaxID, ""), state(5, 6, "", 1, 2, 5), state(1, 2, "", k64), state(3, 9, "", 8, "a", 1, 8)} {
		if !edits.Check(s) {
			t.Errorf("%d may be", i)
		}
	}
	for i, s := range []api.State{{}, over, above, state(1, 2), state(1, 2, "a"), state(0, 2, ""), state(2, 2, ""), state(-1, 2, ""), state(1, api.MaxID+1, ""), state(1, 2, "", "b", "a"), state(1, 2, "", "b", "b"), state(1, 2, "", ""),
		state(1, 2, "", k64+"k"), state(1, 9, "", 0), state(1, 9, "", -1, 3), state(1, 9, "", 9), state(1, 9, "", 3, 3), state(1, 9, "", 4, 3), state(1, 9, "", "a", 4, 3)} {
		if edits.Check(s) {
			t.Errorf("%d may not be: %v", i, s)
		}
		doesNot(t, s, log(500))
		if got, ok := edits.All(s, nil); ok || !same(got, api.State{}) {
			t.Errorf("%d: All of it: %v", i, got)
		}
		from, to, ok := edits.Stretch(s, 0)
		if edits.Find(s, "a") != -1 || len(edits.Files(s)) != 0 || from != "" || to != "" || ok {
			t.Errorf("%d tells something", i)
		}
		if b, e := edits.EncodeState(s); b != "" || e != api.ErrArg {
			t.Errorf("%d: %q %v", i, b, e)
		}
	}
}

func TestKinds(t *testing.T) {
	s := state(1, 10, "", 2, 5, "m", 5, 7, "t")
	does(t, s, state(1, 11, "", 2, 5, "m", 5, 7, "t", 10), table(2, 10))
	does(t, s, state(1, api.MaxID, "", 2, 5, "m", 5, 7, "t", api.MaxID-1), table(2, api.MaxID-1))
	does(t, s, state(1, 10, "", "m", 5, 7, "t"), swap(0))
	does(t, s, state(1, 10, "", 5, "m", 5, 7, "t"), swap(0, 5))
	does(t, s, state(1, 13, "", 2, 5, "m", 7, 10, 12, "t"), swap(1, 7, 10, 12))
	does(t, s, state(1, 10, "", 2, 5, "m", 5, 7, "q", 5, 7, "t"), split(1, "q"))
	does(t, s, state(1, 10, "", 2, 5, "m", 5, 7, "t", "z"), split(2, "z"))
	does(t, s, state(1, 10, "", 2, 5, 7, "t"), merge(0))
	does(t, s, state(1, 10, "", 2, 5, "m", 5, 7), merge(1))
	does(t, s, state(20, 21, "", 2, 5, "m", 5, 7, "t"), log(20))
	does(t, s, s, split(0, "k"), merge(0))
	for _, e := range []api.Edit{
		{}, {Kind: 6, File: 20}, {Kind: -1, File: 20}, {Kind: math.MaxInt},
		table(0, 9), table(0, 0), table(0, -1), table(3, 10), table(-1, 10), table(0, api.MaxID), table(0, math.MaxInt),
		swap(0, 7), swap(0, 5, 2), swap(0, 5, 5), swap(0, 0), swap(0, -3), swap(0, 12, 11), swap(3, 12), swap(-1), swap(0, math.MaxInt), swap(0, api.MaxID), swap(0, 2, 5, 10, 10),
		split(0, "m"), split(0, "n"), split(0, ""), split(1, "m"), split(1, "t"), split(2, strings.Repeat("z", 65)), split(3, "z"), split(-1, "a"),
		merge(2), merge(3), merge(-1), merge(math.MaxInt), log(9), log(0), log(-1), log(api.MaxID), log(math.MaxInt),
	} {
		doesNot(t, s, e)
	}
	// The journal's edit asks for no place.
	does(t, s, state(20, 21, "", 2, 5, "m", 5, 7, "t"), api.Edit{Kind: api.EdLog, At: -7, File: 20})
	// What is not asked for may be anything that it may be.
	does(t, s, state(1, 10, "", 2, 5, 7, "t"), api.Edit{Kind: api.EdMerge, File: 3, Key: "x", Files: []int{9, 1}})
}

func TestLimits(t *testing.T) {
	s := edits.First()
	for i := range api.MaxTables {
		s, _ = edits.Apply(s, table(0, i+2))
	}
	doesNot(t, s, table(0, 400))
	s, _ = edits.All(s, []api.Edit{split(0, "m"), swap(1), table(1, 400)})
	doesNot(t, s, merge(0))
	s = edits.First()
	for i := range api.MaxTablets - 1 {
		s, _ = edits.Apply(s, split(i, strings.Repeat("k", i+1)))
	}
	if len(s.Tablets) != api.MaxTablets {
		t.Fatal(s)
	}
	doesNot(t, s, split(0, "a"))
}

func TestStretches(t *testing.T) {
	s := state(1, 10, "", 2, 7, "m", 5, 7, "t")
	for at, want := range [][2]string{{"", "m"}, {"m", "t"}, {"t", ""}} {
		if from, to, ok := edits.Stretch(s, at); from != want[0] || to != want[1] || !ok {
			t.Error(at, from, to, ok)
		}
	}
	for _, at := range []int{-1, 3, math.MaxInt, math.MinInt} {
		if from, to, ok := edits.Stretch(s, at); from != "" || to != "" || ok {
			t.Error(at, from, to, ok)
		}
	}
	if l := edits.Files(s); !slices.Equal(l, []int{2, 5, 7}) {
		t.Error(l)
	}
	if l := edits.Files(edits.First()); len(l) != 0 {
		t.Error(l)
	}
}

func TestEditsBytes(t *testing.T) {
	l := []api.Edit{table(0, 300), swap(1, 7, 300), split(2, "key"), merge(0), log(9)}
	want := "\x05" + "\x01\x00\x82\x2c\x00\x00" + "\x02\x01\x00\x02\x07\x82\x2c\x00" + "\x03\x02\x00\x00\x03key" + "\x04\x00\x00\x00\x00" + "\x05\x00\x09\x00\x00"
	b := edits.Encode(l)
	if b != want {
		t.Errorf("%q, not %q", b, want)
	}
	if back, e := edits.Decode(b); !slices.EqualFunc(back, l, sameEdit) || e != api.OK {
		t.Error(back, e)
	}
	// Any edits have bytes; below 0 is 0.
	odd := []api.Edit{{Kind: 99, At: -3, File: math.MinInt, Files: []int{-1, 4}, Key: strings.Repeat("\x00", 200)}}
	zero := []api.Edit{{Kind: 99, Files: []int{0, 4}, Key: strings.Repeat("\x00", 200)}}
	if edits.Encode(odd) != edits.Encode(zero) {
		t.Errorf("%q", edits.Encode(odd))
	}
	if back, e := edits.Decode(edits.Encode(odd)); !slices.EqualFunc(back, zero, sameEdit) || e != api.OK {
		t.Error(back, e)
	}
	if back, e := edits.Decode(edits.Encode(nil)); len(back) != 0 || e != api.OK || edits.Encode(nil) != "\x00" {
		t.Error(back, e)
	}
	bad := []string{"", b + "\x00", "\x06" + b[1:], "\x04" + b[1:], "\x80" + b, ints.Put(math.MaxInt) + b[1:], "\x01\x01\x00\x05" + ints.Put(math.MaxInt) + "\x01\x00"}
	for i := range b {
		bad = append(bad, b[:i])
	}
	for _, s := range bad {
		if l, e := edits.Decode(s); len(l) != 0 || e != api.ErrForm {
			t.Errorf("%q: %v %v", s, l, e)
		}
	}
}

func TestStateBytes(t *testing.T) {
	s := state(3, 400, "", 2, 300, "m", "t", 9)
	want := "\x03\x83\x10\x03" + "\x00\x02\x02\x82\x2c" + "\x01m\x00" + "\x01t\x01\x09"
	b, e := edits.EncodeState(s)
	if b != want || e != api.OK {
		t.Errorf("%q, not %q", b, want)
	}
	if back, e := edits.DecodeState(b); !same(back, s) || e != api.OK {
		t.Error(back, e)
	}
	bad := []string{"", b + "\x00", "\x80" + b, "\x03\x02" + b[3:], "\x00" + b[1:], "\x03\x83\x10\x00", "\x01\x02\x01\x01a\x00", "\x01\x02\x01\x00\x01\x02", "\x01\x02" + ints.Put(math.MaxInt) + "\x00\x00"}
	for i := range b {
		bad = append(bad, b[:i])
	}
	for _, x := range bad {
		if s, e := edits.DecodeState(x); !same(s, api.State{}) || e != api.ErrForm {
			t.Errorf("%q: %v %v", x, s, e)
		}
	}
	for i := range b {
		for c := range 256 {
			bent := b[:i] + string([]byte{byte(c)}) + b[i+1:]
			s, e := edits.DecodeState(bent)
			if back, f := edits.EncodeState(s); e == api.OK && (back != bent || f != api.OK) {
				t.Errorf("%q came back as %q", bent, back)
			}
		}
	}
}

// Whatever edits are done, each key lies in one stretch, and Next never falls.
func TestMany(t *testing.T) {
	r := rand.New(rand.NewSource(2))
	keys := []string{"", "a", "am", "b", "m", "mm", "z", "zz"}
	for range 60 {
		s := edits.First()
		for range 60 {
			e := api.Edit{Kind: r.Intn(7), At: r.Intn(5) - 1, File: s.Next + r.Intn(4) - 1, Key: keys[r.Intn(8)]}
			for n := range r.Intn(4) {
				e.Files = append(e.Files, s.Next-3+2*n+r.Intn(2))
			}
			next, ok := edits.Apply(s, e)
			if !ok {
				continue
			}
			if !edits.Check(next) || next.Next < s.Next {
				t.Fatal(s, e, next)
			}
			s = next
			for _, k := range keys {
				in := 0
				for at := range s.Tablets {
					if from, to, _ := edits.Stretch(s, at); from <= k && (to == "" || k < to) {
						in++
						if edits.Find(s, k) != at {
							t.Fatal(s, k, at)
						}
					}
				}
				if in != 1 {
					t.Fatal(s, k, in)
				}
			}
		}
	}
}

func TestOwnMemory(t *testing.T) {
	s := state(1, 10, "", 2, 5, "m", 5, 7)
	for _, e := range []api.Edit{table(0, 10), swap(0, 2), split(0, "c"), merge(0), log(10)} {
		next, _ := edits.Apply(s, e)
		kept, _ := edits.Apply(s, e)
		for i := range next.Tablets {
			for j := range next.Tablets[i].Tables {
				next.Tablets[i].Tables[j] += 100
			}
			next.Tablets[i].Tables = append(next.Tablets[i].Tables, 77)
			next.Tablets[i].From += "x"
		}
		if again, _ := edits.Apply(s, e); !same(again, kept) || !same(s, state(1, 10, "", 2, 5, "m", 5, 7)) {
			t.Error(e, again, kept)
		}
	}
	next, _ := edits.Apply(s, split(0, "c"))
	next.Tablets[0].Tables[0] = 3
	if next.Tablets[1].Tables[0] != 2 {
		t.Error("both halves have one list")
	}
	files := []int{2, 5}
	next, _ = edits.Apply(s, swap(0, files...))
	files[0] = 3
	if next.Tablets[0].Tables[0] != 2 {
		t.Error("the edit's list is kept")
	}
	all, _ := edits.All(s, nil)
	all.Tablets[0].Tables[0] = 1
	if s.Tablets[0].Tables[0] != 2 {
		t.Error("the state's list is handed out")
	}
}
