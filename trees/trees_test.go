package trees_test

import (
	"math"
	"math/rand"
	"slices"
	"strconv"
	"strings"
	"testing"

	"spoor/api"
	"spoor/trees"
)

// list reads spans that are written as ID<Parent.
func list(text string) []api.Span {
	l := []api.Span{}
	for i, w := range strings.Fields(text) {
		id, parent, _ := strings.Cut(w, "<")
		s := api.Span{Trace: 5, Note: strconv.Itoa(i)}
		s.ID, _ = strconv.Atoi(id)
		s.Parent, _ = strconv.Atoi(parent)
		l = append(l, s)
	}
	return l
}

func nodes(l []api.Node) string {
	s := []string{}
	for _, n := range l {
		w := strconv.Itoa(n.Span.ID)
		if len(n.Kids) > 0 {
			w += "(" + nodes(n.Kids) + ")"
		}
		s = append(s, w)
	}
	return strings.Join(s, " ")
}

func written(t api.Tree) string { return nodes(t.Roots) + " / " + nodes(t.Orphans) }

func TestOf(t *testing.T) {
	for _, x := range [][2]string{
		{"1<0 3<1 2<1 4<2", "1(2(4) 3) / "},
		{"5<9 6<5 1<0 7<8 8<7", "1 / 5(6) 7(8)"},
		{"2<2 3<2 2<0", " / 2(3)"},
		{"", " / "},
		{"1<1", " / 1"},
		{"9<0 2<0 5<0", "2 5 9 / "},
		{"9<77 2<77 5<78", " / 2 5 9"},
		{"3<1 1<2 2<3", " / 1(3(2))"},
		{"1<2 2<3 3<1 4<1 5<3", " / 1(3(2 5) 4)"},
		{"4<5 5<4 1<4 6<1", " / 4(1(6) 5)"},
		{"8<9 9<8 3<7 7<3 1<0", "1 / 3(7) 8(9)"},
		{"0<0 1<0 2<1", "0 1(2) / "},
		{"0<1 1<0", "1(0) / "},
		{"-5<0 -7<-5 3<-7", "-5(-7(3)) / "},
		{"-1<-2 -2<-1", " / -2(-1)"},
		{"1<0 1<5 5<1", "1(5) / "},
		{"10<0 9<10 100<10 11<9", "10(9(11) 100) / "},
	} {
		tree := trees.Of(list(x[0]))
		if got := written(tree); got != x[1] {
			t.Errorf("%s: %s, not %s", x[0], got, x[1])
		}
	}
	big := list("1<2 2<1")
	big[0].ID, big[1].Parent = math.MaxInt, math.MaxInt
	big[1].ID, big[0].Parent = math.MinInt, math.MinInt
	if tree := trees.Of(big); len(tree.Orphans) != 1 || tree.Orphans[0].Span.ID != math.MinInt || len(tree.Orphans[0].Kids) != 1 {
		t.Error(written(tree))
	}
}

func TestFlat(t *testing.T) {
	l := list("5<9 6<5 1<0 2<1 3<2 4<1 2<5")
	tree := trees.Of(l)
	want := []api.Span{l[2], l[3], l[4], l[5], l[0], l[1]}
	if got := trees.Flat(tree); !slices.Equal(got, want) || trees.Count(tree) != 6 {
		t.Error(got, trees.Count(tree))
	}
	// Of any tree: here one that Of does not make.
	odd := api.Tree{Roots: []api.Node{{Span: l[6], Kids: []api.Node{{Span: l[1]}, {Span: l[0], Kids: []api.Node{{}}}}}}, Orphans: []api.Node{{Span: l[6]}}}
	if got := trees.Flat(odd); !slices.Equal(got, []api.Span{l[6], l[1], l[0], {}, l[6]}) || trees.Count(odd) != 5 {
		t.Error(got, trees.Count(odd))
	}
	if trees.Count(api.Tree{}) != 0 || len(trees.Flat(api.Tree{})) != 0 {
		t.Error("of no tree")
	}
}

// check looks through nodes: each span that counts once, below its parent, rising.
func check(t *testing.T, l []api.Node, counts, seen map[int]api.Span, up int, head bool) {
	last := math.MinInt
	for _, n := range l {
		if n.Span.ID <= last || counts[n.Span.ID] != n.Span {
			t.Fatal("not rising, or not one that counts", n.Span)
		}
		last = n.Span.ID
		if _, twice := seen[last]; twice || !head && n.Span.Parent != up {
			t.Fatal("twice, or not its parent", n.Span)
		}
		seen[last] = n.Span
		check(t, n.Kids, counts, seen, last, false)
	}
}

func TestMany(t *testing.T) {
	r := rand.New(rand.NewSource(3))
	for range 3000 {
		size := 1 + r.Intn(9)
		l := []api.Span{}
		counts := map[int]api.Span{}
		for i := range r.Intn(12) {
			s := api.Span{ID: r.Intn(size + 1), Parent: r.Intn(size + 2), Trace: i}
			l = append(l, s)
			if _, ok := counts[s.ID]; !ok {
				counts[s.ID] = s
			}
		}
		tree := trees.Of(l)
		seen := map[int]api.Span{}
		check(t, tree.Roots, counts, seen, 0, false)
		check(t, tree.Orphans, counts, seen, 0, true)
		if len(seen) != len(counts) || trees.Count(tree) != len(counts) {
			t.Fatal(l, written(tree))
		}
		for _, n := range tree.Orphans {
			// A head is lost, or comes back to itself, and is the least one by the way.
			s, steps := n.Span, 0
			_, ok := counts[s.Parent]
			for lost := s.Parent != 0 && !ok; !lost; steps++ {
				s = counts[s.Parent]
				if s.ID < n.Span.ID || s.Parent == 0 || steps > 20 {
					t.Fatal(l, written(tree))
				}
				lost = s.ID == n.Span.ID
			}
		}
		one := []api.Span{}
		for _, s := range counts {
			one = append(one, s)
		}
		r.Shuffle(len(one), func(i, j int) { one[i], one[j] = one[j], one[i] })
		if written(trees.Of(one)) != written(tree) {
			t.Fatal("it hangs on the order:", l)
		}
	}
}

func TestDeep(t *testing.T) {
	l := []api.Span{}
	for i := range 60000 {
		l = append(l, api.Span{ID: i + 1, Parent: i})
	}
	slices.Reverse(l)
	tree := trees.Of(l)
	if trees.Count(tree) != 60000 || len(tree.Roots) != 1 || len(tree.Orphans) != 0 {
		t.Error(trees.Count(tree))
	}
	l[len(l)-1].Parent = 60000
	if tree = trees.Of(l); trees.Count(tree) != 60000 || len(tree.Orphans) != 1 || tree.Orphans[0].Span.ID != 1 {
		t.Error(trees.Count(tree))
	}
}
