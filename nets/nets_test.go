package nets_test

import (
	"math"
	"math/rand"
	"slices"
	"strconv"
	"testing"

	"spoor/api"
	"spoor/nets"
)

func mail(i int) api.Mail { return api.Mail{From: i, To: -i, Data: strconv.Itoa(i)} }

// holds looks at a net in all ways.
func holds(t *testing.T, n *nets.Net, want []api.Mail) {
	t.Helper()
	if n.Len() != len(want) || !slices.Equal(n.All(), want) {
		t.Fatalf("%v, not %v", n.All(), want)
	}
	for i := -1; i <= len(want); i++ {
		m, ok := n.Look(i)
		if there := i >= 0 && i < len(want); ok != there || there && m != want[i] || !there && m != (api.Mail{}) {
			t.Fatalf("at %d: %v %v", i, m, ok)
		}
	}
}

func TestExamples(t *testing.T) {
	a, b, c := mail(1), mail(2), mail(3)
	n := nets.New()
	holds(t, n, nil)
	if !n.Send(a) || !n.Send(b) || !n.Double(0) {
		t.Error("nothing is taken")
	}
	holds(t, n, []api.Mail{a, a, b})
	if m, ok := n.Take(1); m != a || !ok {
		t.Error(m, ok)
	}
	if !n.Send(c) || !n.Lose(0) || n.Lose(5) {
		t.Error("Send, Lose")
	}
	holds(t, n, []api.Mail{b, c})
}

func TestNone(t *testing.T) {
	for _, n := range []*nets.Net{nil, {}} {
		_, look := n.Look(0)
		_, take := n.Take(0)
		if n.Send(mail(1)) || n.Double(0) || n.Lose(0) || look || take || n.Len() != 0 || len(n.All()) != 0 {
			t.Error("none does something")
		}
	}
}

func TestNoPlace(t *testing.T) {
	n := nets.New()
	n.Send(mail(1))
	for _, i := range []int{-1, 1, 64, math.MaxInt, math.MinInt} {
		m, ok := n.Take(i)
		x, seen := n.Look(i)
		if ok || seen || m != (api.Mail{}) || x != (api.Mail{}) || n.Double(i) || n.Lose(i) {
			t.Error(i)
		}
	}
	holds(t, n, []api.Mail{mail(1)})
}

func TestFull(t *testing.T) {
	n := nets.New()
	want := []api.Mail{}
	for i := range api.MaxNet {
		if !n.Send(mail(i)) {
			t.Fatal(i)
		}
		want = append(want, mail(i))
	}
	if n.Send(mail(99)) || n.Double(0) || n.Double(63) {
		t.Error("one more than there may be")
	}
	holds(t, n, want)
	n.Lose(5)
	if !n.Double(62) || n.Double(0) {
		t.Error("room for just one")
	}
	holds(t, n, append(slices.Delete(slices.Clone(want), 5, 6), mail(63)))
}

func TestScripts(t *testing.T) {
	for seed := range int64(40) {
		r := rand.New(rand.NewSource(seed))
		n, want := nets.New(), []api.Mail{}
		for step := range 600 {
			i := r.Intn(len(want)+3) - 1
			there, room := i >= 0 && i < len(want), len(want) < api.MaxNet
			switch k := r.Intn(7 + int(seed%3)); {
			case k <= 1:
				if n.Lose(i) != there {
					t.Fatal("Lose", i)
				}
				if there {
					want = slices.Delete(want, i, i+1)
				}
			case k == 2:
				m, ok := n.Take(i)
				if ok != there || there && m != want[i] {
					t.Fatal("Take", i, m, ok)
				}
				if there {
					want = slices.Delete(want, i, i+1)
				}
			case k == 3:
				if n.Double(i) != (there && room) {
					t.Fatal("Double", i)
				}
				if there && room {
					want = slices.Insert(want, i, want[i])
				}
			default:
				if n.Send(mail(step)) != room {
					t.Fatal("Send")
				}
				if room {
					want = append(want, mail(step))
				}
			}
			holds(t, n, want)
		}
	}
}

func TestOwnMemory(t *testing.T) {
	n := nets.New()
	n.Send(mail(1))
	n.All()[0] = mail(7)
	holds(t, n, []api.Mail{mail(1)})
}
