package edits

import (
	"strings"

	"spoor/api"
	"spoor/ints"
)

// writer puts numbers and texts, one behind the other.
type writer struct{ strings.Builder }

// numbers puts numbers; one below 0 as 0.
func (w *writer) numbers(l ...int) {
	for _, n := range l {
		w.WriteString(ints.Put(max(n, 0)))
	}
}

func (w *writer) text(s string) { w.WriteString(ints.PutText(s)) }

// list puts how many numbers there are, and these.
func (w *writer) list(l []int) {
	w.numbers(len(l))
	w.numbers(l...)
}

// reader gets what was put; bad, once something did not stand there.
type reader struct {
	bytes string
	at    int
	bad   bool
}

func (r *reader) number() int {
	n, next, ok := ints.Get(r.bytes, r.at)
	r.at, r.bad = next, r.bad || !ok
	return n
}

func (r *reader) text() string {
	s, next, ok := ints.GetText(r.bytes, r.at)
	r.at, r.bad = next, r.bad || !ok
	return s
}

func (r *reader) list() []int {
	var l []int
	for n := r.number(); n > 0 && !r.bad; n-- {
		l = append(l, r.number())
	}
	return l
}

// whole tells whether all was got, to the end.
func (r *reader) whole() bool { return !r.bad && r.at == len(r.bytes) }

// Encode is edits as bytes.
func Encode(l []api.Edit) string {
	var w writer
	w.numbers(len(l))
	for _, e := range l {
		w.numbers(e.Kind, e.At, e.File)
		w.list(e.Files)
		w.text(e.Key)
	}
	return w.String()
}

// Decode is the edits that bytes are.
func Decode(b string) ([]api.Edit, api.Errno) {
	r := reader{bytes: b}
	var l []api.Edit
	for n := r.number(); n > 0 && !r.bad; n-- {
		l = append(l, api.Edit{Kind: r.number(), At: r.number(), File: r.number(), Files: r.list(), Key: r.text()})
	}
	if !r.whole() {
		return nil, api.ErrForm
	}
	return l, api.OK
}

// EncodeState is a state as bytes.
func EncodeState(s api.State) (string, api.Errno) {
	if !Check(s) {
		return "", api.ErrArg
	}
	var w writer
	w.numbers(s.Log, s.Next, len(s.Tablets))
	for _, t := range s.Tablets {
		w.text(t.From)
		w.list(t.Tables)
	}
	return w.String(), api.OK
}

// DecodeState is the state that bytes are.
func DecodeState(b string) (api.State, api.Errno) {
	r := reader{bytes: b}
	s := api.State{Log: r.number(), Next: r.number()}
	for n := r.number(); n > 0 && !r.bad; n-- {
		s.Tablets = append(s.Tablets, api.Tablet{From: r.text(), Tables: r.list()})
	}
	if !r.whole() || !Check(s) {
		return api.State{}, api.ErrForm
	}
	return s, api.OK
}
