package desk

import (
	"slices"
	"strconv"
	"strings"

	"spoor/api"
)

const (
	blank       = " "
	noNote      = "-"
	longestWord = 11 // bytes of a number
)

// words are a line's words that were not read yet; bad, once one was not what it should be.
type words struct {
	rest []string
	bad  bool
}

func split(line string) *words {
	return &words{rest: strings.Split(line, blank)}
}

// next is the next word.
func (w *words) next() string {
	if len(w.rest) == 0 || w.rest[0] == "" {
		w.bad = true
		return ""
	}
	word := w.rest[0]
	w.rest = w.rest[1:]
	return word
}

// number is the next word, as a number.
func (w *words) number() int {
	word := w.next()
	n, err := strconv.Atoi(word)
	// What is written back otherwise had digits too many, or a sign.
	if err != nil || strconv.Itoa(n) != word || len(word) > longestWord {
		w.bad = true
		return 0
	}
	return n
}

// numbers are all words that are left.
func (w *words) numbers() []int {
	var l []int
	for len(w.rest) > 0 && !w.bad {
		l = append(l, w.number())
	}
	return l
}

func (w *words) span() api.Span {
	s := api.Span{Trace: w.number(), ID: w.number(), Parent: w.number(), Service: w.next(), Host: w.next(), Start: w.number(), Dur: w.number(), Note: w.next()}
	if s.Note == noNote {
		s.Note = ""
	}
	return s
}

// whole tells whether all words were read, and were what they should be.
func (w *words) whole() bool { return !w.bad && len(w.rest) == 0 }

// row is a word, and numbers.
func row(word string, numbers ...int) string {
	for _, n := range numbers {
		word += blank + strconv.Itoa(n)
	}
	return word
}

// asWords is a span as words.
func asWords(s api.Span) string {
	note := s.Note
	if note == "" {
		note = noNote
	}
	return strings.Join([]string{row(strconv.Itoa(s.Trace), s.ID, s.Parent), s.Service, s.Host, row(strconv.Itoa(s.Start), s.Dur), note}, blank)
}

// form is what a step's line says behind its word, in this order.
type form struct {
	kind                int
	node, n, span, keep bool
}

// forms are the steps' lines, by their words.
func forms() map[string]form {
	return map[string]form{
		"log":     {kind: api.StLog, node: true, span: true},
		"sync":    {kind: api.StSync, node: true},
		"rotate":  {kind: api.StRotate, node: true},
		"retain":  {kind: api.StRetain, node: true, n: true},
		"daemon":  {kind: api.StDaemon, node: true},
		"tick":    {kind: api.StTick, node: true},
		"restart": {kind: api.StRestart, node: true},
		"deliver": {kind: api.StDeliver, n: true},
		"double":  {kind: api.StDouble, n: true},
		"lose":    {kind: api.StLose, n: true},
		"flush":   {kind: api.StFlush, n: true},
		"compact": {kind: api.StCompact, n: true},
		"split":   {kind: api.StSplit, n: true},
		"merge":   {kind: api.StMerge, n: true},
		"trim":    {kind: api.StTrim},
		"crash":   {kind: api.StCrash, node: true, keep: true},
		"fail":    {kind: api.StFail, node: true, n: true, keep: true},
	}
}

// Read is the step that a line says.
func Read(line string) (api.Step, bool) {
	w := split(line)
	f, ok := forms()[w.next()]
	x := api.Step{Kind: f.kind}
	if f.node {
		x.Node = w.number()
	}
	if f.n {
		x.N = w.number()
	}
	if f.span {
		x.Span = w.span()
	}
	if f.keep {
		x.Keep = w.numbers()
	}
	if !ok || !w.whole() {
		return api.Step{}, false
	}
	return x, true
}

// Write is the line that says a step.
func Write(x api.Step) (string, bool) {
	line := ""
	for word, f := range forms() {
		if f.kind == x.Kind {
			line = f.line(word, x)
		}
	}
	// A step that says more than its line does has none.
	back, ok := Read(line)
	if !ok || back.Kind != x.Kind || back.Node != x.Node || back.N != x.N || back.Span != x.Span || !slices.Equal(back.Keep, x.Keep) {
		return "", false
	}
	return line, true
}

// line is what a step's line of that form would be.
func (f form) line(word string, x api.Step) string {
	if f.node {
		word = row(word, x.Node)
	}
	if f.n {
		word = row(word, x.N)
	}
	if f.span {
		word += blank + asWords(x.Span)
	}
	if f.keep {
		word = row(word, x.Keep...)
	}
	return word
}
