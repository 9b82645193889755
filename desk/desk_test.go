package desk_test

import (
	"math/rand"
	"slices"
	"strings"
	"testing"

	"spoor/api"
	"spoor/desk"
)

func sample() api.Span {
	return api.Span{Trace: 3, ID: 1, Service: "a", Host: "h", Start: 10, Dur: 2, Note: "note"}
}

func same(a, b api.Step) bool {
	return a.Kind == b.Kind && a.Node == b.Node && a.N == b.N && a.Span == b.Span && slices.Equal(a.Keep, b.Keep)
}

func TestLines(t *testing.T) {
	bare := sample()
	bare.Note = ""
	for line, want := range map[string]api.Step{
		"log 0 3 1 0 a h 10 2 note":      {Kind: api.StLog, Span: sample()},
		"log 3 3 1 0 a h 10 2 -":         {Kind: api.StLog, Node: 3, Span: bare},
		"sync 2":                         {Kind: api.StSync, Node: 2},
		"rotate 0":                       {Kind: api.StRotate},
		"retain 1 7":                     {Kind: api.StRetain, Node: 1, N: 7},
		"daemon 1":                       {Kind: api.StDaemon, Node: 1},
		"tick -1":                        {Kind: api.StTick, Node: -1},
		"restart 2":                      {Kind: api.StRestart, Node: 2},
		"deliver 5":                      {Kind: api.StDeliver, N: 5},
		"double 0":                       {Kind: api.StDouble},
		"lose 63":                        {Kind: api.StLose, N: 63},
		"flush 1":                        {Kind: api.StFlush, N: 1},
		"compact 2":                      {Kind: api.StCompact, N: 2},
		"split -3":                       {Kind: api.StSplit, N: -3},
		"merge 4":                        {Kind: api.StMerge, N: 4},
		"trim":                           {Kind: api.StTrim},
		"crash -1":                       {Kind: api.StCrash, Node: -1},
		"crash 0 1 -2 3":                 {Kind: api.StCrash, Keep: []int{1, -2, 3}},
		"fail -1 5":                      {Kind: api.StFail, Node: -1, N: 5},
		"fail 1 0 9999999999 -999999999": {Kind: api.StFail, Node: 1, Keep: []int{9999999999, -999999999}},
		"flush 99999999999":              {Kind: api.StFlush, N: 99999999999},
		"flush -9999999999":              {Kind: api.StFlush, N: -9999999999},
	} {
		if x, ok := desk.Read(line); !same(x, want) || !ok {
			t.Errorf("Read %q: %+v %v", line, x, ok)
		}
		if s, ok := desk.Write(want); s != line || !ok {
			t.Errorf("Write %+v: %q %v, not %q", want, s, ok, line)
		}
	}
	if s, ok := desk.Write(api.Step{Kind: api.StCrash, Keep: []int{}}); s != "crash 0" || !ok {
		t.Error(s, ok)
	}
}

func TestNoLines(t *testing.T) {
	for _, line := range []string{"", " ", "sync", "sync ", " sync 0", "sync  0", "sync 0 ", "sync 0 0", "Sync 0", "sync x", "sync 00", "sync 01", "sync +1", "sync -0", "sync -01", "sync 1.0", "sync 0x1", "sync -", "sync 100000000000", "sync -10000000000", "sync 99999999999999999999", "sync\t0", "sync 0\n",
		"trim 0", "retain 1", "retain 1 2 3", "deliver", "crash", "crash x", "crash 0 x", "crash 0 1 ", "fail 0", "fail 0 x", "log 0 3 1 0 a h 10 2", "log 0 3 1 0 a h 10 2 - -", "log 0 3 1 0 a h 10 2 two words", "log 3 1 0 a h 10 2 -", "log 0 3 x 0 a h 10 2 -", "log 0 3 1 0 a h 10 2 ",
		"ok", "get 3", "hosts 1 1000", "audit", "rest", "mail", "#sync 0", "error 4"} {
		if x, ok := desk.Read(line); ok || !same(x, api.Step{}) {
			t.Errorf("Read %q: %+v", line, x)
		}
	}
	with := func(change func(s *api.Span)) api.Step {
		s := sample()
		change(&s)
		return api.Step{Kind: api.StLog, Span: s}
	}
	for _, x := range []api.Step{{}, {Kind: 18}, {Kind: -1}, {Kind: api.StSync, N: 1}, {Kind: api.StSync, Span: sample()}, {Kind: api.StSync, Keep: []int{0}}, {Kind: api.StTrim, Node: 1}, {Kind: api.StDeliver, Node: 1}, {Kind: api.StCrash, N: 1}, {Kind: api.StLog, N: 1, Span: sample()}, {Kind: api.StRetain, Keep: []int{1}},
		{Kind: api.StFlush, N: 100000000000}, {Kind: api.StFlush, N: -10000000000}, {Kind: api.StCrash, Keep: []int{1, 100000000000}},
		with(func(s *api.Span) { s.Note = "-" }), with(func(s *api.Span) { s.Note = "two words" }), with(func(s *api.Span) { s.Host = "h h" }), with(func(s *api.Span) { s.Start = 100000000000 })} {
		if s, ok := desk.Write(x); ok || s != "" {
			t.Errorf("Write %+v: %q", x, s)
		}
	}
}

// tells holds what a desk tells of a line, or its error, against what it should be.
func tells(t *testing.T, d *desk.Desk, line string, want ...string) {
	t.Helper()
	s, e := d.Do(line)
	if e != api.OK && s != "" {
		t.Errorf("%s: %q, beside %v", line, s, e)
	}
	if e != api.OK {
		s = "error " + strings.TrimPrefix(e.Error(), "spoor: error ") + "\n"
	}
	if s != strings.Join(want, "\n")+"\n" {
		t.Errorf("%s: %q, not %q", line, s, want)
	}
}

func TestExamples(t *testing.T) {
	d := desk.New()
	tells(t, d, "tick 0", "error 4")
	tells(t, d, "hosts 0 9", "error 2")
	tells(t, d, "hosts 1 100000", "ok")
	for _, line := range []string{"log 0 3 1 0 a h 10 2 -", "log 0 3 2 1 a h 11 1 hello", "sync 0", "daemon 0"} {
		tells(t, d, line, "ok")
	}
	tells(t, d, "mail", "mail 1")
	tells(t, d, "deliver 0", "ok")
	tells(t, d, "deliver 0", "ok")
	tells(t, d, "cursor 0", "cursor 2 0 log 0 2 2")
	one, two := "3 1 0 a h 10 2 -", "3 2 1 a h 11 1 hello"
	tells(t, d, "get 3", "trace 3 2", "span "+one, "span "+two)
	tells(t, d, "tree 3", "root 0 "+one, "kid 1 "+two, "end")
	tells(t, d, "find a h 11 20 5", "traces 3")
	tells(t, d, "scan 0 1", "trace 3 2", "span "+one, "span "+two, "next 3 false")
	tells(t, d, "flush 0", "ok")
	tells(t, d, "split 0", "ok")
	tells(t, d, "audit", "fits true sound true")
	tells(t, d, "crash -1", "ok")
	tells(t, d, "get 3", "error 250")
	tells(t, d, "restart -1", "ok")
	tells(t, d, "rest", "rest 0 true")
}

func TestErrors(t *testing.T) {
	for _, d := range []*desk.Desk{nil, {}} {
		for _, line := range []string{"", "hosts 1 1000", "sync 0", strings.Repeat("x", 5000)} {
			if s, e := d.Do(line); s != "" || e != api.ErrNil {
				t.Error(line, s, e)
			}
		}
	}
	d := desk.New()
	for _, line := range []string{"get 3", "tree 3", "scan 0 1", "find a h 0 1 1", "cursor 0", "mail", "audit", "rest", "hosts 1", "hosts 1 1000 1", "hosts x 1000", "hosts", "", "nothing"} {
		tells(t, d, line, "error 310")
	}
	tells(t, d, "trim", "error 4")
	tells(t, d, "hosts 1 3", "error 50")
	tells(t, d, "trim", "error 4")
	tells(t, d, "hosts 2 5000", "ok")
	for _, line := range []string{"get", "get x", "get 3 4", "get 03", "scan 0", "scan 0 1 2", "find a h 0 1", "find a h x 1 1", "cursor", "mail 0", "audit 1", "rest ", "GET 3", "tree", "tree 1 2", "hosts", " get 3", "get 3 "} {
		tells(t, d, line, "error 310")
	}
	for _, line := range []string{"get 0", "get -1", "tree 0", "scan -1 1", "scan 0 0", "scan 0 65", "find toolonganame13 h 0 1 1", "find a h 1 1 0", "cursor 2", "retain 0 0"} {
		tells(t, d, line, "error 2")
	}
	for _, line := range []string{"deliver 0", "lose 0", "double 3", "flush 1", "split 0"} {
		tells(t, d, line, "error 4")
	}
	long := "crash 0" + strings.Repeat(" 1", 3000)
	tells(t, d, long, "error 3")
	longest := "crash 1" + strings.Repeat(" 1", (4096-7)/2-1) + " 11"
	if len(longest) != api.MaxLine {
		t.Error(len(longest))
	}
	tells(t, d, longest+"1", "error 3")
	tells(t, d, longest, "ok")
	tells(t, d, "cursor 1", "cursor 0 0 log 0 0 0")
	tells(t, d, "find a h 5 4 1", "traces")
	tells(t, d, "scan 7 1", "next 7 false")
	tells(t, d, "get 9", "trace 9 0")
	tells(t, d, "tree 9", "end")
	tells(t, d, "crash -1", "ok")
	for _, line := range []string{"get 3", "tree 3", "scan 0 1", "find a h 0 1 1", "flush 0", "trim"} {
		tells(t, d, line, "error 250")
	}
	tells(t, d, "audit", "fits false sound true")
	// A new farm comes in the place of the old one; with an error that stays.
	tells(t, d, "hosts 9 9", "error 2")
	tells(t, d, "get 3", "error 250")
	tells(t, d, "hosts 1 5000", "ok")
	tells(t, d, "get 3", "trace 3 0")
}

func TestAnswers(t *testing.T) {
	d := desk.New()
	tells(t, d, "hosts 2 100000", "ok")
	for _, s := range []string{"5 5 9 a h 0 0 -", "5 6 5 b h 0 0 x", "5 1 0 a h 3 0 -", "5 7 8 a h 0 0 -", "5 8 7 a h 0 0 -", "7 1 0 a h 4 0 -"} {
		tells(t, d, "log 1 "+s, "ok")
	}
	tells(t, d, "sync 1", "ok")
	tells(t, d, "rest", "rest 1 true")
	tells(t, d, "tree 5", "root 0 5 1 0 a h 3 0 -", "orphan 0 5 5 9 a h 0 0 -", "kid 1 5 6 5 b h 0 0 x", "orphan 0 5 7 8 a h 0 0 -", "kid 1 5 8 7 a h 0 0 -", "end")
	tells(t, d, "scan 0 1", "trace 5 5", "span 5 1 0 a h 3 0 -", "span 5 5 9 a h 0 0 -", "span 5 6 5 b h 0 0 x", "span 5 7 8 a h 0 0 -", "span 5 8 7 a h 0 0 -", "next 5 true")
	tells(t, d, "scan 5 64", "trace 7 1", "span 7 1 0 a h 4 0 -", "next 7 false")
	tells(t, d, "find a h 3 9 5", "traces 5 7")
	tells(t, d, "find b h 0 9 5", "traces 5")
	tells(t, d, "cursor 1", "cursor 6 0 log 0 6 6")
	tells(t, d, "retain 0 1", "ok")
	tells(t, d, "daemon 0", "ok")
	tells(t, d, "mail", "mail 0")
}

func TestRun(t *testing.T) {
	for text, want := range map[string]string{
		"":                          "",
		"\n\n":                      "",
		"# a remark\n":              "",
		"tick 0":                    "error 4\n",
		"tick 0\n":                  "error 4\n",
		"#\nhosts 1 9999\n\nsync 0": "ok\nok\n",
		"hosts 1 9999\r\n":          "error 310\n",
		" #\n":                      "error 310\n",
		"x" + strings.Repeat("y", 5000) + "\nhosts 1 9999\nget 5\nmail": "error 3\nok\ntrace 5 0\nmail 0\n",
		"#" + strings.Repeat("y", 5000):                                 "",
	} {
		if got := desk.Run(text); got != want {
			t.Errorf("%.40q: %q, not %q", text, got, want)
		}
	}
}

// Read of Write is the step; a script that is run twice tells the same; and each farm on the way fits, and is sound.
func TestScripts(t *testing.T) {
	words := strings.Fields("log sync rotate retain daemon tick restart deliver double lose flush compact split merge trim crash fail log daemon deliver sync tick restart deliver log")
	for seed := range int64(25) {
		r := rand.New(rand.NewSource(seed))
		text := "hosts 2 200000\n"
		for range 300 {
			x := api.Step{Kind: 1 + r.Intn(17), Node: r.Intn(3) - 1, N: r.Intn(4)}
			line := words[r.Intn(len(words))]
			for word, kind := range map[string]int{"log": 1, "sync": 2, "daemon": 5, "tick": 6, "deliver": 7, "restart": 17} {
				if line == word {
					x.Kind = kind
				}
			}
			switch x.Kind {
			case api.StLog:
				x.N = 0
				x.Span = api.Span{Trace: 1 + r.Intn(5), ID: 1 + r.Intn(9), Parent: r.Intn(9), Service: "a", Host: "h", Start: r.Intn(9), Note: strings.Repeat("n", r.Intn(3))}
			case api.StCrash, api.StFail:
				x.Keep = []int{r.Intn(90), r.Intn(90) - 9}
			}
			if x.Kind == api.StTrim || x.Kind >= api.StDeliver && x.Kind <= api.StMerge {
				x.Node = 0
			}
			if x.Kind == api.StTrim || x.Kind <= api.StTick && x.Kind != api.StRetain || x.Kind == api.StCrash || x.Kind == api.StRestart {
				x.N = 0
			}
			line, ok := desk.Write(x)
			if back, read := desk.Read(line); !ok || !read || !same(back, x) {
				t.Fatalf("%+v: %q %+v", x, line, back)
			}
			text += line + "\n"
			if r.Intn(30) == 0 {
				text += "restart -1\nrestart 0\nrestart 1\naudit\nscan 0 64\n"
			}
		}
		for _, node := range []string{"-1", "0", "1"} {
			text += "crash " + node + "\nrestart " + node + "\n"
		}
		text += "rest\naudit\n"
		got := desk.Run(text)
		if got != desk.Run(text) {
			t.Fatal(seed, "it tells something else")
		}
		if strings.Contains(got, "sound false") || !strings.HasSuffix(got, "true\nfits true sound true\n") {
			t.Error(seed, got[max(0, len(got)-100):])
		}
	}
}
