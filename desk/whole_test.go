package desk_test

import (
	"strings"
	"testing"

	"spoor/desk"
)

// TestWhole runs the examples of the whole: each line, and behind it what it tells, if that is more than ok.
func TestWhole(t *testing.T) {
	ten := strings.Repeat("tick -1\n", 10)
	for name, x := range map[string][2]string{
		"one to three: sent, answered, and sent once more": {
			"hosts 1 100000\nlog 0 3 2 1 a h 11 1 b\nlog 0 3 1 0 a h 10 2 -\nsync 0\ndaemon 0\ndouble 0\nmail\ndeliver 0\ndeliver 1\ncursor 0\nget 3\ndeliver 0\nmail\nget 3",
			"mail 2|cursor 2 0 log 0 2 2|trace 3 2|span 3 1 0 a h 10 2 -|span 3 2 1 a h 11 1 b|mail 1|trace 3 2|span 3 1 0 a h 10 2 -|span 3 2 1 a h 11 1 b",
		},
		"four: a crash ahead of a sync": {
			"hosts 1 100000\nlog 0 3 1 0 a h 0 0 -\ncrash 0\nrestart 0\nsync 0\ndaemon 0\nmail\ncursor 0",
			"mail 0|cursor 0 0 log 0 0 0",
		},
		"five: a segment goes ahead of the cursor": {
			"hosts 1 100000\n" + strings.Repeat("log 0 3 1 0 a h 0 0 -\n", 17) + "sync 0\nretain 0 1\ncursor 0\ndaemon 0\ncursor 0",
			"cursor 0 0 log 16 17 17|cursor 16 16 log 16 17 17",
		},
		"six: the disk fails while a batch is laid, which is sent again": {
			"hosts 1 100000\nlog 0 3 1 0 a h 0 0 -\nsync 0\ndaemon 0\nfail -1 0 5\ndeliver 0\nget 3\nrestart -1\nget 3\naudit\nrest\nget 3\naudit",
			"error 51|error 250|trace 3 0|fits true sound true|rest 3 true|trace 3 1|span 3 1 0 a h 0 0 -|fits true sound true",
		},
		"six: and all of it is there": {
			"hosts 1 100000\nlog 0 3 1 0 a h 0 0 -\nsync 0\ndaemon 0\nfail -1 0 999\ndeliver 0\nrestart -1\nget 3\naudit\nrest\nget 3",
			"error 51|trace 3 1|span 3 1 0 a h 0 0 -|fits true sound true|rest 3 true|trace 3 1|span 3 1 0 a h 0 0 -",
		},
		"seven: find": {
			"hosts 1 100000\nlog 0 9 1 0 a h 20 0 -\nlog 0 3 1 0 a h 10 0 -\nlog 0 4 1 0 a h 11 0 -\nlog 0 5 1 0 a g 15 0 -\nlog 0 6 1 0 b h 15 0 -\nlog 0 7 1 0 a h 21 0 -\nsync 0\nrest\nfind a h 11 20 9",
			"rest 1 true|traces 4 9",
		},
		"eight: a span expires, and a compaction takes its cells away": {
			"hosts 1 100000\nlog 0 3 1 0 a h 0 0 -\nsync 0\nrest\nflush 0\n" + strings.Repeat(ten, 6) + "get 3\ncompact 0\nget 3\naudit",
			"rest 1 true|trace 3 0|trace 3 0|fits true sound true",
		},
		"nine: a scan, with a split between": {
			"hosts 1 100000\nlog 0 3 1 0 a h 0 0 -\nlog 0 1 1 0 a h 0 0 -\nlog 0 2 1 0 a h 0 0 -\nsync 0\nrest\nscan 0 2\nsplit 0\nscan 2 2",
			"rest 1 true|trace 1 1|span 1 1 0 a h 0 0 -|trace 2 1|span 2 1 0 a h 0 0 -|next 2 true|trace 3 1|span 3 1 0 a h 0 0 -|next 3 false",
		},
		"ten: by lines": {
			"hosts 1 100000\nlog 0 3 1 0 a h 10 2 -\nsync 0\nrest\nget 3",
			"rest 1 true|trace 3 1|span 3 1 0 a h 10 2 -",
		},
	} {
		got := []string{}
		for line := range strings.Lines(desk.Run(x[0])) {
			if line != "ok\n" {
				got = append(got, strings.TrimSuffix(line, "\n"))
			}
		}
		if s := strings.Join(got, "|"); s != x[1] {
			t.Errorf("%s: %s, not %s", name, s, x[1])
		}
	}
}
