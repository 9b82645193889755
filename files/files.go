// Package files is what several layers do alike with a disk: numbered names, drafts, changes one behind the other.
package files

import (
	"slices"
	"strconv"
	"strings"

	"spoor/api"
	"spoor/disk"
)

// Name is the name of the file of that kind and number.
func Name(kind string, n int) string { return kind + strconv.Itoa(n) }

// Number is the number of a file of that kind, from least to most, if the name is that of one.
func Number(name, kind string, least, most int) (int, bool) {
	digits, ok := strings.CutPrefix(name, kind)
	n, err := strconv.Atoi(digits)
	// What is written back otherwise had digits too many, or a sign.
	if !ok || err != nil || n < least || n > most || strconv.Itoa(n) != digits {
		return 0, false
	}
	return n, true
}

// Numbers are the numbers of a disk's files of that kind, rising.
func Numbers(d *disk.Disk, kind string, least, most int) []int {
	var l []int
	for _, name := range d.Names() {
		if n, ok := Number(name, kind, least, most); ok {
			l = append(l, n)
		}
	}
	slices.Sort(l)
	return l
}

// State is the error of a disk that is none, or down.
func State(d *disk.Disk) api.Errno {
	if _, e := d.Read(""); e == api.ErrNil || e == api.ErrDown {
		return e
	}
	return api.OK
}

// Row does what is given, one behind the other, up to the first error.
func Row(acts ...func() api.Errno) api.Errno {
	for _, act := range acts {
		if e := act(); e != api.OK {
			return e
		}
	}
	return api.OK
}

// Clear removes the files whose names are told to be gone, by names.
func Clear(d *disk.Disk, gone func(name string) bool) api.Errno {
	for _, name := range d.Names() {
		if !gone(name) {
			continue
		}
		if e := d.Remove(name); e != api.OK {
			return e
		}
	}
	return api.OK
}

// Lay writes a file by a draft: it is there wholly, or as it was.
func Lay(d *disk.Disk, draft, name, text string) api.Errno {
	return Row(
		func() api.Errno { return d.Append(draft, text) },
		func() api.Errno { return d.Sync(draft) },
		func() api.Errno { return d.Rename(draft, name) },
	)
}

// Renew is Lay, with a draft that may be left from before removed first.
func Renew(d *disk.Disk, draft, name, text string) api.Errno {
	if e := Clear(d, func(n string) bool { return n == draft }); e != api.OK {
		return e
	}
	return Lay(d, draft, name, text)
}

// Hold is what something that was opened has of its disk. It is over, once that is down, was started
// since, or told it an error but ErrFull: nobody knows then what the disk holds.
type Hold struct {
	Disk   *disk.Disk
	starts int
	over   bool
}

// On is a hold of a disk as it runs now.
func On(d *disk.Disk) Hold { return Hold{Disk: d, starts: d.Starts()} }

// State is ErrNil of a hold of no disk, ErrDown of one that is over.
func (h *Hold) State() api.Errno {
	switch {
	case h.Disk == nil:
		return api.ErrNil
	case h.over || !h.Disk.Up() || h.Disk.Starts() != h.starts:
		return api.ErrDown
	}
	return api.OK
}

// Do does what is given to the disk, one behind the other, and keeps in mind whether the hold is over by it.
func (h *Hold) Do(acts ...func() api.Errno) api.Errno {
	e := Row(acts...)
	if e != api.OK && e != api.ErrFull {
		h.over = true
	}
	return e
}
