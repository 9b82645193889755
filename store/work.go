package store

import (
	"slices"

	"spoor/api"
	"spoor/edits"
	"spoor/files"
	"spoor/memory"
	"spoor/tables"
	"spoor/tablets"
)

// sweep removes all tables' files that no tablet has, and the draft.
func (s *Store) sweep(state api.State) api.Errno {
	named := edits.Files(state)
	return files.Clear(s.disk, func(name string) bool {
		n, ok := files.Number(name, kind, 1, api.MaxID)
		return name == draft || ok && !slices.Contains(named, n)
	})
}

// lay makes a table's file of cells.
func (s *Store) lay(l []api.Cell, number int) (*tables.Table, api.Errno) {
	text, e := tables.Build(l)
	if e != api.OK {
		return nil, e
	}
	if e := files.Lay(s.disk, draft, files.Name(kind, number), text); e != api.OK {
		return nil, e
	}
	return tables.Open(text)
}

// do lets the manifest say one thing more.
func (s *Store) do(x api.Edit) api.Errno { return s.manifest.Do([]api.Edit{x}) }

// say lets the manifest say one thing more; tables that no tablet has then are closed, and their files go.
func (s *Store) say(x api.Edit) api.Errno {
	if e := s.do(x); e != api.OK {
		return e
	}
	state := s.State()
	named := edits.Files(state)
	for n := range s.tables {
		if !slices.Contains(named, n) {
			delete(s.tables, n)
		}
	}
	return s.sweep(state)
}

// place is what the manifest says, if there is a tablet at a place.
func (s *Store) place(at int) (api.State, api.Errno) {
	if e := s.over(); e != api.OK {
		return api.State{}, e
	}
	state := s.State()
	if at < 0 || at >= len(state.Tablets) {
		return api.State{}, api.ErrNone
	}
	return state, api.OK
}

// Flush makes a table of what a tablet has in memory.
func (s *Store) Flush(at int) api.Errno {
	state, e := s.place(at)
	if e != api.OK || s.Held(at) == 0 {
		return e
	}
	if len(state.Tablets[at].Tables) == api.MaxTables {
		return api.ErrLong
	}
	t, e := s.lay(s.memories[at].Range("", ""), state.Next)
	if e != api.OK {
		return e
	}
	if e := s.say(api.Edit{Kind: api.EdTable, At: at, File: state.Next}); e != api.OK {
		return e
	}
	s.tables[state.Next] = t
	s.memories[at] = memory.New()
	return api.OK
}

// Compact makes one table of a tablet's tables, without cells that are dropped.
func (s *Store) Compact(at int, drop func(api.Cell) bool) api.Errno {
	state, e := s.place(at)
	if e != api.OK || len(state.Tablets[at].Tables) == 0 {
		return e
	}
	l, e := tablets.Merge(s.tablet(state, at), drop)
	if e != api.OK {
		return e
	}
	if len(l) == 0 {
		return s.say(api.Edit{Kind: api.EdSwap, At: at})
	}
	t, e := s.lay(l, state.Next)
	if e != api.OK {
		return e
	}
	if e := s.say(api.Edit{Kind: api.EdSwap, At: at, Files: []int{state.Next}}); e != api.OK {
		return e
	}
	s.tables[state.Next] = t
	return api.OK
}

// Split parts a tablet in halves.
func (s *Store) Split(at int) api.Errno {
	state, e := s.place(at)
	if e != api.OK {
		return e
	}
	key, ok := tablets.Middle(s.tablet(state, at))
	if !ok || len(state.Tablets) == api.MaxTablets {
		return api.ErrNone
	}
	if e := s.do(api.Edit{Kind: api.EdSplit, At: at, Key: key}); e != api.OK {
		return e
	}
	low, high := s.memories[at].Cut(key)
	s.memories[at] = low
	s.memories = slices.Insert(s.memories, at+1, high)
	return api.OK
}

// Merge makes one of a tablet and the next one.
func (s *Store) Merge(at int) api.Errno {
	state, e := s.place(at)
	if e != api.OK {
		return e
	}
	if at == len(state.Tablets)-1 {
		return api.ErrNone
	}
	both := slices.Concat(state.Tablets[at].Tables, state.Tablets[at+1].Tables)
	slices.Sort(both)
	if s.Held(at)+s.Held(at+1) > api.MaxTable || len(slices.Compact(both)) > api.MaxTables {
		return api.ErrLong
	}
	if e := s.do(api.Edit{Kind: api.EdMerge, At: at}); e != api.OK {
		return e
	}
	s.memories[at] = memory.Join(s.memories[at], s.memories[at+1])
	s.memories = slices.Delete(s.memories, at+1, at+2)
	return api.OK
}

// Trim flushes all, and lets the journal begin anew.
func (s *Store) Trim() api.Errno {
	if e := s.over(); e != api.OK {
		return e
	}
	for at := range s.memories {
		if e := s.Flush(at); e != api.OK {
			return e
		}
	}
	number := s.State().Next
	if e := s.do(api.Edit{Kind: api.EdLog, File: number}); e != api.OK {
		return e
	}
	return s.journal.Begin(number)
}
