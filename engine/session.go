package engine

import (
	"slices"

	"catchment/api"
	"catchment/cursor"
	"catchment/get"
	"catchment/room"
	"catchment/scan"
	"catchment/state"
	"catchment/write"
)

// work is what a session does step by step: a get, a write or a scan.
type work interface {
	Step(s *state.State) api.Move
	Done() bool
	Reply() api.Reply
	Effect() int
	Steps() int
}

// forkWork is a work by itself.
func forkWork(w work) work {
	switch x := w.(type) {
	case *get.Get:
		return x.Fork()
	case *write.Write:
		return x.Fork()
	case *scan.Scan:
		return x.Fork()
	}
	return nil
}

// session is a session's operations, of which one may be pending.
type session struct {
	who     int
	ops     []api.Op
	begun   int // how many of them were begun
	cursors *cursor.Table

	pending bool
	at      int       // where the one that is pending stands in the history
	work    work      // nil, when it is over
	reply   api.Reply // what it will be answered, when it is over
}

// sessionOf is a session that begins with the first of its operations.
func sessionOf(who int, ops []api.Op) session {
	own := make([]api.Op, 0, len(ops))
	for _, o := range ops {
		own = append(own, ownOp(o))
	}
	return session{who: who, ops: own, cursors: cursor.New()}
}

// ownOp is an operation in new memory.
func ownOp(o api.Op) api.Op {
	o.Batch = slices.Clone(o.Batch)
	return o
}

// fork is a session by itself. (Its operations are never changed.)
func (s session) fork() session {
	s.cursors, s.work = s.cursors.Fork(), forkWork(s.work)
	return s
}

// start begins an operation: what it is answered, if that is known at once.
func (s *session) start(o api.Op, c api.Config) (api.Reply, bool) {
	if err := room.Ask(o, c); err != api.OK {
		return api.Reply{Err: err}, true
	}
	r := api.Range{From: o.Key, To: o.To}
	switch o.Kind {
	case api.Get:
		s.work = get.New(s.who, o.Key, c.Budget)
	case api.Send:
		s.work = write.New(s.who, o.Batch)
	case api.Look:
		s.work = scan.New(s.who, r, o.N, c.Budget)
	case api.Open:
		n, err := s.cursors.Open(r)
		return api.Reply{N: n, Err: err}, true
	case api.Next:
		left, end, err := s.cursors.Left(o.N)
		if err != api.OK || end {
			return api.Reply{End: end, Err: err}, true
		}
		s.work = scan.New(s.who, left, c.Chunk, c.Budget)
	case api.Close:
		return api.Reply{Err: s.cursors.Close(o.N)}, true
	}
	return api.Reply{}, false
}

// told is the reply of an operation that is answered now: a cursor takes what it was told.
func (s *session) told(o api.Op, c api.Config) api.Reply {
	r := s.reply
	if o.Kind == api.Next && r.Err == api.OK && !r.End {
		r.End, r.Err = s.cursors.Took(o.N, r.Entries, c.Chunk)
	}
	return r
}
