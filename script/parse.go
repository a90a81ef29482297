package script

import (
	"strings"

	"catchment/api"
)

// fault is what ends a reader: what is wrong, and at which line.
type fault struct {
	line int
	err  api.Errno
}

// reader reads lines, and gives up by panic with a fault: what is wrong first
// ends it, however deep it is.
type reader struct {
	left string
	line int
}

// Parse is the script that a text is.
func Parse(s string) (x api.Script, line int, err api.Errno) {
	if len(s) > mostBytes {
		return api.Script{}, 0, api.ErrLimit
	}
	defer func() {
		switch f := recover().(type) {
		case nil:
		case fault:
			x, line, err = api.Script{}, f.line, f.err
		default:
			panic(f)
		}
	}()
	r := &reader{left: s}
	x.Config = r.sizes()
	x.Ops, x.Picks = r.rows()
	if r.left != "" {
		r.next()
		r.check(false, api.ErrForm)
	}
	return x, 0, api.OK
}

func (r *reader) check(ok bool, err api.Errno) {
	if !ok {
		panic(fault{r.line, err})
	}
}

// next is the words of the next line.
func (r *reader) next() []string {
	r.line++
	line, left, ok := strings.Cut(r.left, "\n")
	r.check(ok, api.ErrEnd)
	r.left = left
	return strings.Split(line, " ")
}

func (r *reader) number(s string) int {
	n, ok := number(s)
	r.check(ok, api.ErrForm)
	return n
}

func (r *reader) numbers(words []string) []int {
	var l []int
	for _, w := range words {
		l = append(l, r.number(w))
	}
	return l
}

func (r *reader) text(s string) string {
	t, err := FromToken(s)
	r.check(err == api.OK, err)
	return t
}

func (r *reader) sizes() api.Config {
	words := r.next()
	r.check(words[0] == "sizes" && len(words) == 10, api.ErrForm)
	n := r.numbers(words[1:])
	return api.Config{Key: n[0], Value: n[1], Fanout: n[2], Buffer: n[3], Leaf: n[4], Block: n[5], Nodes: n[6], Budget: n[7], Chunk: n[8]}
}

// rows is the rows of operations, and the picks that come last.
func (r *reader) rows() ([][]api.Op, []int) {
	var rows [][]api.Op
	for {
		words := r.next()
		switch last := len(rows) - 1; {
		case words[0] == "picks":
			return rows, r.numbers(words[1:])
		case words[0] == "session" && len(words) == 1:
			rows = append(rows, nil)
		default:
			r.check(last >= 0, api.ErrForm)
			rows[last] = append(rows[last], r.op(words))
		}
	}
}

// op is the operation that words begin; the lines of its messages come behind.
func (r *reader) op(words []string) api.Op {
	is := func(word string, more int) bool { return words[0] == word && len(words) == more+1 }
	switch {
	case is("get", 1):
		return api.Op{Kind: api.Get, Key: r.text(words[1])}
	case is("look", 3):
		return api.Op{Kind: api.Look, Key: r.text(words[1]), To: r.text(words[2]), N: r.number(words[3])}
	case is("open", 2):
		return api.Op{Kind: api.Open, Key: r.text(words[1]), To: r.text(words[2])}
	case is("next", 1):
		return api.Op{Kind: api.Next, N: r.number(words[1])}
	case is("close", 1):
		return api.Op{Kind: api.Close, N: r.number(words[1])}
	}
	r.check(is("send", 1), api.ErrForm)
	return api.Op{Kind: api.Send, Batch: r.batch(words[1])}
}

func (r *reader) batch(many string) []api.Msg {
	n := r.number(many)
	r.check(n >= 0, api.ErrForm)
	r.check(n <= mostMsgs, api.ErrLimit)
	var l []api.Msg
	for range n {
		l = append(l, r.msg(r.next()))
	}
	return l
}

func (r *reader) msg(words []string) api.Msg {
	is := func(word string, more int) bool { return words[0] == word && len(words) == more+1 }
	switch {
	case is("put", 2):
		return api.Msg{Kind: api.Put, Key: r.text(words[1]), Value: r.text(words[2])}
	case is("delete", 1):
		return api.Msg{Kind: api.Delete, Key: r.text(words[1])}
	case is("add", 2):
		n, ok := delta(words[2])
		r.check(ok, api.ErrForm)
		return api.Msg{Kind: api.Add, Key: r.text(words[1]), Delta: n}
	}
	r.check(is("clear", 2), api.ErrForm)
	return api.Msg{Kind: api.Clear, Key: r.text(words[1]), To: r.text(words[2])}
}
