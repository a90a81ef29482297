package dump

import (
	"strconv"
	"strings"

	"catchment/api"
	"catchment/script"
)

// fault is what ends a reader: what is wrong, and at which line.
type fault struct {
	line int
	err  api.Errno
}

// reader reads lines, and gives up by panic with a fault: what is wrong first
// ends it, however deep it is.
type reader struct {
	left  string
	line  int
	nodes []api.Node
	at    int // the node that was told last (0: none so far)
}

// Parse is the tree that a text is.
func Parse(s string) (t api.Tree, line int, err api.Errno) {
	if len(s) > mostBytes {
		return api.Tree{}, 0, api.ErrLimit
	}
	defer func() {
		switch f := recover().(type) {
		case nil:
		case fault:
			t, line, err = api.Tree{}, f.line, f.err
		default:
			panic(f)
		}
	}()
	r := &reader{left: s}
	r.head()
	for r.left != "" {
		r.body(r.next())
	}
	return api.Tree{Nodes: r.nodes}, 0, api.OK
}

func (r *reader) check(ok bool, err api.Errno) {
	if !ok {
		panic(fault{r.line, err})
	}
}

// next is the words of the next line.
func (r *reader) next() []string {
	r.line++
	line, left, ok := strings.Cut(r.left, "\n")
	r.check(ok, api.ErrEnd)
	r.left = left
	return strings.Split(line, " ")
}

// number is a number that is written as one is printed.
func (r *reader) number(s string, least, most int) int {
	n, err := strconv.Atoi(s)
	r.check(err == nil && strconv.Itoa(n) == s && n >= least && n <= most, api.ErrForm)
	return n
}

func (r *reader) text(s string) string {
	t, err := script.FromToken(s)
	r.check(err == api.OK, err)
	return t
}

// head is the line that says how many nodes there are.
func (r *reader) head() {
	words := r.next()
	r.check(words[0] == "tree" && len(words) == 2, api.ErrForm)
	n := r.number(words[1], 0, api.MaxNum)
	r.check(n <= mostNodes, api.ErrLimit)
	r.nodes = make([]api.Node, n)
}

// body is a line of a node, or of what the node that was told last has.
func (r *reader) body(words []string) {
	switch words[0] {
	case "leaf":
		r.check(len(words) == 2, api.ErrForm)
		r.begin(words[1]).Kind = api.Leaf
	case "inner":
		// The number, and one kid more than there are pivots.
		r.check(len(words) >= 3 && len(words)%2 == 1, api.ErrForm)
		r.inner(r.begin(words[1]), words[2:])
	case "block":
		n := r.last(api.Leaf)
		n.Blocks = append(n.Blocks, r.block(words[1:]))
	default:
		n := r.last(api.Inner)
		n.Msgs = append(n.Msgs, r.msg(words))
	}
}

// begin is the node of a number that comes next.
func (r *reader) begin(word string) *api.Node {
	r.at = r.number(word, r.at+1, len(r.nodes)-1)
	return &r.nodes[r.at]
}

// last is the node that was told last, which must be of a kind.
func (r *reader) last(kind api.NodeKind) *api.Node {
	r.check(r.at > 0 && r.nodes[r.at].Kind == kind, api.ErrForm)
	return &r.nodes[r.at]
}

func (r *reader) inner(n *api.Node, turns []string) {
	n.Kind = api.Inner
	for i, word := range turns {
		if i%2 == 0 {
			n.Kids = append(n.Kids, r.number(word, 0, api.MaxNum))
		} else {
			n.Pivots = append(n.Pivots, r.text(word))
		}
	}
}

func (r *reader) block(words []string) []api.Entry {
	r.check(len(words)%2 == 0, api.ErrForm)
	var e []api.Entry
	for i := 0; i < len(words); i += 2 {
		e = append(e, api.Entry{Key: r.text(words[i]), Value: r.text(words[i+1])})
	}
	return e
}

func (r *reader) msg(words []string) api.Msg {
	m := api.Msg{}
	is := func(word string, more int, kind api.Kind) bool {
		if words[0] != word || len(words) != more+1 {
			return false
		}
		m = api.Msg{Kind: kind, Seq: r.number(words[1], -api.MaxTags, api.MaxTags), Key: r.text(words[2])}
		return true
	}
	switch {
	case is("put", 3, api.Put):
		m.Value = r.text(words[3])
	case is("delete", 2, api.Delete):
	case is("add", 3, api.Add):
		n, err := strconv.ParseUint(words[3], 10, 64)
		r.check(err == nil && strconv.FormatUint(n, 10) == words[3], api.ErrForm)
		m.Delta = n
	case is("clear", 3, api.Clear):
		m.To = r.text(words[3])
	default:
		r.check(false, api.ErrForm)
	}
	return m
}
