package script

import (
	"strconv"
	"strings"

	"catchment/api"
	"catchment/msg"
	"catchment/room"
)

// anySizes is sizes with which a message, or an operation, is asked of its form alone.
var anySizes = api.Config{Key: api.MaxNum, Value: api.MaxNum, Chunk: api.MaxNum}

// mayPrint: may a script be printed?
func mayPrint(x api.Script) api.Errno {
	numbers := numbersOf(x.Config)
	for _, n := range append(numbers, x.Picks...) {
		if !inRange(n) {
			return api.ErrForm
		}
	}
	long := false
	for _, row := range x.Ops {
		for _, o := range row {
			if !formed(o) {
				return api.ErrForm
			}
			long = long || len(o.Batch) > mostMsgs
		}
	}
	if long {
		return api.ErrLimit
	}
	return api.OK
}

// formed: has an operation, and each of its messages, a kind and nothing that
// does not belong to it, and no number out of its range?
func formed(o api.Op) bool {
	for _, m := range o.Batch {
		if m.Seq != 0 || msg.Check(m, anySizes) == api.ErrForm {
			return false
		}
	}
	return inRange(o.N) && room.Ask(o, anySizes) != api.ErrForm
}

// numbersOf is a Config's numbers, in the order of its fields.
func numbersOf(c api.Config) []int {
	return []int{c.Key, c.Value, c.Fanout, c.Buffer, c.Leaf, c.Block, c.Nodes, c.Budget, c.Chunk}
}

// printer puts lines together, as long as they are not too many bytes.
type printer struct{ b strings.Builder }

// line is words, parted by blanks, with a byte 10 behind.
func (p *printer) line(words ...string) {
	if p.b.Len() > mostBytes {
		return
	}
	for i, w := range words {
		if i > 0 {
			p.b.WriteByte(' ')
		}
		p.b.WriteString(w)
	}
	p.b.WriteByte('\n')
}

// numbers is a word, and numbers.
func (p *printer) numbers(word string, l []int) {
	words := []string{word}
	for _, n := range l {
		words = append(words, strconv.Itoa(n))
	}
	p.line(words...)
}

// Print is a script as text.
func Print(x api.Script) (string, api.Errno) {
	if err := mayPrint(x); err != api.OK {
		return "", err
	}
	p := &printer{}
	p.numbers("sizes", numbersOf(x.Config))
	for _, row := range x.Ops {
		p.line("session")
		for _, o := range row {
			p.op(o)
		}
	}
	p.numbers("picks", x.Picks)
	if p.b.Len() > mostBytes {
		return "", api.ErrLimit
	}
	return p.b.String(), api.OK
}

func (p *printer) op(o api.Op) {
	n := strconv.Itoa(o.N)
	switch o.Kind {
	case api.Get:
		p.line("get", Token(o.Key))
	case api.Look:
		p.line("look", Token(o.Key), Token(o.To), n)
	case api.Open:
		p.line("open", Token(o.Key), Token(o.To))
	case api.Next:
		p.line("next", n)
	case api.Close:
		p.line("close", n)
	case api.Send:
		p.line("send", strconv.Itoa(len(o.Batch)))
		for _, m := range o.Batch {
			p.msg(m)
		}
	}
}

func (p *printer) msg(m api.Msg) {
	k := Token(m.Key)
	switch m.Kind {
	case api.Put:
		p.line("put", k, Token(m.Value))
	case api.Delete:
		p.line("delete", k)
	case api.Add:
		p.line("add", k, strconv.FormatUint(m.Delta, 10))
	case api.Clear:
		p.line("clear", k, Token(m.To))
	}
}
