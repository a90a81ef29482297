package block

import (
	"strings"

	"catchment/api"
	"catchment/fold"
	"catchment/key"
	"catchment/word"
)

// Pack is a block as bytes.
func Pack(e []api.Entry) string {
	if len(e) > api.MaxNum || !fold.Rises(e) {
		return ""
	}
	var b strings.Builder
	b.WriteString(word.Num(len(e)))
	ahead := ""
	for _, x := range e {
		shared := key.Shared(ahead, x.Key)
		b.WriteString(word.Num(shared))
		b.WriteString(word.Texts(x.Key[shared:], x.Value))
		ahead = x.Key
	}
	return b.String()
}

// Unpack is the block that bytes are.
func Unpack(s string) (e []api.Entry, err api.Errno) {
	r := &reader{left: s}
	defer func() {
		switch x := recover().(type) {
		case nil:
		case api.Errno:
			e, err = nil, x
		default:
			panic(x)
		}
	}()
	for n := r.num(); n > 0; n-- {
		e = append(e, r.entry(e))
	}
	r.check(r.left == "", api.ErrForm)
	return e, api.OK
}

// reader reads a block's bytes from the left, and gives up by panic with an
// error's number: what is wrong first ends it, however deep it is.
type reader struct{ left string }

func (r *reader) check(ok bool, err api.Errno) {
	if !ok {
		panic(err)
	}
}

func (r *reader) num() int {
	n, left, err := word.TakeNum(r.left)
	r.check(err == api.OK, err)
	r.left = left
	return n
}

func (r *reader) text(most int) string {
	s, left, err := word.TakeText(r.left, most)
	r.check(err == api.OK, err)
	r.left = left
	return s
}

// entry is the next entry behind those that were read.
func (r *reader) entry(e []api.Entry) api.Entry {
	ahead := ""
	if len(e) > 0 {
		ahead = e[len(e)-1].Key
	}
	shared := r.num()
	r.check(shared <= len(ahead), api.ErrForm)
	s := ahead[:shared] + r.text(api.MaxKey)
	if len(e) > 0 {
		r.check(s > ahead && key.Shared(ahead, s) == shared, api.ErrOrder)
	}
	return api.Entry{Key: s, Value: r.text(api.MaxValue)}
}
