package image_test

import (
	"math"
	"math/rand/v2"
	"strings"
	"testing"

	"catchment/api"
	"catchment/dump"
	"catchment/image"
	"catchment/sample"
	"catchment/tree"
	"catchment/word"
)

// P35.1
func TestWrite(t *testing.T) {
	for _, x := range []struct {
		t    api.Tree
		want string
	}{
		{tree.New(), "\x03\x00\x02\x01\x02\x00\x01\x00"},
		{api.Tree{}, "\x00"},
		{api.Tree{Nodes: make([]api.Node, 2)}, "\x02\x00\x00"},
		{api.Tree{Nodes: []api.Node{{}, {Kind: api.Leaf, Blocks: [][]api.Entry{{{Key: "ab", Value: "1"}, {Key: "ac", Value: "2"}}, nil}}}}, "\x02\x00\x01\x02\x0c\x02\x00\x02ab\x011\x01\x01c\x012\x01\x00"},
		{api.Tree{Nodes: []api.Node{{}, {Kind: api.Inner, Kids: []int{300, 0}, Pivots: []string{"m"}, Msgs: []api.Msg{{Kind: api.Put, Seq: 1, Key: "a", Value: "v"}, {Kind: api.Delete, Seq: 300, Key: ""}, {Kind: api.Add, Key: "b", Delta: 258}, {Kind: api.Clear, Seq: 2, Key: "c", To: "d"}}}}},
			"\x02\x00\x02\x02\xac\x02\x00\x01m\x04\x01\x01\x01a\x01v\x02\xac\x02\x00\x03\x00\x01b\x00\x00\x00\x00\x00\x00\x01\x02\x04\x02\x01c\x01d"},
	} {
		got, err := image.Write(x.t)
		if got != x.want || err != api.OK || image.Size(x.t) != len(x.want) {
			t.Errorf("%x, %d, Size %d, want %x", got, err, image.Size(x.t), x.want)
		}
		if back, err := image.Read(x.want); !dump.Same(back, x.t) || err != api.OK {
			t.Errorf("Read of %x: %+v, %d", x.want, back, err)
		}
	}
}

func TestWhatCanBeWritten(t *testing.T) {
	text := func(n int) string { return strings.Repeat("k", n) }
	leaf := func(k, v int) api.Node {
		return api.Node{Kind: api.Leaf, Blocks: [][]api.Entry{{{Key: text(k), Value: text(v)}}}}
	}
	inner := func(pivot int, kid int, m api.Msg) api.Node {
		return api.Node{Kind: api.Inner, Kids: []int{1, kid}, Pivots: []string{text(pivot)}, Msgs: []api.Msg{m}}
	}
	del := api.Msg{Kind: api.Delete}
	for i, x := range []struct {
		n  api.Node
		ok bool
	}{
		{leaf(256, 4096), true}, {leaf(257, 0), false}, {leaf(0, 4097), false}, {api.Node{Kind: api.Leaf, Blocks: [][]api.Entry{{{Key: "b"}, {Key: "a"}}}}, false}, {api.Node{Kind: api.Leaf, Blocks: [][]api.Entry{{{Key: "b"}}, {{Key: "a"}}, nil}}, true},
		{api.Node{Kind: api.Leaf, Kids: []int{1}}, false}, {api.Node{Kind: api.Leaf, Pivots: []string{"a"}}, false}, {api.Node{Kind: api.Leaf, Msgs: []api.Msg{del}}, false},
		{inner(257, 0, del), true}, {inner(258, 0, del), false}, {inner(0, -1, del), false}, {inner(0, api.MaxNum, del), true}, {inner(0, api.MaxNum+1, del), false},
		{inner(0, 1, api.Msg{}), false}, {inner(0, 1, api.Msg{Kind: 5}), false}, {inner(0, 1, api.Msg{Kind: api.Delete, To: "a"}), false}, {inner(0, 1, api.Msg{Kind: api.Put, Delta: 1}), false}, {inner(0, 1, api.Msg{Kind: api.Clear, Value: "a"}), false},
		{inner(0, 1, api.Msg{Kind: api.Delete, Seq: -1}), false}, {inner(0, 1, api.Msg{Kind: api.Delete, Seq: api.MaxNum}), true}, {inner(0, 1, api.Msg{Kind: api.Delete, Seq: api.MaxNum + 1}), false}, {inner(0, 1, api.Msg{Kind: api.Delete, Seq: math.MinInt}), false},
		{inner(0, 1, api.Msg{Kind: api.Delete, Key: text(257)}), true}, {inner(0, 1, api.Msg{Kind: api.Delete, Key: text(258)}), false}, {inner(0, 1, api.Msg{Kind: api.Clear, To: text(257)}), true}, {inner(0, 1, api.Msg{Kind: api.Clear, To: text(258)}), false},
		{inner(0, 1, api.Msg{Kind: api.Put, Value: text(4096)}), true}, {inner(0, 1, api.Msg{Kind: api.Put, Value: text(4097)}), false},
		{api.Node{Kind: api.Inner}, false}, {api.Node{Kind: api.Inner, Kids: []int{1}, Pivots: []string{"a"}}, false}, {api.Node{Kind: api.Inner, Kids: []int{1}, Blocks: make([][]api.Entry, 1)}, false},
		{api.Node{Kids: []int{1}}, false}, {api.Node{Msgs: []api.Msg{del}}, false}, {api.Node{Pivots: []string{"a"}}, false}, {api.Node{Blocks: make([][]api.Entry, 1)}, false}, {api.Node{Kind: 3}, false},
	} {
		y := api.Tree{Nodes: []api.Node{{}, x.n}}
		s, err := image.Write(y)
		sealed, err2 := image.Seal(y)
		if (err == api.OK) != x.ok || err2 != err || !x.ok && (err != api.ErrForm || s != "" || sealed != "" || image.Size(y) != 0) {
			t.Errorf("case %d: %d", i, err)
		}
		if back, err := image.Read(s); x.ok && (!dump.Same(back, y) || err != api.OK) {
			t.Errorf("case %d: Read %d", i, err)
		}
	}
	if _, err := image.Write(api.Tree{Nodes: []api.Node{{Kind: api.Leaf}}}); err != api.ErrForm {
		t.Error("the node 0", err)
	}
	for more, want := range []api.Errno{api.OK, api.ErrForm} {
		if _, err := image.Write(api.Tree{Nodes: make([]api.Node, api.MaxNodes+1+more)}); err != want {
			t.Error("many nodes", err)
		}
	}
}

func TestReadWrong(t *testing.T) {
	text := func(n int) string { return word.Text(strings.Repeat("k", n)) }
	long := "\x02\x00" + text(200) + "\x00" + word.Num(200) + text(57) + "\x00" // a block whose second key has 257 bytes
	for s, want := range map[string]api.Errno{
		"": api.ErrEnd, "\x80\x00": api.ErrForm, word.Num(4098): api.ErrLimit, word.Num(4097): api.ErrEnd, "\xff\xff\xff\xff\x07": api.ErrLimit, "\x00x": api.ErrForm, "\x01": api.ErrEnd,
		"\x01\x01": api.ErrForm, "\x01\x02": api.ErrForm, "\x01\x03": api.ErrForm, "\x02\x00": api.ErrEnd, "\x02\x00\x03": api.ErrForm, "\x02\x00\xff": api.ErrForm, "\x02\x00\x00\x00": api.ErrForm,
		"\x02\x00\x01": api.ErrEnd, "\x02\x00\x01\x80\x00": api.ErrForm, "\x02\x00\x01\x01": api.ErrEnd, "\x02\x00\x01\x01\x05\x00": api.ErrEnd, "\x02\x00\x01\x01\x00": api.ErrEnd, "\x02\x00\x01\x01\x02\x00x": api.ErrForm,
		"\x02\x00\x01\x01\x09\x02\x00\x01b\x00\x00\x01a\x00": api.ErrOrder, "\x02\x00\x01\xff\xff\xff\xff\x07\x01\x00": api.ErrEnd,
		"\x02\x00\x01\x01" + word.Text("\x01\x00"+text(257)+"\x00"): api.ErrLimit, "\x02\x00\x01\x01" + word.Text(long): api.ErrLimit,
		"\x02\x00\x02": api.ErrEnd, "\x02\x00\x02\x00": api.ErrForm, "\x02\x00\x02\x01": api.ErrEnd, "\x02\x00\x02\x01\x80\x00": api.ErrForm, "\x02\x00\x02\x02\x01\x02": api.ErrEnd, "\x02\x00\x02\x02\x01\x02" + text(258): api.ErrLimit, "\x02\x00\x02\xff\xff\xff\xff\x07\x01": api.ErrEnd,
		"\x02\x00\x02\x01\x05": api.ErrEnd, "\x02\x00\x02\x01\x05\x01": api.ErrEnd, "\x02\x00\x02\x01\x05\x01\x00": api.ErrForm, "\x02\x00\x02\x01\x05\x01\x05": api.ErrForm, "\x02\x00\x02\x01\x05\x01\x01": api.ErrEnd, "\x02\x00\x02\x01\x05\x01\x02\x01": api.ErrEnd,
		"\x02\x00\x02\x01\x05\x01\x02\x80\x00": api.ErrForm, "\x02\x00\x02\x01\x05\x01\x02\x01" + text(258): api.ErrLimit, "\x02\x00\x02\x01\x05\x01\x01\x01\x01a": api.ErrEnd, "\x02\x00\x02\x01\x05\x01\x01\x01\x01a" + text(4097): api.ErrLimit,
		"\x02\x00\x02\x01\x05\x01\x03\x01\x01a1234567": api.ErrEnd, "\x02\x00\x02\x01\x05\x01\x04\x01\x01a" + text(258): api.ErrLimit, "\x02\x00\x02\x01\x05\x01\x02\x01\x01az": api.ErrForm, "\x02\x00\x02\x01\x05\xff\xff\xff\xff\x07": api.ErrEnd,
	} {
		if x, err := image.Read(s); len(x.Nodes) != 0 || err != want {
			t.Errorf("Read(%.30x): %d, want %d", s, err, want)
		}
	}
}

// P35.2
func TestSealed(t *testing.T) {
	for s, want := range map[string]uint32{"": 2166136261, "a": 0xe40c292c, "foobar": 0xbf9cf968} {
		if got := image.Sum(s); got != want {
			t.Errorf("Sum(%q) = %x", s, got)
		}
	}
	x := tree.New()
	s, _ := image.Write(x)
	sum := image.Sum(s)
	want := s + string([]byte{byte(sum >> 24), byte(sum >> 16), byte(sum >> 8), byte(sum)})
	if got, err := image.Seal(x); got != want || err != api.OK {
		t.Errorf("Seal: %x, %d", got, err)
	}
	if got, err := image.Open(want); !dump.Same(got, x) || err != api.OK {
		t.Error("Open", err)
	}
	seal := func(s string) string {
		sum := image.Sum(s)
		return s + string([]byte{byte(sum >> 24), byte(sum >> 16), byte(sum >> 8), byte(sum)})
	}
	for s, err := range map[string]api.Errno{"": api.ErrEnd, "abc": api.ErrEnd, "abcd": api.ErrOrder, want + "x": api.ErrOrder, want[1:]: api.ErrOrder, seal(""): api.ErrEnd, seal("\x00x"): api.ErrForm, seal("\xff\x7f"): api.ErrLimit} {
		if got, e := image.Open(s); len(got.Nodes) != 0 || e != err {
			t.Errorf("Open(%x): %d, want %d", s, e, err)
		}
	}
}

// P35.3, P35.4
func TestComesBack(t *testing.T) {
	r := rand.New(rand.NewPCG(1, 1))
	for range 200 {
		x := sample.Tree(r.IntN, 2+r.IntN(3), 3)
		s, err := image.Write(x)
		if err != api.OK || image.Size(x) != len(s) {
			t.Fatal(err)
		}
		if y, err := image.Read(s); !dump.Same(x, y) || err != api.OK {
			t.Fatal(err)
		}
		sealed, _ := image.Seal(x)
		for range 50 {
			b := []byte(s)
			b[r.IntN(len(b))] = byte(r.IntN(256))
			if y, err := image.Read(string(b)); err == api.OK {
				if back, err := image.Write(y); back != string(b) || err != api.OK {
					t.Fatalf("%x is read, and written as %x", b, back)
				}
			}
			b = []byte(sealed)
			i := r.IntN(len(b))
			b[i] ^= byte(1 + r.IntN(255))
			if y, err := image.Open(string(b)); err == api.OK && dump.Same(x, y) {
				t.Fatal("a sealed tree of which a byte is another one is opened as it was")
			}
		}
	}
}
