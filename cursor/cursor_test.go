package cursor_test

import (
	"math"
	"math/rand/v2"
	"slices"
	"testing"

	"catchment/api"
	"catchment/cursor"
	"catchment/fold"
	"catchment/key"
	"catchment/sample"
)

func ents(keys ...string) []api.Entry {
	var l []api.Entry
	for _, k := range keys {
		l = append(l, api.Entry{Key: k})
	}
	return l
}

func open(t *testing.T, c *cursor.Table, r api.Range, want int) {
	t.Helper()
	if n, err := c.Open(r); n != want || err != api.OK {
		t.Fatalf("Open: %d, %d, want %d", n, err, want)
	}
}

func left(t *testing.T, c *cursor.Table, n int, want api.Range, wantEnd bool) {
	t.Helper()
	if r, end, err := c.Left(n); r != want || end != wantEnd || err != api.OK {
		t.Fatalf("Left(%d): %q, %v, %d, want %q, %v", n, r, end, err, want, wantEnd)
	}
}

func took(t *testing.T, c *cursor.Table, n int, l []api.Entry, most int, wantEnd bool, want api.Errno) {
	t.Helper()
	if end, err := c.Took(n, l, most); end != wantEnd || err != want {
		t.Fatalf("Took of %v, at most %d: %v, %d, want %v, %d", l, most, end, err, wantEnd, want)
	}
}

// P27.1
func TestOpenAndClose(t *testing.T) {
	c := cursor.New()
	for _, r := range []api.Range{{From: "b", To: "b"}, {From: "b", To: "a"}} {
		if n, err := c.Open(r); n != 0 || err != api.ErrRange {
			t.Errorf("Open(%q): %d, %d", r, n, err)
		}
	}
	open(t, c, api.Range{From: "a", To: "z"}, 1)
	open(t, c, api.Range{}, 2)
	open(t, c, api.Range{From: "c"}, 3)
	if c.Len() != 3 || c.Close(2) != api.OK || c.Len() != 2 || c.Close(2) != api.ErrCursor {
		t.Error("Close")
	}
	open(t, c, api.Range{}, 4) // none comes twice
	c.Close(4)
	open(t, c, api.Range{}, 5)
	for _, n := range []int{0, -1, 2, 4, 6, math.MaxInt, math.MinInt} {
		if r, end, err := c.Left(n); r != (api.Range{}) || end || err != api.ErrCursor {
			t.Errorf("Left(%d): %d", n, err)
		}
		took(t, c, n, ents("b", "a"), 0, false, api.ErrCursor)
		if c.Close(n) != api.ErrCursor {
			t.Errorf("Close(%d)", n)
		}
	}
}

// P27.2
func TestTook(t *testing.T) {
	c := cursor.New()
	open(t, c, api.Range{From: "a", To: "z"}, 1)
	left(t, c, 1, api.Range{From: "a", To: "z"}, false)
	took(t, c, 1, ents("b", "c"), 2, false, api.OK)
	left(t, c, 1, api.Range{From: "c\x00", To: "z"}, false)
	for _, x := range []struct {
		l    []api.Entry
		most int
		want api.Errno
	}{
		{nil, 0, api.ErrArg}, {nil, -1, api.ErrArg}, {ents("d", "e"), 0, api.ErrArg}, {ents("d", "e"), math.MinInt, api.ErrArg}, {ents("d", "e"), 1, api.ErrLimit}, {ents("e", "d"), 1, api.ErrLimit},
		{ents("e", "d"), 2, api.ErrOrder}, {ents("d", "d"), 2, api.ErrOrder}, {ents("c"), 2, api.ErrOrder}, {ents("d", "z"), 2, api.ErrOrder}, {ents("a"), 1, api.ErrOrder},
	} {
		took(t, c, 1, x.l, x.most, false, x.want)
		left(t, c, 1, api.Range{From: "c\x00", To: "z"}, false)
	}
	took(t, c, 1, ents("d"), 2, true, api.OK)
	left(t, c, 1, api.Range{}, true)
	took(t, c, 1, ents("e"), 2, false, api.ErrState)
	took(t, c, 1, ents("e"), 0, false, api.ErrState)
	took(t, c, 1, nil, 0, false, api.ErrArg)
	took(t, c, 1, nil, 2, true, api.OK)
	left(t, c, 1, api.Range{}, true)
	// as many as may be, but nothing lies above the last one
	open(t, c, api.Range{From: "a", To: "b\x00"}, 2)
	took(t, c, 2, ents("a", "b"), 2, true, api.OK)
	left(t, c, 2, api.Range{}, true)
	open(t, c, api.Range{}, 3)
	took(t, c, 3, ents("\xff"), 1, false, api.OK)
	left(t, c, 3, api.Range{From: "\xff\x00"}, false)
	took(t, c, 3, nil, math.MaxInt, true, api.OK)
}

// P27.3
func TestAllForkNil(t *testing.T) {
	c := cursor.New()
	for i, k := range []string{"a", "b", "c", "d"} {
		open(t, c, api.Range{From: k}, i+1)
	}
	c.Close(2)
	took(t, c, 3, nil, 1, true, api.OK)
	type one struct {
		n int
		r api.Range
	}
	all := func(c *cursor.Table) []one {
		var l []one
		for n, r := range c.All() {
			l = append(l, one{n, r})
		}
		return l
	}
	want := []one{{1, api.Range{From: "a"}}, {3, api.Range{}}, {4, api.Range{From: "d"}}}
	if got := all(c); !slices.Equal(got, want) {
		t.Error(got)
	}
	for range c.All() {
		break
	}
	f := c.Fork()
	open(t, f, api.Range{}, 5)
	f.Close(1)
	took(t, f, 4, ents("e"), 1, false, api.OK)
	if got := all(c); !slices.Equal(got, want) {
		t.Error("a fork changed the table", got)
	}
	open(t, c, api.Range{From: "x"}, 5)
	c.Close(4)
	left(t, f, 4, api.Range{From: "e\x00"}, false)
	left(t, f, 5, api.Range{}, false)
	left(t, f, 3, api.Range{}, true)
	var n *cursor.Table
	if i, err := n.Open(api.Range{}); i != 0 || err != api.ErrNil {
		t.Error("Open", err)
	}
	if _, err := n.Open(api.Range{From: "b", To: "a"}); err != api.ErrNil {
		t.Error("Open", err)
	}
	if r, end, err := n.Left(1); r != (api.Range{}) || end || err != api.ErrNil {
		t.Error("Left", err)
	}
	took(t, n, 1, nil, 0, false, api.ErrNil)
	if n.Close(1) != api.ErrNil || n.Len() != 0 || len(all(n)) != 0 || n.Fork() != nil {
		t.Error("nil")
	}
}

// P27.4, P27.5
func TestTellsAll(t *testing.T) {
	r := rand.New(rand.NewPCG(1, 1))
	for range 300 {
		var e []api.Entry
		for i := range sample.Keys {
			if r.IntN(2) == 0 {
				e = append(e, api.Entry{Key: sample.Key(i), Value: "v"})
			}
		}
		x := api.Range{From: sample.Key(r.IntN(30)), To: sample.Key(30 + r.IntN(30))}
		most := 1 + r.IntN(6)
		c := cursor.New()
		open(t, c, x, 1)
		var told []api.Entry
		for n := 0; ; n++ {
			rest, end, _ := c.Left(1)
			if end {
				break
			}
			l := fold.Some(nil, e, rest, most)
			told = append(told, l...)
			took(t, c, 1, l, most, len(l) < most, api.OK)
			if n > 100 {
				t.Fatal("it does not end")
			}
		}
		want := slices.DeleteFunc(e, func(y api.Entry) bool { return !key.Holds(x, y.Key) })
		if !slices.Equal(told, want) || !fold.Rises(told) {
			t.Fatalf("%v, want %v", told, want)
		}
	}
}
