package room_test

import (
	"math"
	"math/big"
	"math/rand/v2"
	"testing"

	"catchment/api"
	"catchment/room"
)

var sizes = api.Config{Key: 3, Value: 8, Fanout: 4, Buffer: 0, Leaf: 4, Block: 2, Nodes: 2, Budget: 0, Chunk: 2}

// P21.1
func TestCheck(t *testing.T) {
	if room.Check(sizes) != api.OK {
		t.Fatal("the least sizes")
	}
	great := api.Config{Key: 256, Value: 4096, Fanout: 64, Buffer: 1 << 20, Leaf: 256, Block: 256, Nodes: 4096, Budget: 1000, Chunk: 1024}
	if room.Check(great) != api.OK {
		t.Fatal("the greatest sizes")
	}
	for _, x := range []struct {
		name        string
		field       func(*api.Config) *int
		least, most int
	}{
		{"Key", func(c *api.Config) *int { return &c.Key }, 1, 256}, {"Value", func(c *api.Config) *int { return &c.Value }, 8, 4096},
		{"Fanout", func(c *api.Config) *int { return &c.Fanout }, 4, 64}, {"Buffer", func(c *api.Config) *int { return &c.Buffer }, 0, 1 << 20},
		{"Leaf", func(c *api.Config) *int { return &c.Leaf }, 4, 256}, {"Block", func(c *api.Config) *int { return &c.Block }, 2, 4},
		{"Nodes", func(c *api.Config) *int { return &c.Nodes }, 2, 4096}, {"Budget", func(c *api.Config) *int { return &c.Budget }, 0, 1000},
		{"Chunk", func(c *api.Config) *int { return &c.Chunk }, 1, 1024},
	} {
		for n, want := range map[int]api.Errno{x.least: api.OK, x.most: api.OK, x.least - 1: api.ErrArg, x.most + 1: api.ErrArg, math.MinInt: api.ErrArg, math.MaxInt: api.ErrArg} {
			c := sizes
			*x.field(&c) = n
			if err := room.Check(c); err != want {
				t.Errorf("%s %d: %d, want %d", x.name, n, err, want)
			}
		}
	}
	if room.Check(api.Config{}) != api.ErrArg {
		t.Error("no sizes")
	}
}

// P21.2
func TestNeed(t *testing.T) {
	kinds := func(l ...api.Kind) []api.Msg {
		var m []api.Msg
		for _, k := range l {
			m = append(m, api.Msg{Kind: k})
		}
		return m
	}
	ops := [][]api.Op{
		{{Kind: api.Send, Batch: kinds(api.Put, api.Add, api.Delete, api.Clear, 0, 9, api.Put)}, {Kind: api.Get, Batch: kinds(api.Put)}},
		nil,
		{{Kind: api.Send}, {Kind: api.Send, Batch: kinds(api.Add)}},
	}
	if n := room.Puts(ops); n != 4 || room.Puts(nil) != 0 {
		t.Error("Puts", n)
	}
	for _, x := range []struct{ leaf, puts, want int }{
		{4, 10, 17}, {4, 0, 2}, {4, 1, 2}, {4, 2, 5}, {5, 10, 17}, {6, 10, 11}, {2, 10, 32}, {3, 10, 32}, {1, 10, 32}, {0, 10, 32}, {-9, 10, 32}, {math.MinInt, 10, 32},
		{4, -1, 2}, {4, math.MinInt, 2}, {2, api.MaxNum, api.MaxNum}, {2, math.MaxInt, api.MaxNum}, {math.MaxInt, math.MaxInt, 2 + 3*2}, {math.MaxInt, 5, 2},
	} {
		if got := room.Need(api.Config{Leaf: x.leaf}, x.puts); got != x.want {
			t.Errorf("Need of Leaf %d and %d puts: %d, want %d", x.leaf, x.puts, got, x.want)
		}
	}
	for nodes, want := range map[int]bool{7: false, 8: true, 9: true, math.MaxInt: true, -1: false, math.MinInt: false} {
		if room.Enough(api.Config{Leaf: 4, Nodes: nodes}, ops) != want {
			t.Errorf("Enough of %d nodes", nodes)
		}
	}
}

// P21.3
func TestAloneAndWait(t *testing.T) {
	for h, want := range map[int]int{3: 5, 0: 2, -1: 2, math.MinInt: 2, api.MaxNum - 2: api.MaxNum, api.MaxNum: api.MaxNum, math.MaxInt: api.MaxNum} {
		if got := room.Alone(sizes, h); got != want {
			t.Errorf("Alone(%d) = %d, want %d", h, got, want)
		}
	}
	clip := func(n int) int64 { return int64(max(0, min(n, api.MaxNum))) }
	numbers := []int{math.MinInt, -1, 0, 1, 2, 3, 10, 64, 1000, 1 << 20, api.MaxNum - 1, api.MaxNum, api.MaxNum + 1, math.MaxInt}
	for _, w := range numbers {
		for _, s := range numbers {
			for _, n := range numbers {
				for _, b := range []int{-5, 0, 3, math.MaxInt} {
					all := new(big.Int).Add(big.NewInt(clip(n)+clip(s)), big.NewInt(2))
					want := new(big.Int).Mul(all, all)
					want.Mul(want, big.NewInt(64))
					more := new(big.Int).Mul(big.NewInt(4*clip(s)), big.NewInt(clip(b)+2))
					want.Add(want, more.Mul(more, big.NewInt(clip(n)+4)))
					want.Mul(want, big.NewInt(clip(w)))
					if most := big.NewInt(api.MaxNum); want.Cmp(most) > 0 {
						want = most
					}
					if got := room.Wait(api.Config{Budget: b}, w, s, n); int64(got) != want.Int64() {
						t.Fatalf("Wait(%d, %d, %d, %d) = %d, want %d", b, w, s, n, got, want)
					}
				}
			}
		}
	}
}

// P21.5
func TestDoNotFall(t *testing.T) {
	r := rand.New(rand.NewPCG(1, 1))
	for range 5000 {
		n := [3]int{r.IntN(200), r.IntN(70), r.IntN(300)}
		more := n
		more[r.IntN(3)] += r.IntN(1 << 28)
		c := api.Config{Leaf: 4, Budget: r.IntN(5)}
		if room.Wait(c, more[0], more[1], more[2]) < room.Wait(c, n[0], n[1], n[2]) || room.Need(c, more[2]) < room.Need(c, n[2]) || room.Alone(c, more[0]) < room.Alone(c, n[0]) {
			t.Fatal(n, more)
		}
	}
}

// P21.4
func TestAsk(t *testing.T) {
	put := api.Msg{Kind: api.Put, Key: "a", Value: "v"}
	many := make([]api.Msg, api.MaxBatch+1)
	for i := range many {
		many[i] = put
	}
	msgs := func(l ...api.Msg) []api.Msg { return l }
	for i, x := range []struct {
		o    api.Op
		want api.Errno
	}{
		{api.Op{}, api.ErrForm}, {api.Op{Kind: 7}, api.ErrForm}, {api.Op{Kind: 255, Key: "a"}, api.ErrForm},
		{api.Op{Kind: api.Get, Key: "abc"}, api.OK}, {api.Op{Kind: api.Get, Key: "abcd"}, api.ErrSize}, {api.Op{Kind: api.Get}, api.ErrSize},
		{api.Op{Kind: api.Get, Key: "a", To: "b"}, api.ErrForm}, {api.Op{Kind: api.Get, Key: "a", N: 1}, api.ErrForm}, {api.Op{Kind: api.Get, To: "a"}, api.ErrForm},
		{api.Op{Kind: api.Get, Key: "a", Batch: msgs(put)}, api.ErrForm}, {api.Op{Kind: api.Get, Key: "a", Batch: []api.Msg{}}, api.OK},
		{api.Op{Kind: api.Send}, api.OK}, {api.Op{Kind: api.Send, Batch: msgs(put)}, api.OK},
		{api.Op{Kind: api.Send, Key: "a"}, api.ErrForm}, {api.Op{Kind: api.Send, To: "a"}, api.ErrForm}, {api.Op{Kind: api.Send, N: -1}, api.ErrForm},
		{api.Op{Kind: api.Send, Batch: many[1:]}, api.OK}, {api.Op{Kind: api.Send, Batch: many}, api.ErrBatch},
		{api.Op{Kind: api.Send, Batch: append(many[1:], api.Msg{})}, api.ErrBatch},
		{api.Op{Kind: api.Send, Batch: msgs(api.Msg{Kind: api.Put, Seq: 1, Key: "a"})}, api.ErrForm},
		{api.Op{Kind: api.Send, Batch: msgs(api.Msg{Kind: api.Put, Key: "long"}, api.Msg{Kind: api.Put, Seq: -1, Key: "a"})}, api.ErrForm},
		{api.Op{Kind: api.Send, Batch: msgs(put, api.Msg{Kind: api.Put, Key: "long"}, api.Msg{})}, api.ErrSize},
		{api.Op{Kind: api.Send, Batch: msgs(put, api.Msg{}, api.Msg{Kind: api.Put, Key: "long"})}, api.ErrForm},
		{api.Op{Kind: api.Send, Batch: msgs(api.Msg{Kind: api.Clear, Key: "b", To: "a"})}, api.ErrRange},
		{api.Op{Kind: api.Look, N: 1}, api.OK}, {api.Op{Kind: api.Look, Key: "abc", To: "b", N: 2}, api.OK},
		{api.Op{Kind: api.Look, N: 0}, api.ErrLimit}, {api.Op{Kind: api.Look, N: 3}, api.ErrLimit}, {api.Op{Kind: api.Look, N: math.MinInt}, api.ErrLimit},
		{api.Op{Kind: api.Look, Key: "abcd", N: 1}, api.ErrSize}, {api.Op{Kind: api.Look, To: "abcd", N: 0}, api.ErrSize}, {api.Op{Kind: api.Look, Key: "b", To: "abcd", N: 0}, api.ErrSize},
		{api.Op{Kind: api.Look, Key: "b", To: "b", N: 1}, api.ErrRange}, {api.Op{Kind: api.Look, Key: "b", To: "a", N: 0}, api.ErrRange},
		{api.Op{Kind: api.Look, N: 1, Batch: msgs(put)}, api.ErrForm},
		{api.Op{Kind: api.Open}, api.OK}, {api.Op{Kind: api.Open, Key: "a", To: "b"}, api.OK}, {api.Op{Kind: api.Open, Key: "a", To: "abc"}, api.OK}, {api.Op{Kind: api.Open, N: 1}, api.ErrForm}, {api.Op{Kind: api.Open, Batch: msgs(put)}, api.ErrForm},
		{api.Op{Kind: api.Open, Key: "abcd"}, api.ErrSize}, {api.Op{Kind: api.Open, To: "abcd"}, api.ErrSize}, {api.Op{Kind: api.Open, Key: "b", To: "b"}, api.ErrRange},
		{api.Op{Kind: api.Next}, api.OK}, {api.Op{Kind: api.Next, N: -5}, api.OK}, {api.Op{Kind: api.Close, N: math.MaxInt}, api.OK},
		{api.Op{Kind: api.Next, N: 1, Key: "a"}, api.ErrForm}, {api.Op{Kind: api.Close, N: 1, To: "a"}, api.ErrForm}, {api.Op{Kind: api.Next, Batch: msgs(put)}, api.ErrForm},
	} {
		if err := room.Ask(x.o, sizes); err != x.want {
			t.Errorf("case %d: %d, want %d", i, err, x.want)
		}
		// P21.6
		more := sizes
		more.Key, more.Value, more.Chunk = 50, 50, 50
		if x.want == api.OK && room.Ask(x.o, more) != api.OK {
			t.Errorf("case %d: may not be asked where more may be", i)
		}
	}
}
