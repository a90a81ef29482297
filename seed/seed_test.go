package seed_test

import (
	"math"
	"reflect"
	"slices"
	"strings"
	"testing"

	"catchment/api"
	"catchment/engine"
	"catchment/room"
	"catchment/seed"
	"catchment/witness"
)

// plain is a source of the same numbers, told by itself.
type plain struct{ state uint64 }

func (p *plain) below(n int) int {
	p.state += 0x9e3779b97f4a7c15
	z := p.state
	z = (z ^ (z >> 30)) * 0xbf58476d1ce4e5b9
	z = (z ^ (z >> 27)) * 0x94d049bb133111eb
	z ^= z >> 31
	return int(z % uint64(n))
}

func (p *plain) key(letters, most int) string {
	s := ""
	for n := p.below(most) + 1; n > 0; n-- {
		s += string(rune('a' + p.below(letters)))
	}
	return s
}

func (p *plain) msg() api.Msg {
	switch n := p.below(8); {
	case n < 4:
		k := p.key(4, 2)
		return api.Msg{Kind: api.Put, Key: k, Value: strings.Repeat("x", p.below(3))}
	case n == 4:
		return api.Msg{Kind: api.Delete, Key: p.key(4, 2)}
	case n < 7:
		k := p.key(4, 2)
		return api.Msg{Kind: api.Add, Key: k, Delta: uint64(p.below(100))}
	}
	k := p.key(4, 1)
	return api.Msg{Kind: api.Clear, Key: k, To: k + "z"}
}

func (p *plain) op() api.Op {
	switch n := p.below(8); {
	case n < 2:
		return api.Op{Kind: api.Get, Key: p.key(4, 2)}
	case n < 5:
		o := api.Op{Kind: api.Send}
		for n := p.below(3) + 1; n > 0; n-- {
			o.Batch = append(o.Batch, p.msg())
		}
		return o
	case n == 5:
		k := p.key(4, 1)
		return api.Op{Kind: api.Look, Key: k, N: p.below(3) + 1}
	case n == 6:
		return api.Op{Kind: api.Open}
	}
	return api.Op{Kind: api.Next, N: 1}
}

// P40.1
func TestNumbers(t *testing.T) {
	s := seed.New(0)
	for _, want := range []uint64{0xe220a8397b1dcdaf, 0x6e789e6aa1b965f4} {
		if got := s.Next(); got != want {
			t.Errorf("%x, want %x", got, want)
		}
	}
	s, p := seed.New(7), &plain{7}
	for _, n := range []int{0, -1, math.MinInt} {
		if s.Below(n) != 0 {
			t.Error("Below", n)
		}
	}
	for _, n := range []int{1, 2, 8, 100, math.MaxInt} {
		for range 50 {
			if got, want := s.Below(n), p.below(n); got != want {
				t.Fatalf("Below(%d) = %d, want %d", n, got, want)
			}
		}
	}
	for _, x := range []struct{ letters, most, countLetters, countMost int }{
		{4, 2, 4, 2}, {1, 1, 1, 1}, {0, 0, 1, 1}, {-5, -5, 1, 1}, {math.MinInt, math.MinInt, 1, 1}, {26, 16, 26, 16}, {27, 17, 26, 16}, {math.MaxInt, math.MaxInt, 26, 16},
	} {
		for range 50 {
			if got, want := s.Key(x.letters, x.most), p.key(x.countLetters, x.countMost); got != want {
				t.Fatalf("Key(%d, %d) = %q, want %q", x.letters, x.most, got, want)
			}
		}
	}
}

// P40.2
func TestMessagesAndOperations(t *testing.T) {
	kinds, ops := map[api.Kind]int{}, map[api.OpKind]int{}
	s, p := seed.New(3), &plain{3}
	for range 2000 {
		m := s.Msg()
		if want := p.msg(); m != want {
			t.Fatalf("%+v, want %+v", m, want)
		}
		kinds[m.Kind]++
		o := s.Op()
		if want := p.op(); !reflect.DeepEqual(o, want) {
			t.Fatalf("%+v, want %+v", o, want)
		}
		ops[o.Kind]++
	}
	if len(kinds) != 4 || len(ops) != 5 {
		t.Error(kinds, ops)
	}
	for _, x := range []struct{ sessions, n, want int }{{3, 5, 5}, {1, 4, 4}, {3, 0, 0}, {3, -1, 0}, {0, 5, 0}, {-1, 5, 0}, {math.MinInt, math.MinInt, 0}, {3, 10000, 10000}, {3, 10001, 10000}, {math.MaxInt, math.MaxInt, 10000}} {
		var want []int
		for range x.want {
			want = append(want, p.below(x.sessions)+1)
		}
		if got := s.Picks(x.sessions, x.n); !slices.Equal(got, want) {
			t.Errorf("Picks(%d, %d): %d picks", x.sessions, x.n, len(got))
		}
	}
}

func TestNil(t *testing.T) {
	var s *seed.Source
	if s.Next() != 0 || s.Below(5) != 0 || s.Key(4, 2) != "" || s.Msg() != (api.Msg{}) || !reflect.DeepEqual(s.Op(), api.Op{}) || len(s.Picks(2, 5)) != 0 {
		t.Error("nil")
	}
}

// P40.3, P40.4
func TestScripts(t *testing.T) {
	for n := range uint64(200) {
		p := &plain{n}
		want := api.Config{Key: 4, Value: 16}
		want.Fanout = 4 + p.below(5)
		want.Buffer = p.below(100)
		want.Leaf = 4 + p.below(9)
		want.Block = 2 + p.below(3)
		want.Nodes = 20 + p.below(200)
		want.Budget = p.below(5)
		want.Chunk = 3 + p.below(6)
		if got := seed.Config(n); got != want || room.Check(got) != api.OK {
			t.Fatalf("Config(%d) = %+v, want %+v", n, got, want)
		}
		x := seed.Script(n, 3, 10, 200)
		p = &plain{n}
		for _, row := range x.Ops {
			if len(row) != 10 {
				t.Fatal(len(row))
			}
			for _, o := range row {
				if want := p.op(); !reflect.DeepEqual(o, want) || room.Ask(o, x.Config) != api.OK {
					t.Fatalf("%+v, want %+v", o, want)
				}
			}
		}
		for _, who := range x.Picks {
			if who != p.below(3)+1 {
				t.Fatal("Picks")
			}
		}
		if len(x.Picks) != 200 || len(x.Ops) != 3 || x.Config != want || !reflect.DeepEqual(x, seed.Script(n, 3, 10, 200)) {
			t.Fatal("Script")
		}
		e, err := engine.Play(x)
		if err != api.OK || !witness.Check(x.Config, 3, e.Done()) {
			t.Fatal(err, witness.Faults(x.Config, 3, e.Done()))
		}
	}
	for _, x := range [][6]int{{0, -1, -1, 1, 0, 0}, {65, 101, 10001, 64, 100, 10000}, {math.MinInt, math.MinInt, math.MinInt, 1, 0, 0}, {math.MaxInt, math.MaxInt, math.MaxInt, 64, 100, 10000}, {2, 3, 4, 2, 3, 4}} {
		y := seed.Script(5, x[0], x[1], x[2])
		if len(y.Ops) != x[3] || len(y.Ops[0]) != x[4] || len(y.Picks) != x[5] {
			t.Errorf("Script(%v): %d, %d, %d", x[:3], len(y.Ops), len(y.Ops[0]), len(y.Picks))
		}
	}
}
