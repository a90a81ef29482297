package arena_test

import (
	"math"
	"math/rand/v2"
	"slices"
	"testing"

	"catchment/api"
	"catchment/arena"
)

func fresh(t *testing.T, most int) *arena.Arena[string] {
	t.Helper()
	a, err := arena.New[string](most)
	if err != api.OK || a == nil {
		t.Fatal(err)
	}
	return a
}

// P8.1
func TestNew(t *testing.T) {
	for _, most := range []int{0, -1, math.MinInt, api.MaxNodes + 1, math.MaxInt} {
		if a, err := arena.New[int](most); a != nil || err != api.ErrArg {
			t.Errorf("New(%d): %d", most, err)
		}
	}
	if one := fresh(t, 1); one.Left() != 1 {
		t.Error("an arena of one place", one.Left())
	}
	a := fresh(t, api.MaxNodes)
	if a.Len() != 0 || a.Left() != api.MaxNodes || a.Top() != 0 {
		t.Error("a new arena", a.Len(), a.Left(), a.Top())
	}
}

func take(t *testing.T, a *arena.Arena[string], want int) {
	t.Helper()
	if i, err := a.Take("x"); i != want || err != api.OK {
		t.Fatalf("Take: %d, %d, want %d", i, err, want)
	}
}

func give(t *testing.T, a *arena.Arena[string], i int) {
	t.Helper()
	if err := a.Give(i); err != api.OK {
		t.Fatalf("Give(%d): %d", i, err)
	}
}

func TestTakeGivenBackLast(t *testing.T) {
	a := fresh(t, 4)
	take(t, a, 1)
	take(t, a, 2)
	take(t, a, 3)
	give(t, a, 1)
	give(t, a, 3)
	give(t, a, 2)
	take(t, a, 2)
	take(t, a, 3)
	give(t, a, 2)
	take(t, a, 2)
	take(t, a, 1)
	take(t, a, 4)
	if i, err := a.Take("y"); i != 0 || err != api.ErrFull {
		t.Fatal("Take of a full one", i, err)
	}
	if a.Len() != 4 || a.Left() != 0 || a.Top() != 4 {
		t.Fatal(a.Len(), a.Left(), a.Top())
	}
}

func TestMany(t *testing.T) {
	a := fresh(t, 5)
	take(t, a, 1)
	take(t, a, 2)
	give(t, a, 1)
	for n, want := range map[int]api.Errno{-1: api.ErrArg, math.MinInt: api.ErrArg, 5: api.ErrFull, math.MaxInt: api.ErrFull} {
		if l, err := a.Many(n, "z"); len(l) != 0 || err != want {
			t.Errorf("Many(%d): %v, %d", n, l, err)
		}
	}
	if l, err := a.Many(0, "z"); len(l) != 0 || err != api.OK {
		t.Error("Many(0)", l, err)
	}
	if a.Len() != 1 || a.Top() != 2 {
		t.Error("what was refused changed something")
	}
	l, err := a.Many(4, "z")
	if !slices.Equal(l, []int{1, 3, 4, 5}) || err != api.OK {
		t.Error(l, err)
	}
	for _, i := range l {
		if v, ok := a.Get(i); v != "z" || !ok {
			t.Error(i, v, ok)
		}
	}
}

// P8.2
func TestGetSetGive(t *testing.T) {
	a := fresh(t, 3)
	a.Take("a")
	a.Take("b")
	give(t, a, 1)
	for _, i := range []int{math.MinInt, -1, 0, 1, 3, 4, math.MaxInt} {
		if v, ok := a.Get(i); v != "" || ok {
			t.Errorf("Get(%d) = %q", i, v)
		}
		if a.Set(i, "x") != api.ErrGone || a.Give(i) != api.ErrGone {
			t.Errorf("Set or Give of %d", i)
		}
	}
	if a.Set(2, "c") != api.OK {
		t.Error("Set")
	}
	if v, ok := a.Get(2); v != "c" || !ok {
		t.Error("Get", v, ok)
	}
	take(t, a, 1)
	if v, _ := a.Get(1); v != "x" {
		t.Error("a place has what it had ahead of its being given back")
	}
}

// P8.2, P8.4, P8.5
func TestAgainstPlain(t *testing.T) {
	r := rand.New(rand.NewPCG(1, 1))
	a := fresh(t, 12)
	has, given, top := map[int]string{}, []int{}, 0
	for range 5000 {
		switch r.IntN(4) {
		case 0, 1:
			want := top + 1
			if n := len(given); n > 0 {
				want = given[n-1]
			}
			v := string(rune('a' + r.IntN(26)))
			i, err := a.Take(v)
			if len(has) == 12 {
				if i != 0 || err != api.ErrFull {
					t.Fatal("full", i, err)
				}
				break
			}
			if i != want || err != api.OK {
				t.Fatal(i, want, err)
			}
			if n := len(given); n > 0 {
				given = given[:n-1]
			}
			has[i], top = v, max(top, i)
		case 2:
			i := r.IntN(14)
			_, taken := has[i]
			if (a.Give(i) == api.OK) != taken {
				t.Fatal("Give", i)
			}
			if taken {
				delete(has, i)
				given = append(given, i)
			}
		case 3:
			i := r.IntN(14)
			if _, taken := has[i]; taken {
				has[i] = "set"
				a.Set(i, "set")
			}
		}
		if a.Len() != len(has) || a.Len()+a.Left() != 12 || a.Top() != top {
			t.Fatal(a.Len(), a.Left(), a.Top())
		}
		last, n := 0, 0
		for i, v := range a.All() {
			if i <= last || has[i] != v {
				t.Fatal("All", i, v)
			}
			last, n = i, n+1
		}
		if n != len(has) {
			t.Fatal("All", n)
		}
	}
	for range a.All() {
		break
	}
}

func TestForkOfOne(t *testing.T) {
	a := fresh(t, 4)
	a.Take("a")
	f := a.Fork()
	f.Set(1, "z")
	a.Give(1)
	g := a.Fork()
	take(t, g, 1)
	take(t, a, 1)
	if v, _ := a.Get(1); v != "x" {
		t.Error(v)
	}
	if v, ok := f.Get(1); v != "z" || !ok {
		t.Error(v, ok)
	}
}

func TestFork(t *testing.T) {
	a := fresh(t, 4)
	a.Take("a")
	a.Take("b")
	a.Take("c")
	a.Give(2)
	f := a.Fork()
	f.Set(1, "z")
	f.Give(1)
	f.Take("q")
	f.Take("q")
	if v, _ := a.Get(1); v != "a" || a.Len() != 2 || f.Len() != 3 {
		t.Error("a fork changed the arena", v)
	}
	take(t, a, 2)
	a.Give(3)
	if v, ok := f.Get(3); v != "c" || !ok {
		t.Error("an arena changed its fork", v)
	}
	if f.Top() != 3 || f.Left() != 1 {
		t.Error(f.Top(), f.Left())
	}
	take(t, f, 4)
}

// P8.3
func TestNil(t *testing.T) {
	var a *arena.Arena[int]
	if i, err := a.Take(1); i != 0 || err != api.ErrNil {
		t.Error("Take", i, err)
	}
	for _, n := range []int{-1, 0, 1} {
		if l, err := a.Many(n, 1); len(l) != 0 || err != api.ErrNil {
			t.Error("Many", l, err)
		}
	}
	if a.Give(1) != api.ErrNil || a.Set(1, 1) != api.ErrNil || a.Len() != 0 || a.Left() != 0 || a.Top() != 0 || a.Fork() != nil {
		t.Error("nil arena")
	}
	if v, ok := a.Get(1); v != 0 || ok {
		t.Error("Get")
	}
	for range a.All() {
		t.Error("All")
	}
}
