package epoch_test

import (
	"math"
	"math/rand/v2"
	"slices"
	"testing"

	"catchment/api"
	"catchment/epoch"
)

func fresh(t *testing.T, n int) *epoch.Book {
	t.Helper()
	b, err := epoch.New(n)
	if b == nil || err != api.OK {
		t.Fatal(err)
	}
	return b
}

func do(t *testing.T, what string, err, want api.Errno) {
	t.Helper()
	if err != want {
		t.Errorf("%s: %d, want %d", what, err, want)
	}
}

func ready(t *testing.T, b *epoch.Book, want ...int) {
	t.Helper()
	if got := b.Ready(); !slices.Equal(got, want) {
		t.Errorf("Ready: %v, want %v", got, want)
	}
}

// P9.1
func TestInAndOut(t *testing.T) {
	for _, n := range []int{0, -1, math.MinInt, api.MaxSessions + 1, math.MaxInt} {
		if b, err := epoch.New(n); b != nil || err != api.ErrArg {
			t.Errorf("New(%d): %d", n, err)
		}
	}
	fresh(t, api.MaxSessions)
	b := fresh(t, 2)
	for _, who := range []int{0, -1, 3, math.MaxInt, math.MinInt} {
		do(t, "Enter", b.Enter(who), api.ErrArg)
		do(t, "Leave", b.Leave(who), api.ErrArg)
		if b.In(who) {
			t.Error("In", who)
		}
	}
	do(t, "Leave", b.Leave(1), api.ErrState)
	do(t, "Enter", b.Enter(1), api.OK)
	do(t, "Enter", b.Enter(1), api.ErrState)
	if !b.In(1) || b.In(2) {
		t.Error("In")
	}
	do(t, "Leave", b.Leave(1), api.OK)
	do(t, "Leave", b.Leave(1), api.ErrState)
	if b.In(1) {
		t.Error("In behind Leave")
	}
}

// P9.2, P9.4: the example, and who comes in twice
func TestReady(t *testing.T) {
	b := fresh(t, 2)
	b.Enter(1)
	do(t, "Retire", b.Retire(7), api.OK)
	if b.Now() != 1 || b.Least() != 0 {
		t.Error(b.Now(), b.Least())
	}
	b.Enter(2)
	ready(t, b)
	b.Retire(-8)
	if got := b.Waits(); !slices.Equal(got, []int{7, -8}) {
		t.Error("Waits", got)
	}
	b.Leave(1)
	if b.Least() != 1 || b.Now() != 2 {
		t.Error(b.Now(), b.Least())
	}
	ready(t, b, 7)
	ready(t, b)
	b.Enter(1)
	b.Leave(2)
	if b.Least() != 2 {
		t.Error("what is announced is what was when it entered", b.Least())
	}
	ready(t, b, -8)
	if len(b.Waits()) != 0 {
		t.Error("what is ready waits")
	}
}

func TestNobodyIn(t *testing.T) {
	b := fresh(t, 3)
	if b.Now() != 0 || b.Least() != 0 {
		t.Error(b.Now(), b.Least())
	}
	ready(t, b)
	for _, x := range []int{5, 3, 5} {
		b.Retire(x)
	}
	if b.Now() != 3 || b.Least() != 3 {
		t.Error(b.Now(), b.Least())
	}
	ready(t, b, 5, 3, 5)
	ready(t, b)
}

// P9.4, P9.5
func TestAgainstPlain(t *testing.T) {
	type one struct{ x, since int }
	r := rand.New(rand.NewPCG(1, 1))
	b := fresh(t, 4)
	in, waits, now := map[int]int{}, []one{}, 0
	for i := range 5000 {
		who := 1 + r.IntN(4)
		_, is := in[who]
		switch r.IntN(5) {
		case 0:
			if (b.Enter(who) == api.OK) == is {
				t.Fatal("Enter")
			}
			if !is {
				in[who] = now
			}
		case 1:
			if (b.Leave(who) == api.OK) != is {
				t.Fatal("Leave")
			}
			delete(in, who)
		case 2:
			b.Retire(i)
			waits = append(waits, one{i, now})
			now++
		default:
			least := now
			for _, e := range in {
				least = min(least, e)
			}
			var want []int
			for len(waits) > 0 && waits[0].since < least {
				want = append(want, waits[0].x)
				waits = waits[1:]
			}
			if b.Least() != least {
				t.Fatal("Least", b.Least(), least)
			}
			ready(t, b, want...)
		}
		if len(b.Waits()) != len(waits) || b.Now() != now {
			t.Fatal(b.Waits(), b.Now())
		}
	}
}

func TestAnswersAreNotKept(t *testing.T) {
	b := fresh(t, 1)
	b.Retire(1)
	b.Retire(2)
	b.Waits()[0] = 99
	_ = append(b.Waits()[:1], 98)
	if got := b.Waits(); !slices.Equal(got, []int{1, 2}) {
		t.Error(got)
	}
}

func TestFork(t *testing.T) {
	b := fresh(t, 2)
	b.Enter(1)
	b.Retire(4)
	f := b.Fork()
	f.Leave(1)
	f.Retire(5)
	ready(t, f, 4, 5)
	if !b.In(1) || b.Now() != 1 || !slices.Equal(b.Waits(), []int{4}) {
		t.Error("a fork changed the book")
	}
	b.Enter(2)
	b.Retire(6)
	if f.In(2) || f.Now() != 2 || len(f.Waits()) != 0 {
		t.Error("a book changed its fork")
	}
}

// P9.3
func TestNil(t *testing.T) {
	var b *epoch.Book
	for _, who := range []int{0, 1} {
		do(t, "Enter", b.Enter(who), api.ErrNil)
		do(t, "Leave", b.Leave(who), api.ErrNil)
	}
	do(t, "Retire", b.Retire(1), api.ErrNil)
	if len(b.Ready()) != 0 || b.Now() != 0 || b.Least() != 0 || b.In(1) || len(b.Waits()) != 0 || b.Fork() != nil {
		t.Error("nil book")
	}
}
