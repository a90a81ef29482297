package vlock_test

import (
	"math"
	"math/rand/v2"
	"testing"

	"catchment/api"
	"catchment/vlock"
)

var (
	fresh = api.Lock{}
	held  = api.Lock{Version: 4, Owner: 3}
	gone  = api.Lock{Version: 4, Gone: true}
	last  = api.Lock{Version: api.MaxTags, Owner: 3}
	odd   = api.Lock{Version: -7, Owner: -3, Gone: true}
)

// P7.1
func TestRight(t *testing.T) {
	for l, want := range map[api.Lock]bool{
		fresh: true, held: true, gone: true, last: true, odd: false,
		{Version: -1}: false, {Version: api.MaxTags + 1}: false, {Owner: -1}: false,
		{Owner: api.MaxSessions}: true, {Owner: api.MaxSessions + 1}: false, {Owner: 1, Gone: true}: false,
	} {
		if vlock.Right(l) != want {
			t.Errorf("Right(%+v)", l)
		}
	}
}

// is holds an answer of a step against what it should be.
func is(t *testing.T, name string, l, want api.Lock, err, wantErr api.Errno) {
	t.Helper()
	if l != want || err != wantErr {
		t.Errorf("%s: %+v, %d, want %+v, %d", name, l, err, want, wantErr)
	}
}

func TestTry(t *testing.T) {
	for _, x := range []struct {
		l    api.Lock
		who  int
		want api.Lock
		err  api.Errno
	}{
		{fresh, 1, api.Lock{Owner: 1}, api.OK},
		{api.Lock{Version: 9}, 64, api.Lock{Version: 9, Owner: 64}, api.OK},
		{fresh, 0, api.Lock{}, api.ErrArg}, {fresh, 65, api.Lock{}, api.ErrArg}, {gone, -1, api.Lock{}, api.ErrArg}, {fresh, math.MinInt, api.Lock{}, api.ErrArg},
		{gone, 1, api.Lock{}, api.ErrGone}, {odd, 1, api.Lock{}, api.ErrGone},
		{held, 3, api.Lock{}, api.ErrLocked}, {held, 4, api.Lock{}, api.ErrLocked}, {api.Lock{Owner: -2}, 4, api.Lock{}, api.ErrLocked},
	} {
		l, err := vlock.Try(x.l, x.who)
		is(t, "Try", l, x.want, err, x.err)
	}
}

func TestGiveBack(t *testing.T) {
	for _, who := range []int{0, -3, 4, 65, math.MaxInt} {
		for _, l := range []api.Lock{fresh, held, odd, last} {
			for name, f := range map[string]func(api.Lock, int) (api.Lock, api.Errno){"Free": vlock.Free, "Bump": vlock.Bump, "Retire": vlock.Retire} {
				got, err := f(l, who)
				is(t, name, got, api.Lock{}, err, api.ErrOwner)
			}
		}
	}
	l, err := vlock.Free(held, 3)
	is(t, "Free", l, api.Lock{Version: 4}, err, api.OK)
	l, err = vlock.Free(last, 3)
	is(t, "Free", l, api.Lock{Version: api.MaxTags}, err, api.OK)
	l, err = vlock.Bump(held, 3)
	is(t, "Bump", l, api.Lock{Version: 5}, err, api.OK)
	l, err = vlock.Retire(held, 3)
	is(t, "Retire", l, api.Lock{Version: 5, Gone: true}, err, api.OK)
	for _, v := range []int{api.MaxTags, api.MaxTags + 1, math.MaxInt} {
		l := api.Lock{Version: v, Owner: 3}
		got, err := vlock.Bump(l, 3)
		is(t, "Bump", got, api.Lock{}, err, api.ErrLimit)
		got, err = vlock.Retire(l, 3)
		is(t, "Retire", got, api.Lock{}, err, api.ErrLimit)
		got, err = vlock.Renew(api.Lock{Version: v, Gone: true})
		is(t, "Renew", got, api.Lock{}, err, api.ErrLimit)
	}
	l, err = vlock.Bump(api.Lock{Version: api.MaxTags - 1, Owner: 3}, 3)
	is(t, "Bump", l, api.Lock{Version: api.MaxTags}, err, api.OK)
}

func TestRenew(t *testing.T) {
	l, err := vlock.Renew(gone)
	is(t, "Renew", l, api.Lock{Version: 5}, err, api.OK)
	for _, who := range []int{1, api.MaxSessions} {
		mine := api.Lock{Version: 2, Owner: who}
		l, err := vlock.Free(mine, who)
		is(t, "Free", l, api.Lock{Version: 2}, err, api.OK)
		l, err = vlock.Bump(mine, who)
		is(t, "Bump", l, api.Lock{Version: 3}, err, api.OK)
		l, err = vlock.Retire(mine, who)
		is(t, "Retire", l, api.Lock{Version: 3, Gone: true}, err, api.OK)
	}
	l, err = vlock.Renew(api.Lock{Version: 5, Owner: 2, Gone: true})
	is(t, "Renew", l, api.Lock{Version: 6}, err, api.OK)
	for _, x := range []api.Lock{fresh, held, last} {
		l, err = vlock.Renew(x)
		is(t, "Renew", l, api.Lock{}, err, api.ErrState)
	}
}

// P7.2
func TestBeginAndValid(t *testing.T) {
	for _, x := range []struct {
		l       api.Lock
		version int
		err     api.Errno
	}{{fresh, 0, api.OK}, {api.Lock{Version: 8}, 8, api.OK}, {held, 0, api.ErrLocked}, {gone, 0, api.ErrGone}, {odd, 0, api.ErrGone}} {
		if v, err := vlock.Begin(x.l); v != x.version || err != x.err {
			t.Errorf("Begin(%+v) = %d, %d", x.l, v, err)
		}
	}
	for _, x := range []struct {
		l       api.Lock
		version int
		err     api.Errno
	}{
		{api.Lock{Version: 8}, 8, api.OK}, {api.Lock{Version: 8}, 7, api.ErrOrder}, {api.Lock{Version: 8}, 9, api.ErrOrder},
		{held, 4, api.ErrLocked}, {held, 3, api.ErrOrder}, {gone, 4, api.ErrGone}, {gone, 3, api.ErrGone},
	} {
		if err := vlock.Valid(x.l, x.version); err != x.err {
			t.Errorf("Valid(%+v, %d) = %d, want %d", x.l, x.version, err, x.err)
		}
	}
}

// P7.3, P7.6
func TestPack(t *testing.T) {
	for l, want := range map[api.Lock]uint64{
		fresh: 0, held: 4*256 + 3, gone: 4*256 + 128,
		{Version: api.MaxTags, Owner: api.MaxSessions}: api.MaxTags*256 + api.MaxSessions,
	} {
		w, err := vlock.Pack(l)
		if w != want || err != api.OK {
			t.Errorf("Pack(%+v) = %d, %d", l, w, err)
		}
		back, err := vlock.Unpack(w)
		is(t, "Unpack", back, l, err, api.OK)
	}
	for _, l := range []api.Lock{odd, {Version: api.MaxTags + 1}, {Version: -1}, {Owner: 65}, {Owner: 1, Gone: true}} {
		if w, err := vlock.Pack(l); w != 0 || err != api.ErrArg {
			t.Errorf("Pack(%+v) = %d, %d", l, w, err)
		}
	}
	for _, w := range []uint64{65, 127, 129, 192, (api.MaxTags + 1) * 256, math.MaxUint64, 1 << 63} {
		l, err := vlock.Unpack(w)
		is(t, "Unpack", l, api.Lock{}, err, api.ErrForm)
	}
	for w := range uint64(1024) {
		if l, err := vlock.Unpack(w); err == api.OK {
			if back, err := vlock.Pack(l); back != w || err != api.OK {
				t.Errorf("%d comes back as %d", w, back)
			}
		}
	}
}

// P7.4, P7.5
func TestHistory(t *testing.T) {
	r := rand.New(rand.NewPCG(1, 1))
	l, owner, version, bumps, begun, since := fresh, 0, 0, 0, -1, 0
	for range 5000 {
		who := 1 + r.IntN(3)
		next, err := l, api.OK
		switch r.IntN(6) {
		case 0, 1:
			if next, err = vlock.Try(l, who); err == api.OK {
				if owner != 0 {
					t.Fatal("taken twice")
				}
				owner = who
			}
		case 2:
			next, err = vlock.Free(l, who)
		case 3:
			next, err = vlock.Bump(l, who)
		case 4:
			next, err = vlock.Retire(l, who)
		case 5:
			next, err = vlock.Renew(l)
		}
		if err == api.OK {
			if l = next; l.Version < version {
				t.Fatal("the version fell")
			} else if l.Version > version {
				bumps++
			}
			version = l.Version
			if l.Owner == 0 {
				if owner != 0 && owner != who {
					t.Fatal("given back by another one")
				}
				owner = 0
			}
		}
		if l.Owner != owner {
			t.Fatal("another owner")
		}
		if vlock.Valid(l, begun) == api.OK && since != bumps {
			t.Fatal("valid behind a change")
		}
		if v, err := vlock.Begin(l); err == api.OK && r.IntN(4) == 0 {
			begun, since = v, bumps
		}
	}
}
