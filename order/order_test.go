package order_test

import (
	"math"
	"math/rand/v2"
	"slices"
	"testing"

	"catchment/order"
)

// plain is the map that order.Map is held against: its keys in a sorted list.
type plain struct {
	keys []int
	vals map[int]string
}

func (p *plain) put(k int, v string) bool {
	i, there := slices.BinarySearch(p.keys, k)
	if !there {
		p.keys = slices.Insert(p.keys, i, k)
	}
	p.vals[k] = v
	return !there
}

func (p *plain) cut(from, to int) int {
	n := len(p.keys)
	p.keys = slices.DeleteFunc(p.keys, func(k int) bool {
		in := from <= k && k < to
		if in {
			delete(p.vals, k)
		}
		return in
	})
	return n - len(p.keys)
}

func check(t *testing.T, m *order.Map[int, string], p *plain) {
	t.Helper()
	if m.Len() != len(p.keys) {
		t.Fatalf("Len %d, want %d", m.Len(), len(p.keys))
	}
	var keys []int
	for k, v := range m.All() {
		if v != p.vals[k] {
			t.Fatalf("All: %d has %q, want %q", k, v, p.vals[k])
		}
		keys = append(keys, k)
	}
	if !slices.Equal(keys, p.keys) {
		t.Fatalf("All %v, want %v", keys, p.keys)
	}
}

func look(t *testing.T, m *order.Map[int, string], p *plain, k int) {
	t.Helper()
	i, there := slices.BinarySearch(p.keys, k)
	if m.Place(k) != i {
		t.Fatalf("Place(%d) = %d, want %d", k, m.Place(k), i)
	}
	if v, ok := m.Get(k); ok != there || v != p.vals[k] {
		t.Fatalf("Get(%d) = %q, %v", k, v, ok)
	}
	at, v, ok := m.At(i)
	if ok != (i < len(p.keys)) || ok && (at != p.keys[i] || v != p.vals[at]) || !ok && (at != 0 || v != "") {
		t.Fatalf("At(%d) = %d, %q, %v", i, at, v, ok)
	}
	var from []int
	for x, y := range m.From(k) {
		if y != p.vals[x] {
			t.Fatalf("From: %d has %q", x, y)
		}
		from = append(from, x)
	}
	if !slices.Equal(from, p.keys[i:]) {
		t.Fatalf("From(%d) = %v, want %v", k, from, p.keys[i:])
	}
}

// P1.1, P1.2, P1.4
func TestAgainstPlainMap(t *testing.T) {
	for seed := range uint64(20) {
		r := rand.New(rand.NewPCG(seed, 1))
		m, p := order.New[int, string](), &plain{vals: map[int]string{}}
		for range 400 {
			k := r.IntN(60) - 30
			switch r.IntN(8) {
			case 0, 1, 2, 3:
				v := string(rune('a' + r.IntN(26)))
				if got, want := m.Put(k, v), p.put(k, v); got != want {
					t.Fatalf("Put(%d) = %v", k, got)
				}
			case 4, 5:
				if got, want := m.Drop(k), p.cut(k, k+1) == 1; got != want {
					t.Fatalf("Drop(%d) = %v", k, got)
				}
			case 6:
				to := k + r.IntN(12) - 3
				if got, want := m.Cut(k, to), p.cut(k, to); got != want {
					t.Fatalf("Cut(%d, %d) = %d, want %d", k, to, got, want)
				}
			case 7:
				look(t, m, p, k)
			}
			check(t, m, p)
		}
	}
}

func TestExample(t *testing.T) {
	m := order.New[string, int]()
	if !m.Put("b", 1) || !m.Put("a", 2) || m.Put("b", 3) {
		t.Fatal("Put")
	}
	var got []string
	for k := range m.All() {
		got = append(got, k)
	}
	if !slices.Equal(got, []string{"a", "b"}) || m.Place("b") != 1 {
		t.Fatal(got, m.Place("b"))
	}
	if v, ok := m.Get("b"); v != 3 || !ok {
		t.Fatal("Get", v, ok)
	}
}

// P1.1: the edges of a cut
func TestCutEdges(t *testing.T) {
	fill := func() *order.Map[string, int] {
		m := order.New[string, int]()
		for i, k := range []string{"", "a", "b", "c"} {
			m.Put(k, i)
		}
		return m
	}
	for _, x := range []struct {
		from, to string
		want     int
	}{{"a", "a", 0}, {"b", "a", 0}, {"a", "b", 1}, {"a", "c", 2}, {"", "", 0}, {"", "a", 1}, {"a\x00", "z", 2}, {"x", "z", 0}} {
		m := fill()
		if n := m.Cut(x.from, x.to); n != x.want || m.Len() != 4-x.want {
			t.Fatalf("Cut(%q, %q) = %d, left %d", x.from, x.to, n, m.Len())
		}
	}
	m := fill()
	m.Cut("a", "c")
	if _, ok := m.Get("c"); !ok {
		t.Fatal("what is to be cut up to was cut")
	}
	if _, ok := m.Get("a"); ok {
		t.Fatal("what is to be cut from was left")
	}
}

func TestAtOutOfRange(t *testing.T) {
	m := order.New[int, int]()
	m.Put(5, 6)
	for _, i := range []int{-1, 1, math.MinInt, math.MaxInt} {
		if k, v, ok := m.At(i); k != 0 || v != 0 || ok {
			t.Fatalf("At(%d) = %d, %d, %v", i, k, v, ok)
		}
	}
}

func TestStopsEarly(t *testing.T) {
	m := order.New[int, int]()
	for i := range 100 {
		m.Put(i, i)
	}
	n := 0
	for k := range m.From(50) {
		if n++; k == 60 {
			break
		}
	}
	if n != 11 {
		t.Fatal(n)
	}
	for range m.All() {
		break
	}
}

// P1.3
func TestFork(t *testing.T) {
	m := order.New[int, string]()
	p := &plain{vals: map[int]string{}}
	for i := range 50 {
		m.Put(i, "x")
		p.put(i, "x")
	}
	f := m.Fork()
	f.Put(3, "y")
	f.Put(99, "y")
	f.Drop(4)
	f.Cut(10, 20)
	check(t, m, p)
	m.Put(5, "z")
	m.Cut(30, 50)
	if v, _ := f.Get(5); v != "x" || f.Len() != 40 {
		t.Fatal("a map changed its fork", v, f.Len())
	}
}

// P1.3: a nil map
func TestNil(t *testing.T) {
	var m *order.Map[string, int]
	if m.Put("a", 1) || m.Drop("a") || m.Cut("a", "b") != 0 || m.Len() != 0 || m.Place("z") != 0 || m.Fork() != nil {
		t.Fatal("nil map")
	}
	if v, ok := m.Get("a"); v != 0 || ok {
		t.Fatal("Get")
	}
	if k, v, ok := m.At(0); k != "" || v != 0 || ok {
		t.Fatal("At")
	}
	for range m.All() {
		t.Fatal("All")
	}
	for range m.From("") {
		t.Fatal("From")
	}
}

// A map of many keys, put in order, is no slower or deeper for that.
func TestMany(t *testing.T) {
	m := order.New[int, int]()
	const n = 200000
	for i := range n {
		m.Put(i, -i)
	}
	for i := 0; i < n; i += 997 {
		if k, v, ok := m.At(i); k != i || v != -i || !ok || m.Place(i) != i {
			t.Fatal(i, k, v, ok)
		}
	}
	if m.Cut(10, n-10) != n-20 || m.Len() != 20 {
		t.Fatal(m.Len())
	}
}

func TestStrangeFloats(t *testing.T) {
	m := order.New[float64, int]()
	m.Put(math.NaN(), 1)
	m.Put(math.Inf(1), 2)
	m.Put(math.Inf(-1), 3)
	m.Put(0, 4)
	m.Get(math.NaN())
	m.Cut(math.NaN(), math.NaN())
	if v, ok := m.Get(math.Inf(1)); v != 2 || !ok {
		t.Fatal(v, ok)
	}
}
