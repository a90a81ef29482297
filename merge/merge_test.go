package merge_test

import (
	"cmp"
	"iter"
	"math"
	"math/rand/v2"
	"slices"
	"testing"

	"catchment/merge"
)

func is[T comparable](t *testing.T, what string, s iter.Seq[T], want ...T) {
	t.Helper()
	for range 2 { // a row can be gone through again
		if got := slices.Collect(s); !slices.Equal(got, want) {
			t.Errorf("%s: %v, want %v", what, got, want)
		}
		if got := merge.List(s); !slices.Equal(got, want) {
			t.Errorf("%s: List %v, want %v", what, got, want)
		}
	}
	// P38.4: who stops has seen the first ones, and is told no more
	for n := 1; n <= len(want); n++ {
		var got []T
		for v := range s {
			if got = append(got, v); len(got) == n {
				break
			}
		}
		if !slices.Equal(got, want[:n]) {
			t.Errorf("%s: the first %d are %v", what, n, got)
		}
	}
}

// counted is a row of numbers that says how many were asked for.
func counted(asked *int, l ...int) iter.Seq[int] {
	return func(yield func(int) bool) {
		for _, v := range l {
			*asked++
			if !yield(v) {
				return
			}
		}
	}
}

// P38.1
func TestRows(t *testing.T) {
	var none iter.Seq[int]
	five := merge.Of(1, 2, 3, 4, 5)
	even := func(n int) bool { return n%2 == 0 }
	is(t, "Of", five, 1, 2, 3, 4, 5)
	is(t, "Of none", merge.Of[string]())
	for n, want := range map[int][]int{math.MinInt: nil, -1: nil, 0: nil, 1: {1}, 3: {1, 2, 3}, 5: {1, 2, 3, 4, 5}, 6: {1, 2, 3, 4, 5}, math.MaxInt: {1, 2, 3, 4, 5}} {
		is(t, "Take", merge.Take(five, n), want...)
		is(t, "Skip", merge.Skip(five, n), []int{1, 2, 3, 4, 5}[len(want):]...)
		is(t, "Take of a nil row", merge.Take(none, n))
		is(t, "Skip of a nil row", merge.Skip(none, n))
	}
	is(t, "Where", merge.Where(five, even), 2, 4)
	is(t, "Each", merge.Each(five, func(n int) string { return string(rune('a' + n)) }), "b", "c", "d", "e", "f")
	is(t, "Join", merge.Join(merge.Of(3), none, merge.Of[int](), five, merge.Of(3, 3)), 3, 1, 2, 3, 4, 5, 3, 3)
	is(t, "Join of none", merge.Join[int]())
	is(t, "Where of a nil row", merge.Where(none, even))
	is(t, "Each of a nil row", merge.Each(none, even))
	is(t, "Once of a nil row", merge.Once(none, cmp.Compare[int]))
	if len(merge.List(none)) != 0 {
		t.Error("List of a nil row")
	}
}

func TestNoFurtherThanAsked(t *testing.T) {
	odd := func(n int) bool { return n%2 == 1 }
	for i, x := range []struct {
		row   func(s iter.Seq[int]) iter.Seq[int]
		first int // how many are asked for
		asked int // of how many of the row
	}{
		{func(s iter.Seq[int]) iter.Seq[int] { return merge.Take(s, 2) }, 9, 2}, {func(s iter.Seq[int]) iter.Seq[int] { return merge.Take(s, 0) }, 9, 0}, {func(s iter.Seq[int]) iter.Seq[int] { return merge.Take(s, 5) }, 1, 1},
		{func(s iter.Seq[int]) iter.Seq[int] { return merge.Skip(s, 2) }, 1, 3}, {func(s iter.Seq[int]) iter.Seq[int] { return merge.Where(s, odd) }, 2, 3}, {func(s iter.Seq[int]) iter.Seq[int] { return merge.Each(s, func(n int) int { return -n }) }, 2, 2},
		{func(s iter.Seq[int]) iter.Seq[int] { return merge.Join(merge.Of(9), s) }, 1, 0}, {func(s iter.Seq[int]) iter.Seq[int] { return merge.Join(merge.Of(9), s) }, 2, 1}, {func(s iter.Seq[int]) iter.Seq[int] { return merge.Once(s, cmp.Compare[int]) }, 2, 2},
	} {
		asked, n := 0, 0
		for range x.row(counted(&asked, 1, 2, 3, 4, 5)) {
			if n++; n == x.first {
				break
			}
		}
		if asked != x.asked {
			t.Errorf("case %d: %d were asked for, want %d", i, asked, x.asked)
		}
	}
}

func TestReadsWhenGoneThrough(t *testing.T) {
	l := []int{1, 2, 3}
	of, all := merge.Of(l...), merge.Merge(cmp.Compare[int], l, []int{2})
	both := merge.Both(cmp.Compare[int], l, []int{7})
	l[2] = 7
	is(t, "Of", of, 1, 2, 7)
	is(t, "Merge", all, 1, 2, 2, 7)
	n := 0
	for range both {
		n++
	}
	if n != 1 {
		t.Error("Both", n)
	}
}

type thing struct {
	key  int
	from string
}

func byKey(a, b thing) int { return a.key - b.key }

// P38.2
func TestMerge(t *testing.T) {
	is(t, "the example", merge.Merge(cmp.Compare[int], []int{1, 3}, []int{2, 3}), 1, 2, 3, 3)
	is(t, "Once of it", merge.Once(merge.Merge(cmp.Compare[int], []int{1, 3}, []int{2, 3}), cmp.Compare[int]), 1, 2, 3)
	is(t, "of none", merge.Merge(cmp.Compare[int]))
	is(t, "of empty ones", merge.Merge(cmp.Compare[int], nil, []int{}, []int{4}, nil), 4)
	is(t, "alike ones", merge.Merge(byKey, []thing{{1, "a"}, {1, "b"}, {2, "c"}}, []thing{{0, "d"}, {1, "e"}, {2, "f"}}, []thing{{1, "g"}}),
		thing{0, "d"}, thing{1, "a"}, thing{1, "b"}, thing{1, "e"}, thing{1, "g"}, thing{2, "c"}, thing{2, "f"})
	is(t, "Once", merge.Once(merge.Of(thing{1, "a"}, thing{1, "b"}, thing{2, "c"}, thing{1, "d"}, thing{1, "e"}), byKey), thing{1, "a"}, thing{2, "c"}, thing{1, "d"})
}

func TestBoth(t *testing.T) {
	a := []thing{{1, "a"}, {2, "b"}, {2, "c"}, {4, "d"}, {5, "e"}}
	b := []thing{{0, "p"}, {2, "q"}, {2, "r"}, {3, "s"}, {5, "t"}, {6, "u"}}
	want := [][2]string{{"b", "q"}, {"b", "r"}, {"c", "q"}, {"c", "r"}, {"e", "t"}}
	var got [][2]string
	for x, y := range merge.Both(byKey, a, b) {
		got = append(got, [2]string{x.from, y.from})
	}
	if !slices.Equal(got, want) {
		t.Error(got)
	}
	for n := range len(want) {
		k := 0
		for range merge.Both(byKey, a, b) {
			if k++; k == n+1 {
				break
			}
		}
		if k != n+1 {
			t.Error(k)
		}
	}
	for range merge.Both(byKey, nil, b) {
		t.Error("of none")
	}
	for range merge.Both(byKey, a, nil) {
		t.Error("of none")
	}
}

// P38.3
func TestWhatFollows(t *testing.T) {
	r := rand.New(rand.NewPCG(1, 1))
	for range 500 {
		var lists [][]int
		for range r.IntN(5) {
			var l []int
			for range r.IntN(6) {
				l = append(l, r.IntN(9))
			}
			slices.Sort(l)
			lists = append(lists, l)
		}
		want := slices.Concat(lists...)
		slices.Sort(want)
		is(t, "Merge", merge.Merge(cmp.Compare[int], lists...), want...)
		is(t, "Once", merge.Once(merge.Merge(cmp.Compare[int], lists...), cmp.Compare[int]), slices.Compact(slices.Clone(want))...)
		if len(lists) < 2 {
			continue
		}
		n := 0
		for _, x := range lists[0] {
			for _, y := range lists[1] {
				if x == y {
					n++
				}
			}
		}
		for x, y := range merge.Both(cmp.Compare[int], lists[0], lists[1]) {
			if n--; x != y {
				t.Fatal(x, y)
			}
		}
		if n != 0 {
			t.Fatal("Both", n)
		}
	}
}
