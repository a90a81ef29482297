package word_test

import (
	"math"
	"slices"
	"strings"
	"testing"

	"catchment/api"
	"catchment/word"
)

var numbers = []uint64{0, 1, 127, 128, 255, 256, 1 << 31, 1<<63 - 1, 1 << 63, math.MaxUint64}

// P3.1, P3.5
func TestValues(t *testing.T) {
	if got := word.Put(0x0102030405060708); got != "\x01\x02\x03\x04\x05\x06\x07\x08" {
		t.Fatalf("Put: %x", got)
	}
	for _, n := range numbers {
		s := word.Put(n)
		if got, ok := word.Take(s); len(s) != 8 || got != n || !ok {
			t.Errorf("Take(Put(%d)) = %d, %v", n, got, ok)
		}
		if got := word.Add("plays no part", false, n); got != s {
			t.Errorf("Add to none: %x", got)
		}
		for _, d := range numbers {
			if got := word.Add(s, true, d); got != word.Put(n+d) {
				t.Errorf("Add(%d, %d) = %x", n, d, got)
			}
			for _, e := range numbers {
				if word.Add(word.Add(s, true, d), true, e) != word.Add(s, true, d+e) {
					t.Errorf("Add of %d and then %d", d, e)
				}
			}
		}
	}
	if got := word.Add(strings.Repeat("\xff", 8), true, 1); got != strings.Repeat("\x00", 8) {
		t.Errorf("Add goes round to %x", got)
	}
	for _, s := range []string{"", "abc", "1234567", "123456789"} {
		if n, ok := word.Take(s); n != 0 || ok {
			t.Errorf("Take(%q) = %d, %v", s, n, ok)
		}
		if got := word.Add(s, true, 5); got != s {
			t.Errorf("Add to %q: %q", s, got)
		}
	}
}

// P3.2, P3.4
func TestNum(t *testing.T) {
	for n, want := range map[int]string{0: "\x00", 1: "\x01", 127: "\x7f", 128: "\x80\x01", 300: "\xac\x02", 16383: "\xff\x7f", 16384: "\x80\x80\x01",
		api.MaxNum: "\xff\xff\xff\xff\x07", -1: "", math.MinInt: "", api.MaxNum + 1: "", math.MaxInt: ""} {
		got := word.Num(n)
		if got != want {
			t.Errorf("Num(%d) = %x", n, got)
		}
		if want == "" {
			continue
		}
		for _, behind := range []string{"", "\x00", "\xff\xff", want} {
			if m, rest, err := word.TakeNum(got + behind); m != n || rest != behind || err != api.OK {
				t.Errorf("TakeNum of %d and %x: %d, %x, %d", n, behind, m, rest, err)
			}
		}
		for i := range len(got) {
			if m, rest, err := word.TakeNum(got[:i]); m != 0 || rest != "" || err != api.ErrEnd {
				t.Errorf("TakeNum(%x) = %d, %x, %d", got[:i], m, rest, err)
			}
		}
	}
	for s, want := range map[string]api.Errno{
		"": api.ErrEnd, "\x80": api.ErrEnd, "\xff\xff\xff\xff": api.ErrEnd, "\x80\x80": api.ErrEnd,
		"\x80\x00": api.ErrForm, "\xff\x80\x00z": api.ErrForm, "\x80\x80\x80\x80\x00": api.ErrForm,
		"\xff\xff\xff\xff\x08": api.ErrForm, "\xff\xff\xff\xff\x7f": api.ErrForm, "\xff\xff\xff\xff\xff": api.ErrForm,
		"\x80\x80\x80\x80\x80\x80\x80\x80\x80\x80\x80\x01": api.ErrForm, "\x80\x80\x80\x80\x80": api.ErrForm,
	} {
		if n, rest, err := word.TakeNum(s); n != 0 || rest != "" || err != want {
			t.Errorf("TakeNum(%x) = %d, %x, %d, want %d", s, n, rest, err, want)
		}
	}
}

// P3.3, P3.4
func TestText(t *testing.T) {
	long := strings.Repeat("x", 300)
	for _, s := range []string{"", "a", "\x00\xff", long} {
		b := word.Text(s)
		if b != word.Num(len(s))+s {
			t.Errorf("Text(%q) = %x", s, b)
		}
		if got, rest, err := word.TakeText(b+"behind", len(s)); got != s || rest != "behind" || err != api.OK {
			t.Errorf("TakeText of %q: %q, %q, %d", s, got, rest, err)
		}
		if got, rest, err := word.TakeText(b, len(s)+1); got != s || rest != "" || err != api.OK {
			t.Errorf("TakeText of %q, nothing behind: %q, %q, %d", s, got, rest, err)
		}
		if got, rest, err := word.TakeText(b, len(s)-1); got != "" || rest != "" || err != api.ErrLimit {
			t.Errorf("TakeText of %q, one fewer: %q, %q, %d", s, got, rest, err)
		}
	}
	for _, x := range []struct {
		s    string
		most int
		want api.Errno
	}{
		{"", 9, api.ErrEnd}, {"\x80\x00", 9, api.ErrForm}, {"\x05abc", 9, api.ErrEnd}, {"\x05abc", 4, api.ErrLimit},
		{"\x00", -1, api.ErrLimit}, {"\x80", 9, api.ErrEnd}, {"\xff\xff\xff\xff\x07a", math.MaxInt, api.ErrEnd},
	} {
		if got, rest, err := word.TakeText(x.s, x.most); got != "" || rest != "" || err != x.want {
			t.Errorf("TakeText(%x, %d) = %q, %q, %d, want %d", x.s, x.most, got, rest, err, x.want)
		}
	}
}

func TestTexts(t *testing.T) {
	l := []string{"a", "", "bc"}
	b := word.Texts(l...)
	if b != "\x01a\x00\x02bc" || word.Texts() != "" {
		t.Fatalf("Texts: %x", b)
	}
	if got, rest, err := word.TakeTexts(b+"z", 3, 2); !slices.Equal(got, l) || rest != "z" || err != api.OK {
		t.Fatal(got, rest, err)
	}
	if got, rest, err := word.TakeTexts(b, 2, 2); !slices.Equal(got, l[:2]) || rest != "\x02bc" || err != api.OK {
		t.Fatal(got, rest, err)
	}
	for _, many := range []int{0, -1, math.MinInt} {
		if got, rest, err := word.TakeTexts("rest", many, 2); len(got) != 0 || rest != "rest" || err != api.OK {
			t.Fatal(many, got, rest, err)
		}
	}
	for _, x := range []struct {
		s          string
		many, most int
		want       api.Errno
	}{{b, 4, 2, api.ErrEnd}, {b, 3, 1, api.ErrLimit}, {b, math.MaxInt, 2, api.ErrEnd}, {"\x01a\x80\x00", 2, 2, api.ErrForm}, {"\x02ab\x09", 2, 1, api.ErrLimit}} {
		if got, rest, err := word.TakeTexts(x.s, x.many, x.most); len(got) != 0 || rest != "" || err != x.want {
			t.Errorf("TakeTexts(%x, %d, %d) = %q, %q, %d, want %d", x.s, x.many, x.most, got, rest, err, x.want)
		}
	}
}
