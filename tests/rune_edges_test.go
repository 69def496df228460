package tests

import (
	"math"
	"slices"
	"strings"
	"testing"
	"unsafe"

	"loop.example/g00158/impl"
)

// refusedText fails unless all that read text give the zero answer.
func refusedText(t *testing.T, text string) {
	t.Helper()
	if l, ok := impl.DecodeText(text); ok || len(l) != 0 {
		t.Errorf("DecodeText of %d bytes = %v %v", len(text), l, ok)
	}
	if n, ok := impl.BadIn(text); ok || n != 0 {
		t.Errorf("BadIn of %d bytes = %v %v", len(text), n, ok)
	}
	if s, ok := impl.CleanText(text); ok || s != "" {
		t.Errorf("CleanText of %d bytes = %q %v", len(text), s, ok)
	}
}

func refusedRunes(t *testing.T, l []int) {
	t.Helper()
	if s, ok := impl.EncodeRunes(l); ok || s != "" {
		t.Errorf("EncodeRunes of %d runes = %q %v", len(l), s, ok)
	}
}

func TestExactlyMaxBytesAndOneMore(t *testing.T) {
	for _, p := range []struct {
		text  string
		runes []int
		bad   int
	}{
		{"a", []int{'a'}, 0},
		{"\x00", []int{0}, 0},
		{"\xff", []int{bad}, 1},
		{"\x80", []int{bad}, 1},
		{"\xc3\xa9", []int{233}, 0},
		{"\xf0\x9f\x98\x80", []int{128512}, 0},
		{"\xe2\x82", []int{bad}, 1},
	} {
		n := impl.MaxBytes / len(p.text)
		full := strings.Repeat(p.text, n)
		sameText(t, full, slices.Repeat(p.runes, n), n*p.bad)
		refusedText(t, full+"a")
		refusedText(t, full+"\xff")
		refusedText(t, full+full)
	}
	sameText(t, strings.Repeat("a", impl.MaxBytes-1)+"\xf0", append(slices.Repeat([]int{'a'}, impl.MaxBytes-1), bad), 1)
	refusedText(t, strings.Repeat("a", impl.MaxBytes-1)+"\xc3\xa9")
	refusedText(t, strings.Repeat("\xf0\x9f\x98\x80", 1000000))
}

func TestExactlyMaxRunesAndOneMore(t *testing.T) {
	for _, e := range edgeRunes {
		l := slices.Repeat([]int{e.r}, impl.MaxRunes)
		if s, ok := impl.EncodeRunes(l); !ok || s != strings.Repeat(e.text, impl.MaxRunes) {
			t.Errorf("EncodeRunes of %d times %d = %q %v", len(l), e.r, s, ok)
		}
		refusedRunes(t, append(l, e.r))
	}
	refusedRunes(t, append(slices.Repeat([]int{'a'}, impl.MaxRunes), -1))
	refusedRunes(t, make([]int, 1000000))
}

func TestRunesThatAreNotGood(t *testing.T) {
	for _, r := range []int{
		-1, -65, -65533, -1114111, math.MinInt32, math.MinInt, math.MinInt + 65,
		55296, 55297, 56319, 56320, 57342, 57343,
		1114112, 1114113, 1 << 21, math.MaxInt32, math.MaxUint32, math.MaxUint32 + 1 + 65, 1<<40 + 8364, math.MaxInt,
	} {
		if impl.GoodRune(r) {
			t.Errorf("GoodRune(%d)", r)
		}
		refusedRunes(t, []int{r})
		refusedRunes(t, []int{r, 'a', 'b'})
		refusedRunes(t, []int{'a', r, 'b'})
		refusedRunes(t, []int{'a', 'b', r})
		refusedRunes(t, append(slices.Repeat([]int{'a'}, impl.MaxRunes-1), r))
	}
}

func TestEmptyTextAndEmptyLists(t *testing.T) {
	sameText(t, "", nil, 0)
	for _, l := range [][]int{nil, {}, []int{-1, 55296}[:0]} {
		if s, ok := impl.EncodeRunes(l); !ok || s != "" {
			t.Errorf("EncodeRunes(%v) = %q %v", l, s, ok)
		}
	}
}

// What lies behind the length is no good rune: it may be neither read nor written.
func TestEncodeRunesKeepsToItsArgument(t *testing.T) {
	memory := []int{'a', 233, 8364, 128512, -1, 55296, 1114112}
	before := slices.Clone(memory)
	s, ok := impl.EncodeRunes(memory[:4])
	if !ok || s != "a\u00e9\u20ac\U0001f600" {
		t.Errorf("%q %v", s, ok)
	}
	refusedRunes(t, memory[:5])
	if !slices.Equal(memory, before) {
		t.Errorf("was written into: %v", memory)
	}
	clear(memory)
	if s != "a\u00e9\u20ac\U0001f600" {
		t.Errorf("the answer shares memory with the list: %q", s)
	}
}

func TestAnswersAreNewMemory(t *testing.T) {
	const text = "ab\xe2\x82\xac\xff"
	one, _ := impl.DecodeText(text)
	one = one[:cap(one)]
	for i := range one {
		one[i] = -1
	}
	sameText(t, text, []int{'a', 'b', 8364, bad}, 1)

	for _, s := range []string{"clean", strings.Repeat("clean \u00e9 ", 10), "clean, then not \xff"} {
		c, ok := impl.CleanText(s)
		if !ok || c == "" {
			t.Errorf("CleanText(%q) = %q %v", s, c, ok)
			continue
		}
		from := uintptr(unsafe.Pointer(unsafe.StringData(s)))
		at := uintptr(unsafe.Pointer(unsafe.StringData(c)))
		if from <= at && at < from+uintptr(len(s)) {
			t.Errorf("CleanText(%q) is the memory of its argument", s)
		}
	}
}
