package tests

import (
	"math"
	"slices"
	"testing"

	"loop.example/g00158/impl"
)

var wrongRunes = []int{
	-1, -0x301, -0xC0, -0xAC00, math.MinInt32, math.MinInt, math.MinInt + 0x301, math.MinInt + 0xC0, math.MinInt + 0xAC00,
	55296, 55297, 56320, 57342, 57343,
	1114112, 1 << 21, math.MaxInt32, 1<<32 + 0x301, 1<<32 + 0xC0, 1<<32 + 0xAC00, 1<<40 + 0x1100, math.MaxInt - 27, math.MaxInt,
}

// notTakenApart fails unless l has no NormalD, and what hangs on it the zero answer.
func notTakenApart(t *testing.T, l []int) {
	t.Helper()
	if got, ok := impl.NormalD(l); ok || len(got) != 0 {
		t.Errorf("NormalD of %d runes = %X %v", len(l), got, ok)
	}
	if got, ok := impl.NormalC(l); ok || len(got) != 0 {
		t.Errorf("NormalC of %d runes = %X %v", len(l), got, ok)
	}
	if is, ok := impl.IsNormalD(l); ok || is {
		t.Errorf("IsNormalD of %d runes = %v %v", len(l), is, ok)
	}
	for _, p := range [][2][]int{{l, l}, {l, nil}, {nil, l}, {l, {'a'}}, {{'a'}, l}} {
		if same, ok := impl.SameRunes(p[0], p[1]); ok || same {
			t.Errorf("SameRunes of %d and %d runes = %v %v", len(p[0]), len(p[1]), same, ok)
		}
	}
}

func refusedList(t *testing.T, l []int) {
	t.Helper()
	notTakenApart(t, l)
	if got, ok := impl.SortMarks(l); ok || len(got) != 0 {
		t.Errorf("SortMarks of %d runes = %X %v", len(l), got, ok)
	}
}

func TestNormalOfRunesThatAreNotGood(t *testing.T) {
	for _, r := range wrongRunes {
		if n := impl.ClassOf(r); n != 0 {
			t.Errorf("ClassOf(%d) = %d", r, n)
		}
		if l := impl.ApartOf(r); len(l) != 0 {
			t.Errorf("ApartOf(%d) = %X", r, l)
		}
		for _, other := range []int{'A', 0x301, 0x1100, 0x1161, 0x11A8, 0xAC00, r, -r} {
			for _, p := range [][2]int{{r, other}, {other, r}} {
				if got, ok := impl.TogetherOf(p[0], p[1]); got != 0 || ok {
					t.Errorf("TogetherOf(%d, %d) = %X %v", p[0], p[1], got, ok)
				}
			}
		}
		refusedList(t, []int{r})
		refusedList(t, []int{r, 'a', 0x301})
		refusedList(t, []int{'a', r, 0x301})
		refusedList(t, []int{'a', 0x301, r})
		refusedList(t, append(slices.Repeat([]int{'a'}, impl.MaxRunes-1), r))
		refusedList(t, append(slices.Repeat([]int{'a'}, impl.MaxRunes), r))
	}
}

func TestNormalOfExactlyMaxRunesAndOneMore(t *testing.T) {
	for _, r := range []int{0, 'a', 0x301, 0x338, 0x1100, 0x1161, 0x10FFFF} {
		l := slices.Repeat([]int{r}, impl.MaxRunes)
		checkForms(t, l, l, l, l)
		checkPromise(t, l)
		refusedList(t, append(l, r))
		refusedList(t, append(l, l...))
	}
	refusedList(t, make([]int, 1000000))

	// The marks of the one class all go past those of the other.
	high, low := slices.Repeat([]int{0x301}, impl.MaxRunes/2), slices.Repeat([]int{0x338}, impl.MaxRunes/2)
	sorted := slices.Concat(low, high)
	checkForms(t, slices.Concat(high, low), sorted, sorted, sorted)
}

func TestListsThatGrowAsTheyAreTakenApart(t *testing.T) {
	for _, p := range []struct {
		r     int
		parts int
	}{
		{0xC0, 2}, {0xFF, 2}, {0x212B, 2}, {0xAC00, 2}, {0xD788, 2}, {0x1E63, 2},
		{0xAC01, 3}, {0xD7A3, 3}, {0x1E69, 3}, {0x1EA4, 3}, {0x1EA5, 3},
	} {
		n := impl.MaxRunes / p.parts
		full := slices.Repeat([]int{p.r}, n)
		full = append(full, slices.Repeat([]int{'x'}, impl.MaxRunes-n*p.parts)...)
		checkForms(t, full, full, slowNormalD(full), slowNormalC(full))
		checkPromise(t, full)
		for _, l := range [][]int{
			append(slices.Clone(full), 'x'),
			append([]int{0x301}, full...),
			slices.Repeat([]int{p.r}, n+1),
			slices.Repeat([]int{p.r}, impl.MaxRunes),
		} {
			notTakenApart(t, l)
			if got, ok := impl.SortMarks(l); !ok || !slices.Equal(got, l) {
				t.Errorf("SortMarks(%X) = %X %v", l, got, ok)
			}
		}
		refusedList(t, slices.Repeat([]int{p.r}, impl.MaxRunes+1))
	}
}

// A list that goes beyond is refused also where the other one is too, or is none.
func TestSameRunesOfTwoThatAreRefused(t *testing.T) {
	grows := slices.Repeat([]int{0xC0}, impl.MaxRunes)
	for _, p := range [][2][]int{{grows, grows}, {grows, {-1}}, {{-1}, grows}, {{-1}, {-1}}, {{-1}, nil}} {
		if same, ok := impl.SameRunes(p[0], p[1]); same || ok {
			t.Errorf("SameRunes of %d and %d runes = %v %v", len(p[0]), len(p[1]), same, ok)
		}
	}
}

func TestNormalOfEmptyLists(t *testing.T) {
	for _, l := range [][]int{nil, {}, []int{-1, 0x301}[:0]} {
		checkForms(t, l, nil, nil, nil)
		checkPromise(t, l)
		if same, ok := impl.SameRunes(l, nil); !same || !ok {
			t.Errorf("SameRunes(%v, nil) = %v %v", l, same, ok)
		}
	}
}

// What lies behind the length is a mark that would be sorted ahead, and then no good rune.
func TestNormalKeepsToItsArgument(t *testing.T) {
	for _, l := range [][]int{
		{'x', 0x301, 0x323},
		{'s', 0x307, 0x323},
		{0x1E69, 0x301, 0x338},
		{0x212B, 0xAC01, 0x1100, 0x1161},
		{'a', 'b', 'c'},
		{'A', 0x302, 0x301},
	} {
		memory := append(slices.Clone(l), 0x338, -1, 0x301, math.MaxInt)
		before := slices.Clone(memory)
		part := memory[:len(l)]
		checkForms(t, part, slowSort(l), slowNormalD(l), slowNormalC(l))
		checkPromise(t, part)
		refusedList(t, memory)
		if !slices.Equal(memory, before) {
			t.Errorf("was written into: %X, before %X", memory, before)
		}
	}
}

// spoil writes over all of an answer, also behind its length.
func spoil(l []int) {
	l = l[:cap(l)]
	for i := range l {
		l[i] = -7
	}
}

func TestNormalAnswersAreNewMemory(t *testing.T) {
	for _, l := range [][]int{{'a', 'b'}, {'s', 0x307, 0x323}, {0x1E69}, {0x212B, 'x'}, {0xAC01}, {0xAC00, 0x11A8}, {0x338}, {}} {
		memory := append(slices.Clone(l), 0x338, 0x301)
		before := slices.Clone(memory)
		part := memory[:len(l)]
		for _, f := range []func([]int) ([]int, bool){impl.SortMarks, impl.NormalD, impl.NormalC} {
			one, _ := f(part)
			two, _ := f(part)
			kept := slices.Clone(two)
			spoil(one)
			if !slices.Equal(memory, before) {
				t.Fatalf("an answer shares memory with its list: %X, before %X", memory, before)
			}
			if !slices.Equal(two, kept) {
				t.Errorf("two answers share memory: %X, before %X", two, kept)
			}
		}
		checkForms(t, part, slowSort(l), slowNormalD(l), slowNormalC(l))
	}
	for _, r := range []int{'x', 0xC0, 0xE0, 0xFF, 0x1E69, 0x212B, 0xAC00, 0xAC01, 0x301} {
		want := slices.Clone(impl.ApartOf(r))
		spoil(impl.ApartOf(r))
		if l := impl.ApartOf(r); !slices.Equal(l, want) {
			t.Errorf("ApartOf(U+%04X) = %X, before %X", r, l, want)
		}
	}
}
