package tests

import (
	"math"
	"slices"
	"testing"

	"loop.example/g00158/impl"
)

var wrongRunes = []int{
	-1, -0x301, -0xC0, -0xAC00, math.MinInt32, math.MinInt, math.MinInt + 0x301, math.MinInt + 0xC0, math.MinInt + 0xAC00,
	55296, 55297, 56320, 57342, 57343,
	1114112, 1 << 21, math.MaxInt32, 1<<32 + 0x301, 1<<32 + 0xC0, 1<<32 + 0xAC00, 1<<40 + 0x1100, math.MaxInt - 27, math.MaxInt,
}

// noForms fails unless NormalD and NormalC of l give the zero answer.
func noForms(t *testing.T, l []int) {
	t.Helper()
	if got, ok := impl.NormalD(l); ok || len(got) != 0 {
		t.Errorf("NormalD of %d runes = %X %v", len(l), got, ok)
	}
	if got, ok := impl.NormalC(l); ok || len(got) != 0 {
		t.Errorf("NormalC of %d runes = %X %v", len(l), got, ok)
	}
}

// checkSame fails unless SameRunes of these two tells this, whichever is the first.
func checkSame(t *testing.T, a, b []int, same, good bool) {
	t.Helper()
	for _, p := range [][2][]int{{a, b}, {b, a}} {
		if is, ok := impl.SameRunes(p[0], p[1]); is != same || ok != good {
			t.Errorf("SameRunes(%X, %X) = %v %v, asked for %v %v", p[0], p[1], is, ok, same, good)
		}
	}
}

// refusedList fails unless all that take a list give the zero answer.
func refusedList(t *testing.T, l []int) {
	t.Helper()
	noForms(t, l)
	if got, ok := impl.SortMarks(l); ok || len(got) != 0 {
		t.Errorf("SortMarks of %d runes = %X %v", len(l), got, ok)
	}
	if is, ok := impl.IsNormalD(l); ok || is {
		t.Errorf("IsNormalD of %d runes = %v %v", len(l), is, ok)
	}
	for _, other := range [][]int{l, nil, {'a'}} {
		checkSame(t, l, other, false, false)
	}
}

// growsBeyond fails unless l, good runes that are more than MaxRunes when they are taken apart, has no
// forms, but is told of by all that hand out no list of them.
func growsBeyond(t *testing.T, l []int) {
	t.Helper()
	noForms(t, l)
	if got, ok := impl.SortMarks(l); !ok || !slices.Equal(got, slowSort(l)) {
		t.Errorf("SortMarks(%X) = %X %v", l, got, ok)
	}
	if is, ok := impl.IsNormalD(l); !ok || is {
		t.Errorf("IsNormalD(%X) = %v %v, asked for false true", l, is, ok)
	}
	checkSame(t, l, l, true, true)
	for _, other := range [][]int{nil, {'a'}, l[:len(l)-1], l[1:]} {
		checkSame(t, l, other, slices.Equal(slowNormalD(l), slowNormalD(other)), true)
	}
}

func TestNormalOfRunesThatAreNotGood(t *testing.T) {
	for _, r := range wrongRunes {
		if n := impl.ClassOf(r); n != 0 {
			t.Errorf("ClassOf(%d) = %d", r, n)
		}
		if l := impl.ApartOf(r); len(l) != 0 {
			t.Errorf("ApartOf(%d) = %X", r, l)
		}
		for _, other := range []int{'A', 0x301, 0x1100, 0x1161, 0x11A8, 0xAC00, r, -r} {
			for _, p := range [][2]int{{r, other}, {other, r}} {
				if got, ok := impl.TogetherOf(p[0], p[1]); got != 0 || ok {
					t.Errorf("TogetherOf(%d, %d) = %X %v", p[0], p[1], got, ok)
				}
			}
		}
		refusedList(t, []int{r})
		refusedList(t, []int{r, 'a', 0x301})
		refusedList(t, []int{'a', r, 0x301})
		refusedList(t, []int{'a', 0x301, r})
		refusedList(t, append(slices.Repeat([]int{'a'}, impl.MaxRunes-1), r))
		refusedList(t, append(slices.Repeat([]int{'a'}, impl.MaxRunes), r))
	}
}

func TestNormalOfExactlyMaxRunesAndOneMore(t *testing.T) {
	for _, r := range []int{0, 'a', 0x301, 0x338, 0x1100, 0x1161, 0x10FFFF} {
		l := slices.Repeat([]int{r}, impl.MaxRunes)
		checkForms(t, l, l, l, l)
		checkPromise(t, l)
		refusedList(t, append(l, r))
		refusedList(t, append(l, l...))
	}
	refusedList(t, make([]int, 1000000))

	// The marks of the one class all go past those of the other.
	high, low := slices.Repeat([]int{0x301}, impl.MaxRunes/2), slices.Repeat([]int{0x338}, impl.MaxRunes/2)
	sorted := slices.Concat(low, high)
	checkForms(t, slices.Concat(high, low), sorted, sorted, sorted)
}

func TestListsThatGrowAsTheyAreTakenApart(t *testing.T) {
	for _, p := range []struct {
		r     int
		parts int
	}{
		{0xC0, 2}, {0xFF, 2}, {0x212B, 2}, {0xAC00, 2}, {0xD788, 2}, {0x1E63, 2},
		{0xAC01, 3}, {0xD7A3, 3}, {0x1E69, 3}, {0x1EA4, 3}, {0x1EA5, 3},
	} {
		n := impl.MaxRunes / p.parts
		full := slices.Repeat([]int{p.r}, n)
		full = append(full, slices.Repeat([]int{'x'}, impl.MaxRunes-n*p.parts)...)
		checkForms(t, full, full, slowNormalD(full), slowNormalC(full))
		checkPromise(t, full)
		for _, l := range [][]int{
			append(slices.Clone(full), 'x'),
			append([]int{0x301}, full...),
			slices.Repeat([]int{p.r}, n+1),
			slices.Repeat([]int{p.r}, impl.MaxRunes),
		} {
			growsBeyond(t, l)
		}
		refusedList(t, slices.Repeat([]int{p.r}, impl.MaxRunes+1))
	}
}

// times: n times r, and these behind them.
func times(n int, r int, last ...int) []int {
	return append(slices.Repeat([]int{r}, n), last...)
}

// All that is unlike, or spelled otherwise, stands at the end, where the runes taken apart are beyond MaxRunes.
func TestSameRunesOfListsThatGrow(t *testing.T) {
	full := impl.MaxRunes / 2
	for _, p := range []struct {
		name string
		a, b []int
		same bool
	}{
		{"the last one spelled by two", times(full+1, 0xE9), times(full, 0xE9, 'e', 0x301), true},
		{"the last one another", times(full+1, 0xE9), times(full, 0xE9, 0xE8), false},
		{"one more", times(full+1, 0xE9), times(full+2, 0xE9), false},
		{"one beyond, one exactly at the limit", times(full, 0xE9, 'x'), times(full, 0xE9), false},
		{"of its runes taken apart the first MaxRunes", times(full, 0xE9, 'x'), slowNormalD(times(full, 0xE9)), false},
		{"marks sorted", times(full, 0xE9, 's', 0x307, 0x323), times(full, 0xE9, 0x1E69), true},
		{"marks sorted into the middle of the limit", times(full-1, 0xE9, 'x', 0x301, 0x323, 0x338), times(full-1, 0xE9, 'x', 0x338, 0x323, 0x301), true},
		{"marks of one class the other way round", times(full, 0xE9, 'x', 0x300, 0x301), times(full, 0xE9, 'x', 0x301, 0x300), false},
		{"one part and two", times(impl.MaxRunes, 0x212B), times(impl.MaxRunes, 0xC5), true},
		{"three parts each", times(impl.MaxRunes, 0xAC01), times(impl.MaxRunes, 0xAC01), true},
		{"three parts each, but the last one", times(impl.MaxRunes, 0xAC01), times(impl.MaxRunes-1, 0xAC01, 0xAC00), false},
		{"three parts each, two and one", times(full, 0xAC01), slices.Repeat([]int{0xAC00, 0x11A8}, full), true},
		{"in two steps and in one", times(impl.MaxRunes, 0x1E69), times(impl.MaxRunes, 0x1EA5), false},
	} {
		t.Run(p.name, func(t *testing.T) {
			checkSame(t, p.a, p.b, p.same, true)
		})
	}
}

func TestSameRunesOfTwoOneOfWhichIsNotGood(t *testing.T) {
	grows := times(impl.MaxRunes, 0xC0)
	for _, bad := range [][]int{{-1}, times(impl.MaxRunes-1, 0xC0, 55296), times(impl.MaxRunes+1, 0xC0), times(impl.MaxRunes+1, 'a')} {
		for _, other := range [][]int{grows, grows[:1], nil, {-1}, bad} {
			checkSame(t, bad, other, false, false)
		}
	}
}

func TestNormalOfEmptyLists(t *testing.T) {
	for _, l := range [][]int{nil, {}, []int{-1, 0x301}[:0]} {
		checkForms(t, l, nil, nil, nil)
		checkPromise(t, l)
		if same, ok := impl.SameRunes(l, nil); !same || !ok {
			t.Errorf("SameRunes(%v, nil) = %v %v", l, same, ok)
		}
	}
}

// What lies behind the length is a mark that would be sorted ahead, and then no good rune.
func TestNormalKeepsToItsArgument(t *testing.T) {
	for _, l := range [][]int{
		{'x', 0x301, 0x323},
		{'s', 0x307, 0x323},
		{0x1E69, 0x301, 0x338},
		{0x212B, 0xAC01, 0x1100, 0x1161},
		{'a', 'b', 'c'},
		{'A', 0x302, 0x301},
	} {
		memory := append(slices.Clone(l), 0x338, -1, 0x301, math.MaxInt)
		before := slices.Clone(memory)
		part := memory[:len(l)]
		checkForms(t, part, slowSort(l), slowNormalD(l), slowNormalC(l))
		checkPromise(t, part)
		refusedList(t, memory)
		if !slices.Equal(memory, before) {
			t.Errorf("was written into: %X, before %X", memory, before)
		}
	}
}

// spoil writes over all of an answer, also behind its length.
func spoil(l []int) {
	l = l[:cap(l)]
	for i := range l {
		l[i] = -7
	}
}

func TestNormalAnswersAreNewMemory(t *testing.T) {
	for _, l := range [][]int{{'a', 'b'}, {'s', 0x307, 0x323}, {0x1E69}, {0x212B, 'x'}, {0xAC01}, {0xAC00, 0x11A8}, {0x338}, {}} {
		memory := append(slices.Clone(l), 0x338, 0x301)
		before := slices.Clone(memory)
		part := memory[:len(l)]
		for _, f := range []func([]int) ([]int, bool){impl.SortMarks, impl.NormalD, impl.NormalC} {
			one, _ := f(part)
			two, _ := f(part)
			kept := slices.Clone(two)
			spoil(one)
			if !slices.Equal(memory, before) {
				t.Fatalf("an answer shares memory with its list: %X, before %X", memory, before)
			}
			if !slices.Equal(two, kept) {
				t.Errorf("two answers share memory: %X, before %X", two, kept)
			}
		}
		checkForms(t, part, slowSort(l), slowNormalD(l), slowNormalC(l))
	}
	for _, r := range []int{'x', 0xC0, 0xE0, 0xFF, 0x1E69, 0x212B, 0xAC00, 0xAC01, 0x301} {
		want := slices.Clone(impl.ApartOf(r))
		spoil(impl.ApartOf(r))
		if l := impl.ApartOf(r); !slices.Equal(l, want) {
			t.Errorf("ApartOf(U+%04X) = %X, before %X", r, l, want)
		}
	}
}
