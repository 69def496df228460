package tests

import (
	"slices"
	"testing"

	"loop.example/g00158/impl"
)

// classes: the marks that the chapter lists, class by class.
var classes = []struct {
	class int
	marks []int
}{
	{230, []int{0x300, 0x301, 0x302, 0x303, 0x304, 0x306, 0x307, 0x308, 0x30A, 0x30C}},
	{220, []int{0x323, 0x331}},
	{202, []int{0x327, 0x328}},
	{1, []int{0x338}},
}

// apartRows: the chapter's list, row by row: a stretch of runes, their letter and the mark of each. The rows
// with a small letter are told there by the capital ones.
var apartRows = []struct {
	from   int
	letter int
	marks  []int
}{
	{0xC0, 'A', []int{0x300, 0x301, 0x302, 0x303, 0x308, 0x30A}},
	{0xC7, 'C', []int{0x327}},
	{0xC8, 'E', []int{0x300, 0x301, 0x302, 0x308}},
	{0xCC, 'I', []int{0x300, 0x301, 0x302, 0x308}},
	{0xD1, 'N', []int{0x303}},
	{0xD2, 'O', []int{0x300, 0x301, 0x302, 0x303, 0x308}},
	{0xD9, 'U', []int{0x300, 0x301, 0x302, 0x308}},
	{0xDD, 'Y', []int{0x301}},
	{0xE0, 'a', []int{0x300, 0x301, 0x302, 0x303, 0x308, 0x30A}},
	{0xE7, 'c', []int{0x327}},
	{0xE8, 'e', []int{0x300, 0x301, 0x302, 0x308}},
	{0xEC, 'i', []int{0x300, 0x301, 0x302, 0x308}},
	{0xF1, 'n', []int{0x303}},
	{0xF2, 'o', []int{0x300, 0x301, 0x302, 0x303, 0x308}},
	{0xF9, 'u', []int{0x300, 0x301, 0x302, 0x308}},
	{0xFD, 'y', []int{0x301}},
	{0xFF, 'y', []int{0x308}},
	{0x1EA4, 0xC2, []int{0x301}},
	{0x1EA5, 0xE2, []int{0x301}},
	{0x1E63, 's', []int{0x323}},
	{0x1E69, 0x1E63, []int{0x307}},
}

// slowClass, slowApart and slowTogether: the chapter's lists as maps.
var slowClass = classMap()
var slowApart = apartMap()
var slowTogether = togetherMap()

func classMap() map[int]int {
	m := map[int]int{}
	for _, c := range classes {
		for _, r := range c.marks {
			m[r] = c.class
		}
	}
	return m
}

func apartMap() map[int][]int {
	m := map[int][]int{0x212B: {0xC5}}
	for _, row := range apartRows {
		for i, mark := range row.marks {
			m[row.from+i] = []int{row.letter, mark}
		}
	}
	// Counted up part by part instead of divided.
	r := 0xAC00
	for lead := 0x1100; lead <= 0x1112; lead++ {
		for vowel := 0x1161; vowel <= 0x1175; vowel++ {
			m[r] = []int{lead, vowel}
			r++
			for tail := 0x11A8; tail <= 0x11C2; tail++ {
				m[r] = []int{lead, vowel, tail}
				r++
			}
		}
	}
	return m
}

func togetherMap() map[[2]int]int {
	m := map[[2]int]int{}
	for r, l := range slowApart {
		if len(l) == 2 {
			m[[2]int{l[0], l[1]}] = r
		}
	}
	for r, l := range slowApart {
		if len(l) == 3 {
			m[[2]int{m[[2]int{l[0], l[1]}], l[2]}] = r
		}
	}
	return m
}

func TestListsOfTheChapterAreWhole(t *testing.T) {
	if len(slowClass) != 15 || len(slowApart) != 26+26+5+1+11172 || len(slowTogether) != 26+26+5+11172 {
		t.Error(len(slowClass), len(slowApart), len(slowTogether))
	}
	if l := slowApart[0xD7A3]; !slices.Equal(l, []int{0x1112, 0x1175, 0x11C2}) {
		t.Error(l)
	}
}

func TestClassOfEachMark(t *testing.T) {
	for _, c := range classes {
		for _, r := range c.marks {
			if n := impl.ClassOf(r); n != c.class {
				t.Errorf("ClassOf(U+%04X) = %d, asked for %d", r, n, c.class)
			}
		}
	}
}

// With all that the chapter doesn't list: the neighbours of what it lists, the runes that are not good, and some beyond.
func TestClassOfAndApartOfAllRunes(t *testing.T) {
	for r := -1000; r <= 1114111+1000; r++ {
		if n := impl.ClassOf(r); n != slowClass[r] {
			t.Errorf("ClassOf(U+%04X) = %d, asked for %d", r, n, slowClass[r])
		}
		want := slowApart[r]
		if want == nil && impl.GoodRune(r) {
			want = []int{r}
		}
		if l := impl.ApartOf(r); !slices.Equal(l, want) {
			t.Errorf("ApartOf(U+%04X) = %X, asked for %X", r, l, want)
		}
	}
}

func TestApartOfNamedRunes(t *testing.T) {
	for _, p := range []struct {
		r    int
		want []int
	}{
		{0xC0, []int{'A', 0x300}}, {0xC4, []int{'A', 0x308}}, {0xC5, []int{'A', 0x30A}}, {0xC6, []int{0xC6}},
		{0xC7, []int{'C', 0x327}}, {0xCB, []int{'E', 0x308}}, {0xCF, []int{'I', 0x308}}, {0xD0, []int{0xD0}},
		{0xD1, []int{'N', 0x303}}, {0xD6, []int{'O', 0x308}}, {0xD7, []int{0xD7}}, {0xD8, []int{0xD8}},
		{0xDC, []int{'U', 0x308}}, {0xDD, []int{'Y', 0x301}}, {0xDE, []int{0xDE}}, {0xDF, []int{0xDF}},
		{0xE0, []int{'a', 0x300}}, {0xE6, []int{0xE6}}, {0xE7, []int{'c', 0x327}}, {0xF7, []int{0xF7}},
		{0xFD, []int{'y', 0x301}}, {0xFE, []int{0xFE}}, {0xFF, []int{'y', 0x308}}, {0x100, []int{0x100}},
		{0x178, []int{0x178}}, {0x1E62, []int{0x1E62}}, {0x1E63, []int{'s', 0x323}}, {0x1E68, []int{0x1E68}},
		{0x1E69, []int{0x1E63, 0x307}}, {0x1EA4, []int{0xC2, 0x301}}, {0x1EA5, []int{0xE2, 0x301}},
		{0x212A, []int{0x212A}}, {0x212B, []int{0xC5}}, {0x301, []int{0x301}}, {0x1100, []int{0x1100}},
		{0xABFF, []int{0xABFF}}, {0xAC00, []int{0x1100, 0x1161}}, {0xAC01, []int{0x1100, 0x1161, 0x11A8}},
		{0xAC1B, []int{0x1100, 0x1161, 0x11C2}}, {0xAC1C, []int{0x1100, 0x1162}}, {0xAE4B, []int{0x1100, 0x1175, 0x11C2}},
		{0xAE4C, []int{0x1101, 0x1161}}, {0xD788, []int{0x1112, 0x1175}}, {0xD7A3, []int{0x1112, 0x1175, 0x11C2}},
		{0xD7A4, []int{0xD7A4}}, {0, []int{0}}, {0x10FFFF, []int{0x10FFFF}},
	} {
		if l := impl.ApartOf(p.r); !slices.Equal(l, p.want) {
			t.Errorf("ApartOf(U+%04X) = %X, asked for %X", p.r, l, p.want)
		}
	}
}

func checkTogether(t *testing.T, a, b int) {
	t.Helper()
	want, there := slowTogether[[2]int{a, b}]
	if r, ok := impl.TogetherOf(a, b); r != want || ok != there {
		t.Errorf("TogetherOf(U+%04X, U+%04X) = U+%04X %v, asked for U+%04X %v", a, b, r, ok, want, there)
	}
}

func TestTogetherOfEachPairThatApartOfGives(t *testing.T) {
	for r := 0; r <= 1114111; r++ {
		l := impl.ApartOf(r)
		switch len(l) {
		case 2:
			if got, ok := impl.TogetherOf(l[0], l[1]); got != r || !ok {
				t.Errorf("TogetherOf(%X) = U+%04X %v, asked for U+%04X", l, got, ok, r)
			}
		case 3:
			open, ok := impl.TogetherOf(l[0], l[1])
			if len(impl.ApartOf(open)) != 2 || !ok {
				t.Errorf("TogetherOf(%X) = U+%04X %v", l[:2], open, ok)
			}
			if got, ok := impl.TogetherOf(open, l[2]); got != r || !ok {
				t.Errorf("TogetherOf(U+%04X, U+%04X) = U+%04X %v, asked for U+%04X", open, l[2], got, ok, r)
			}
		}
	}
}

// All pairs of what may be in one and its neighbours, most of which are none.
func TestTogetherOfManyPairs(t *testing.T) {
	seconds := []int{-1, 0, 'A', 'a', 32, 0xC5, 0x212B, 0xAC00, 0xAC01, 0x10FFFF}
	for r := 0x2FE; r <= 0x33A; r++ {
		seconds = append(seconds, r)
	}
	for r := 0x10FE; r <= 0x11C5; r++ {
		seconds = append(seconds, r)
	}
	for _, b := range seconds {
		for a := 0; a <= 0x180; a++ {
			checkTogether(t, a, b)
		}
		for a := 0x10F0; a <= 0x1200; a++ {
			checkTogether(t, a, b)
		}
		for a := 0x1E60; a <= 0x1EA8; a++ {
			checkTogether(t, a, b)
		}
		for a := 0xAC00 - 30; a <= 0xAC00+60; a++ {
			checkTogether(t, a, b)
		}
		for a := 0xD7A3 - 60; a <= 0xD7A3+60; a++ {
			checkTogether(t, a, b)
		}
	}
}

func TestTogetherOfPairsThatAreNone(t *testing.T) {
	for _, p := range [][2]int{
		{'A', 0x304}, {'A', 'A'}, {0x300, 'A'}, {'B', 0x300}, {'Y', 0x308}, {'S', 0x323}, {'s', 0x307}, {'N', 0x301},
		{0xC5, 0}, {0, 0xC5}, {0xC5, 0xC5}, {0xC1, 0x302}, {'A', 0x338}, {0x1E63, 0x323}, {0x212B, 0x301},
		{0x10FF, 0x1161}, {0x1113, 0x1161}, {0x1100, 0x1160}, {0x1100, 0x1176}, {0x1100, 0x11A8}, {0x1161, 0x11A8},
		{0xAC00, 0x11A7}, {0xAC00, 0x11C3}, {0xAC01, 0x11A8}, {0xAC1B, 0x11A8}, {0xAC00, 0x1161}, {0xABE4, 0x11A8},
		{0xD7A3, 0x11A8}, {0xD7A4, 0x11A8}, {0x1100, 0xAC00},
	} {
		if r, ok := impl.TogetherOf(p[0], p[1]); r != 0 || ok {
			t.Errorf("TogetherOf(U+%04X, U+%04X) = U+%04X %v", p[0], p[1], r, ok)
		}
	}
}
