package tests

import (
	"slices"
	"strings"
	"testing"

	"loop.example/g00158/impl"
)

func checkCuts(t *testing.T, s string, want ...int) {
	t.Helper()
	if l, ok := impl.CutsOf(s); !ok || !slices.Equal(l, want) {
		t.Errorf("CutsOf(%+q) = %v %v, asked for %v", s, l, ok, want)
	}
}

// cutRows: the cuts of texts, put down by hand.
var cutRows = []struct {
	name string
	s    string
	cuts []int
}{
	{"the empty text", "", []int{0}},
	{"one rune", "a", []int{0, 1}},
	{"starters alone", "ab-7", []int{0, 1, 2, 3, 4}},
	{"controls are starters", "\x00a\x7f", []int{0, 1, 2, 3}},

	{"a mark alone", "\u0301", []int{0, 2}},
	{"marks alone", "\u0301\u0323\u0301", []int{0, 6}},
	{"a mark at the beginning", "\u0301a", []int{0, 2, 3}},
	{"marks at the beginning", "\u0301\u0338ab", []int{0, 4, 5, 6}},
	{"a mark at the end", "ab\u0301", []int{0, 1, 4}},
	{"marks at both ends", "\u0301a\u0301", []int{0, 2, 5}},
	{"several marks behind one letter", "a\u0323\u0301\u0302b", []int{0, 7, 8}},
	{"marks behind each", "a\u0301b\u0327\u0338c", []int{0, 3, 8, 9}},
	{"a mark behind a control", "\x07\u0301\x07", []int{0, 3, 4}},

	{"a letter with its mark in one rune", "\u00e9a\u00e9", []int{0, 2, 3, 5}},
	{"with another mark behind", "\u00e9\u0323\u1e69\u0301a", []int{0, 4, 9, 10}},
	{"taken apart in two steps", "a\u1ea5\u212b", []int{0, 1, 4, 7}},
	// U+0344 is among neither the marks nor those that are taken apart here: a starter as all others.
	{"U+0344", "a\u0344b", []int{0, 1, 3, 4}},
	{"U+0344 alone", "\u0344", []int{0, 2}},
	{"U+0344 with a mark", "\u0344\u0301\u0344", []int{0, 4, 6}},
	{"neighbours of the marks", "a\u02ff\u0305\u0309\u030b\u030d\u0339b", []int{0, 1, 3, 5, 7, 9, 11, 13, 14}},

	{"ahead of the vowels", "a\u1160b", []int{0, 1, 4, 5}},
	{"the first vowel", "a\u1161b", []int{0, 4, 5}},
	{"the last tail", "a\u11c2b", []int{0, 4, 5}},
	{"behind the tails", "a\u11c3b", []int{0, 1, 4, 5}},
	{"between vowels and tails", "a\u1175\u1176\u11a6\u11a7\u11a8b", []int{0, 16, 17}},
	{"a vowel at the beginning", "\u1161\u1161a", []int{0, 6, 7}},
	{"a lead, a vowel, a tail", "\u1100\u1161\u11a8\u1100", []int{0, 9, 12}},
	{"syllables", "\uac00\uac01\ud7a3", []int{0, 3, 6, 9}},
	{"a tail behind a syllable", "\uac00\u11a8\uac00\u1161a", []int{0, 6, 12, 13}},
	{"marks and vowels", "a\u0301\u1161\u0301b", []int{0, 8, 9}},
	{"a vowel behind a mark at the beginning", "\u0301\u1161", []int{0, 5}},

	{"a byte that is none", "\xff", []int{0, 1}},
	{"each byte that is none", "\xff\x80\xc0a", []int{0, 1, 2, 3, 4}},
	{"a beginning of two bytes", "a\xe2\x82b", []int{0, 1, 3, 4}},
	{"a beginning of three bytes at the end", "a\xf0\x9f\x98", []int{0, 1, 4}},
	{"a beginning ahead of a whole one", "\xf0\x9f\x98\xf0\x9f\x98\x80", []int{0, 3, 7}},
	{"a beginning ahead of another", "\xe2\x82\xe2\xc3a", []int{0, 2, 3, 4, 5}},
	{"a form that is not the shortest", "\xe0\x80\xaf", []int{0, 1, 2, 3}},
	{"one of U+D800..U+DFFF", "\xed\xa0\x80", []int{0, 1, 2, 3}},
	{"a mark cut short", "a\xcc", []int{0, 1, 2}},
	{"a mark behind such a one", "\xe2\x82\u0301\xff\u0301", []int{0, 4, 7}},
	{"a vowel cut short", "a\xe1\x85b", []int{0, 1, 3, 4}},
	{"a BadRune that stands there", "\ufffda", []int{0, 3, 4}},

	{"two, three and four bytes", "\u00df\u4e00\U0001f600", []int{0, 2, 5, 9}},
	{"two, three and four bytes with marks", "\u00df\u0301\u4e00\u0301\U0001f600\u0301", []int{0, 4, 9, 15}},
	{"the last rune", "\U0010ffff\U0010ffff", []int{0, 4, 8}},
}

func TestCutsOfByHand(t *testing.T) {
	for _, p := range cutRows {
		t.Run(p.name, func(t *testing.T) {
			checkCuts(t, p.s, p.cuts...)
			if l := slowCuts(p.s); !slices.Equal(l, p.cuts) {
				t.Errorf("the tests' own way: %v, asked for %v", l, p.cuts)
			}
		})
	}
}

// slowCuts tries each byte: a rune begins there if both sides alone have as many runes as the whole text.
func slowCuts(s string) []int {
	all, _ := impl.DecodeText(s)
	var cuts []int
	for at := 0; at <= len(s); at++ {
		front, _ := impl.DecodeText(s[:at])
		back, _ := impl.DecodeText(s[at:])
		if at == 0 || at == len(s) || len(front)+len(back) == len(all) && slowOpens(back[0]) {
			cuts = append(cuts, at)
		}
	}
	return cuts
}

func slowOpens(r int) bool {
	first := slowNormalD([]int{r})[0]
	return slowClass[first] == 0 && !(first >= 0x1161 && first <= 0x11C2)
}

// Each good rune there is behind a letter: the only cut that may be missing is the one ahead of it.
func TestCutsOfAllRunes(t *testing.T) {
	for r := 0; r <= 0x10FFFF; r++ {
		if !impl.GoodRune(r) {
			continue
		}
		text := "a" + string(rune(r))
		want := []int{0, 1, len(text)}
		_, mark := slowClass[r]
		if mark || r >= 0x1161 && r <= 0x11C2 {
			want = []int{0, len(text)}
		}
		checkCuts(t, text, want...)
		if t.Failed() {
			return
		}
	}
}

func TestCutsOfAllShortTexts(t *testing.T) {
	forAllLists([]int{'a', 0xE9, 0x301, 0x338, 0x344, 0x1160, 0x1161, 0x11C2, 0x11C3, 0xAC01, 0x1F600}, 4, func(l []int) {
		checkCuts(t, plainUTF8(l), slowCuts(plainUTF8(l))...)
	})
	// Bytes, whole sequences or not: those of U+0301, U+1161 and U+1F600 are among them.
	forAllLists([]int{'a', 0x81, 0x85, 0xA1, 0xCC, 0xE1, 0xF0, 0x9F}, 5, func(l []int) {
		var b []byte
		for _, n := range l {
			b = append(b, byte(n))
		}
		checkCuts(t, string(b), slowCuts(string(b))...)
	})
	for _, b := range broken {
		checkCuts(t, b.text, slowCuts(b.text)...)
		checkCuts(t, "a\u0301"+b.text+"\u0301a", slowCuts("a\u0301"+b.text+"\u0301a")...)
	}
}

// A text is its stretches one behind the other: between two cuts nothing of it changes.
func TestTextsMayBeCutThere(t *testing.T) {
	for seed := uint32(1); seed <= 300; seed++ {
		s := plainUTF8(manyRunes(numbers(seed), append([]int{0x1161, 0x11C2, 0x1100}, someRunes...), 100))
		if seed%4 == 0 {
			s = strings.ReplaceAll(s, "\xcc", "\xe1")
		}
		cuts, ok := impl.CutsOf(s)
		if !ok || !slices.Equal(cuts, slowCuts(s)) {
			t.Fatalf("CutsOf(%+q) = %v %v", s, cuts, ok)
		}
		all, _ := impl.DecodeText(s)
		var apart []int
		for i := 1; i < len(cuts); i++ {
			piece, _ := impl.DecodeText(s[cuts[i-1]:cuts[i]])
			apart = append(apart, slowNormalD(piece)...)
		}
		if !slices.Equal(apart, slowNormalD(all)) {
			t.Fatalf("%+q is not its stretches at %v", s, cuts)
		}
	}
}
