package tests

import (
	"math"
	"slices"
	"testing"

	"loop.example/g00158/impl"
)

// matchRows: spans whose ends are cuts, From below To.
var matchRows = []struct {
	name, rules, s string
	from, to       int
	told           string
	want           bool
}{
	{"all of it", "", "abc", 0, 3, "abc", true},
	{"a part of it", "", "abc", 1, 2, "b", true},
	{"another", "", "abc", 1, 2, "c", false},
	{"too long", "", "abc", 0, 2, "a", false},
	{"too short", "", "abc", 0, 1, "ab", false},
	{"its end alone", "", "abc", 0, 3, "bc", false},
	{"not where it is, though it is there", "", "abc", 0, 1, "b", false},
	{"a capital", "", "aBc", 1, 2, "b", true},
	{"with a mark", "", "ae\u0301c", 1, 4, "e", true},
	{"by another spelling", "", "ae\u0301c", 1, 4, "\u00e9", true},
	{"another mark", "", "ae\u0301c", 1, 4, "e\u0323", true},
	{"with controls", "", "\x07a\x07b\x07", 0, 5, "ab", true},
	{"with controls in what is told", "", "ab", 0, 2, "\x07a\x07b\x07", true},
	{"a digit", "", "7", 0, 1, "7", true},
	{"one that varies", "", "a-b", 1, 2, "-", true},
	{"others that vary", "", "a-b", 1, 2, ",", false},
	{"runes of two weights", "", "\u4e00\u4e01", 0, 3, "\u4e00", true},
	{"runes of two weights, the second unlike", "", "\u4e00\u4e01", 0, 3, "\u4e01", false},
	{"bytes that are no UTF-8", "", "a\xe2\x82b", 1, 3, "\xff", true},

	{"a stretch of controls", "", "a\x07b", 1, 2, "\x07", false},
	{"a stretch of controls, the empty text", "", "a\x07b", 1, 2, "", false},
	{"a stretch of marks", "", "\u0301a", 0, 2, "\u0301", false},
	{"a stretch of marks, a letter", "", "\u0301a", 0, 2, "a", false},
	{"a stretch that varies, shifted", "[shifted]", "a-b", 1, 2, "-", false},
	{"a stretch that varies, shifted, the empty text", "[shifted]", "a-b", 1, 2, "", false},
	{"the empty text", "", "a", 0, 1, "", false},
	{"a mark", "", "a", 0, 1, "\u0301", false},
	{"a control", "", "a", 0, 1, "\x00", false},
	{"one that varies, shifted", "[shifted]", "a", 0, 1, "-", false},
	{"shifted", "[shifted]", "a-b.", 0, 4, "a b", true},

	{"joined", "& c < ch", "ach", 1, 3, "ch", true},
	{"joined, not as two", "& c < ch", "ach", 1, 3, "c\x07h", false},
	{"not joined with what stands behind", "& c < ch", "ch", 0, 1, "c", true},
	{"not joined with what stands ahead", "& c < ch", "ch", 1, 2, "h", true},
	{"not joined with what stands behind, a part", "& c < ch", "ch", 0, 1, "ch", false},
	{"joined by what is left", "& c < ch & a < ac", "ach", 1, 3, "ch", true},
	{"joined otherwise in the whole", "& c < ch & a < ac", "ach", 0, 3, "ch", false},
	{"joined as another letter", "& q << ab", "ab", 0, 2, "q", true},
	{"its mark from behind another", "& q << a\u0301", "a\u0323\u0301", 0, 5, "q", true},
	{"a mark that another has in the whole", "& q << \u0301a", "\u0301a", 2, 3, "a", true},
	{"behind one that varies, shifted", "[shifted]", "-\u0301a", 3, 4, "a", true},
}

func TestMatchSpanByHand(t *testing.T) {
	for _, p := range matchRows {
		t.Run(p.name, func(t *testing.T) {
			r := rulesOf(t, p.rules)
			for r.Levels = 1; r.Levels <= 4; r.Levels++ {
				checkMatch(t, r, p.s, p.from, p.to, p.told, p.want, true)
			}
		})
	}
}

// The stretch would match: what it is told by are no cuts.
func TestMatchSpanAtEndsThatAreNoCuts(t *testing.T) {
	r := impl.PlainRules()
	for _, p := range []struct {
		name     string
		s        string
		from, to int
		told     string
	}{
		{"From inside a rune", "\u4e00a", 1, 4, "\xff\xffa"},
		{"To inside a rune", "a\u4e00", 0, 2, "a\xff"},
		{"both inside a rune", "\U0001f600", 1, 3, "\xff\xff"},
		{"From inside a beginning", "\xf0\x9f\x98a", 1, 4, "\xff\xffa"},
		{"To inside a beginning", "a\xf0\x9f\x98", 0, 3, "a\xff"},
		{"From ahead of a mark", "a\u0301b", 1, 4, "b"},
		{"To ahead of a mark", "ba\u0301", 0, 2, "ba"},
		{"both ahead of marks", "a\u0301b\u0301", 1, 4, "b"},
		{"To between two marks", "a\u0323\u0301", 0, 3, "a"},
		{"From ahead of a vowel", "\u1100\u1161", 3, 6, "\u1161"},
		{"To ahead of a vowel", "\u1100\u1161", 0, 3, "\u1100"},
		{"From ahead of a tail", "\uac00\u11a8", 3, 6, "\u11a8"},
		{"From negative", "ab", -1, 2, "ab"},
		{"To negative", "ab", 0, -1, "a"},
		{"both negative", "ab", -2, -1, "a"},
		{"To behind the end", "ab", 0, 3, "ab"},
		{"From behind the end", "ab", 3, 2, "ab"},
		{"both behind the end", "ab", 3, 4, "ab"},
		{"From least, To greatest", "ab", math.MinInt, math.MaxInt, "ab"},
		{"From greatest, To least", "ab", math.MaxInt, math.MinInt, "ab"},
		{"To greatest", "ab", 0, math.MaxInt, "ab"},
		{"From least", "ab", math.MinInt, 2, "ab"},
		{"both greatest", "ab", math.MaxInt, math.MaxInt, "ab"},
		{"both least", "ab", math.MinInt, math.MinInt, "ab"},
		{"cut down to 32 bits they are cuts", "ab", 1 << 32, 1<<32 + 2, "ab"},
		{"cut down to 8 bits they are cuts", "ab", 256, 258, "ab"},
		{"both the same and no cut", "a\u0301", 1, 1, "a"},
		{"From above To, both no cuts", "a\u0301\u0301", 3, 1, "a"},
		{"From above To, From no cut", "a\u0301b", 1, 0, "a"},
		{"From above To, To no cut", "a\u0301b", 3, 1, "b"},
		{"in the empty text", "", 0, 1, ""},
		{"ahead of the empty text", "", -1, 0, ""},
	} {
		t.Run(p.name, func(t *testing.T) {
			for _, told := range []string{p.told, "", "a", "\u0301"} {
				checkMatch(t, r, p.s, p.from, p.to, told, false, true)
				checkMatch(t, impl.Rules{Levels: 1, Shifted: true}, p.s, p.from, p.to, told, false, true)
			}
		})
	}
}

// Two cuts of which the first is not below the second are no stretch: the zero answer.
func TestMatchSpanOfCutsThatAreNotInOrder(t *testing.T) {
	r := impl.PlainRules()
	for _, s := range []string{"", "a", "abc", "a\u0301b", "\u4e00\xff\uac01", "\x07"} {
		cuts := slowCuts(s)
		for i, to := range cuts {
			for _, from := range cuts[i:] {
				for _, told := range []string{"", "a", s, "\x07"} {
					checkMatch(t, r, s, from, to, told, false, false)
				}
			}
		}
	}
}

// Each span of all short texts, cuts or not.
func TestMatchSpanOfAllShortTexts(t *testing.T) {
	for _, p := range []struct {
		r     impl.Rules
		runes []int
		n     int
	}{
		{impl.PlainRules(), []int{'a', 'b', 0x301, 7}, 4},
		{impl.Rules{Levels: 2, Shifted: true}, []int{'a', '-', 0xE1, 0x1161}, 4},
		{joining(put(4200, 32, 3, 'a', 'a'), put(4000, 32, 3, 'a', 0x301), put(4000, 33, 3, 'b', 'a', 'b')), []int{'a', 'b', 0x301, 0x323}, 4},
	} {
		forAllLists(p.runes, p.n, func(l []int) {
			s := plainUTF8(l)
			cuts := slowCuts(s)
			firsts := slowFirsts(p.r, s, cuts)
			for from := -1; from <= len(s)+1; from++ {
				for to := -1; to <= len(s)+1; to++ {
					whole := slices.Contains(cuts, from) && slices.Contains(cuts, to)
					own := firsts[[2]int{from, to}]
					for _, told := range []string{"a", "ab", ""} {
						runes, _ := impl.DecodeText(told)
						want := len(own) > 0 && slices.Equal(own, slowLevels(p.r, runes)[0])
						checkMatch(t, p.r, s, from, to, told, want, !whole || from < to)
					}
				}
			}
		})
	}
}
