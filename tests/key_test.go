package tests

import (
	"encoding/hex"
	"slices"
	"strings"
	"testing"

	"loop.example/g00158/impl"
)

func varying(first, second, third int) impl.Elem {
	return impl.Elem{First: first, Second: second, Third: third, Varies: true}
}

// fourthRows: the fourth weights and the elems as they count when shifted, put down by hand.
var fourthRows = []struct {
	name    string
	l       []impl.Elem
	fourths []int
	counts  []impl.Elem
}{
	{"none", nil, nil, nil},
	{"a letter", []impl.Elem{elem(4000, 32, 2)}, []int{65535}, []impl.Elem{elem(4000, 32, 2)}},
	{"a mark", []impl.Elem{elem(0, 46, 2)}, []int{65535}, []impl.Elem{elem(0, 46, 2)}},
	{"a second weight alone", []impl.Elem{elem(0, 1, 0)}, []int{65535}, []impl.Elem{elem(0, 1, 0)}},
	{"a third weight alone", []impl.Elem{elem(0, 0, 1)}, []int{65535}, []impl.Elem{elem(0, 0, 1)}},
	{"a first weight alone", []impl.Elem{elem(1, 0, 0)}, []int{65535}, []impl.Elem{elem(1, 0, 0)}},
	{"nothing", []impl.Elem{{}}, []int{0}, []impl.Elem{{}}},
	{"nothing and a letter", []impl.Elem{{}, elem(4000, 32, 2), {}}, []int{0, 65535, 0}, []impl.Elem{{}, elem(4000, 32, 2), {}}},
	{"a mark behind nothing", []impl.Elem{{}, elem(0, 46, 2)}, []int{0, 65535}, []impl.Elem{{}, elem(0, 46, 2)}},
	{"one that varies", []impl.Elem{varying(3, 32, 2)}, []int{3}, []impl.Elem{{}}},
	{"each that varies", []impl.Elem{varying(1, 32, 2), varying(9, 32, 2), varying(65535, 0, 0)}, []int{1, 9, 65535}, []impl.Elem{{}, {}, {}}},
	{"a mark behind one that varies", []impl.Elem{varying(3, 32, 2), elem(0, 46, 2)}, []int{3, 0}, []impl.Elem{{}, {}}},
	{"several marks behind it", []impl.Elem{varying(3, 32, 2), elem(0, 46, 2), elem(0, 47, 2), elem(0, 40, 3)}, []int{3, 0, 0, 0}, []impl.Elem{{}, {}, {}, {}}},
	{"marks with nothing between", []impl.Elem{varying(3, 32, 2), elem(0, 46, 2), {}, elem(0, 47, 2)}, []int{3, 0, 0, 0}, []impl.Elem{{}, {}, {}, {}}},
	{"nothing behind it, then a mark", []impl.Elem{varying(3, 32, 2), {}, elem(0, 47, 2)}, []int{3, 0, 0}, []impl.Elem{{}, {}, {}}},
	{"a second weight alone behind it", []impl.Elem{varying(3, 32, 2), elem(0, 1, 0)}, []int{3, 0}, []impl.Elem{{}, {}}},
	{"a third weight alone behind it", []impl.Elem{varying(3, 32, 2), elem(0, 0, 1)}, []int{3, 0}, []impl.Elem{{}, {}}},
	{"a letter behind it", []impl.Elem{varying(3, 32, 2), elem(4000, 32, 2)}, []int{3, 65535}, []impl.Elem{{}, elem(4000, 32, 2)}},
	{"a first weight alone behind it", []impl.Elem{varying(3, 32, 2), elem(32768, 0, 0)}, []int{3, 65535}, []impl.Elem{{}, elem(32768, 0, 0)}},
	{"a mark behind a letter behind it", []impl.Elem{varying(3, 32, 2), elem(4000, 32, 2), elem(0, 46, 2)}, []int{3, 65535, 65535}, []impl.Elem{{}, elem(4000, 32, 2), elem(0, 46, 2)}},
	{"marks there and again behind a letter", []impl.Elem{varying(3, 32, 2), elem(0, 46, 2), elem(4000, 32, 2), elem(0, 46, 2), elem(0, 47, 2)}, []int{3, 0, 65535, 65535, 65535}, []impl.Elem{{}, {}, elem(4000, 32, 2), elem(0, 46, 2), elem(0, 47, 2)}},
	{"marks behind each that varies", []impl.Elem{varying(3, 32, 2), elem(0, 46, 2), varying(4, 32, 2), elem(0, 47, 2)}, []int{3, 0, 4, 0}, []impl.Elem{{}, {}, {}, {}}},
	{"a mark ahead of one that varies", []impl.Elem{elem(0, 46, 2), varying(3, 32, 2), elem(0, 46, 2)}, []int{65535, 3, 0}, []impl.Elem{elem(0, 46, 2), {}, {}}},
	{"a letter, its mark, one that varies, its mark", []impl.Elem{elem(4000, 32, 2), elem(0, 46, 2), varying(1, 32, 2), elem(0, 46, 2)}, []int{65535, 65535, 1, 0}, []impl.Elem{elem(4000, 32, 2), elem(0, 46, 2), {}, {}}},
	{"one that varies with no first weight", []impl.Elem{varying(0, 32, 2), elem(0, 46, 2), elem(4000, 32, 2)}, []int{0, 0, 65535}, []impl.Elem{{}, {}, elem(4000, 32, 2)}},
	{"one that varies with no weights", []impl.Elem{varying(0, 0, 0), elem(0, 46, 2)}, []int{0, 0}, []impl.Elem{{}, {}}},
	{"one that varies with no first weight behind another", []impl.Elem{varying(5, 32, 2), varying(0, 32, 2), elem(0, 46, 2)}, []int{5, 0, 0}, []impl.Elem{{}, {}, {}}},
}

// checkFourth fails unless the fourth weights are these, and, not shifted, all as it was.
func checkFourth(t *testing.T, l []impl.Elem, fourths []int, counts []impl.Elem) {
	t.Helper()
	if f, c, ok := impl.FourthOf(l, true); !ok || !slices.Equal(f, fourths) || !slices.Equal(c, counts) {
		t.Errorf("FourthOf(%v, true) = %v %v %v, asked for %v %v", l, f, c, ok, fourths, counts)
	}
	if f, c, ok := impl.FourthOf(l, false); !ok || !slices.Equal(f, times(len(l), 65535)) || !slices.Equal(c, l) {
		t.Errorf("FourthOf(%v, false) = %v %v %v", l, f, c, ok)
	}
}

// slowFourth looks back from each elem without a first weight to what is ahead of all such.
func slowFourth(l []impl.Elem) ([]int, []impl.Elem) {
	fourths, counts := make([]int, len(l)), make([]impl.Elem, len(l))
	for at, e := range l {
		back := at
		for back > 0 && l[back].First == 0 && !l[back].Varies {
			back--
		}
		switch {
		case e.Varies:
			fourths[at] = e.First
		case l[back].Varies && e.First == 0:
		default:
			counts[at] = e
			if e.First != 0 || e.Second != 0 || e.Third != 0 {
				fourths[at] = 65535
			}
		}
	}
	return fourths, counts
}

func TestFourthOfByHand(t *testing.T) {
	for _, p := range fourthRows {
		t.Run(p.name, func(t *testing.T) {
			checkFourth(t, p.l, p.fourths, p.counts)
			if f, c := slowFourth(p.l); !slices.Equal(f, p.fourths) || !slices.Equal(c, p.counts) {
				t.Errorf("the tests' own way: %v %v", f, c)
			}
		})
	}
}

func TestFourthOfAllShortLists(t *testing.T) {
	kinds := []impl.Elem{{}, elem(4000, 32, 2), elem(32768, 0, 0), elem(0, 46, 2), elem(0, 0, 7), varying(3, 32, 2), varying(0, 0, 1)}
	places := []int{0, 1, 2, 3, 4, 5, 6}
	forAllLists(places, 5, func(p []int) {
		var l []impl.Elem
		for _, at := range p {
			l = append(l, kinds[at])
		}
		fourths, counts := slowFourth(l)
		checkFourth(t, l, fourths, counts)
	})
}

// key: bytes told by weights to the base 16; a stroke is what stands between two levels.
func key(t *testing.T, told string) string {
	t.Helper()
	b, err := hex.DecodeString(strings.ReplaceAll(strings.ReplaceAll(told, "|", "0000"), " ", ""))
	if err != nil {
		t.Fatal(err)
	}
	return string(b)
}

func checkKey(t *testing.T, r impl.Rules, text, want string) {
	t.Helper()
	if k, ok := impl.KeyOf(r, text); !ok || k != want {
		t.Errorf("KeyOf(%v, %+q) = %x %v, asked for %x", r, text, k, ok, want)
	}
}

var greatRules = joining(put(65535, 999, 99, 'g'), put(256, 256, 3, 'h'), put(65280, 512, 2, 'i'), put(1, 32, 2, 'j'), put(255, 255, 99, 'k', 'k'))

// keyRows: the four levels of a key, put down by hand.
var keyRows = []struct {
	name   string
	r      impl.Rules
	text   string
	levels [4]string
}{
	{"the empty text", impl.Rules{}, "", [4]string{"", "", "", ""}},
	{"the empty text, shifted", impl.Rules{Shifted: true}, "", [4]string{"", "", "", ""}},
	{"no elems", impl.Rules{}, "\x00\x07\x1f\x7f", [4]string{"", "", "", ""}},
	{"a small and a capital letter", impl.Rules{}, "aB", [4]string{"0FA0 1068", "0020 0020", "0002 0008", "FFFF FFFF"}},
	{"digits", impl.Rules{Shifted: true}, "09", [4]string{"07D0 0B54", "0020 0020", "0002 0002", "FFFF FFFF"}},
	{"a mark's first weight is 0", impl.Rules{}, "a\u0301b", [4]string{"0FA0 1068", "0020 002E 0020", "0002 0002 0002", "FFFF FFFF FFFF"}},
	{"a mark alone", impl.Rules{}, "\u030c", [4]string{"", "0036", "0002", "FFFF"}},
	{"a mark alone, shifted", impl.Rules{Shifted: true}, "\u030c", [4]string{"", "0036", "0002", "FFFF"}},
	{"two elems, one without a second weight", impl.Rules{}, "\u00dfa", [4]string{"EA60 80DF 0FA0", "0020 0020", "0002 0002", "FFFF FFFF FFFF"}},
	{"two elems, shifted", impl.Rules{Shifted: true}, "-\u00df\u0301", [4]string{"EA60 80DF", "0020 002E", "0002 0002", "0003 FFFF FFFF FFFF"}},
	{"the last rune", impl.Rules{}, "\U0010ffff", [4]string{"EA81 FFFF", "0020", "0002", "FFFF FFFF"}},
	{"bytes that are no UTF-8", impl.Rules{}, "\xffa\xe2\x82", [4]string{"EA61 FFFD 0FA0 EA61 FFFD", "0020 0020 0020", "0002 0002 0002", "FFFF FFFF FFFF FFFF FFFF"}},
	{"one that varies", impl.Rules{}, "a-B\u0301", [4]string{"0FA0 0003 1068", "0020 0020 0020 002E", "0002 0002 0008 0002", "FFFF FFFF FFFF FFFF"}},
	{"one that varies, shifted", impl.Rules{Shifted: true}, "a-B\u0301", [4]string{"0FA0 1068", "0020 0020 002E", "0002 0008 0002", "FFFF 0003 FFFF FFFF"}},
	{"a mark behind one that varies", impl.Rules{}, "- \u0301a", [4]string{"0003 0001 0FA0", "0020 0020 002E 0020", "0002 0002 0002 0002", "FFFF FFFF FFFF FFFF"}},
	{"a mark behind one that varies, shifted", impl.Rules{Shifted: true}, "- \u0301a", [4]string{"0FA0", "0020", "0002", "0003 0001 FFFF"}},
	{"all that vary, shifted", impl.Rules{Shifted: true}, " _-,;:!?.", [4]string{"", "", "", "0001 0002 0003 0004 0005 0006 0007 0008 0009"}},
	{"all that vary", impl.Rules{}, " _-,", [4]string{"0001 0002 0003 0004", "0020 0020 0020 0020", "0002 0002 0002 0002", "FFFF FFFF FFFF FFFF"}},
	{"marks behind, shifted, a control between", impl.Rules{Shifted: true}, ".\u0301\x07\u0302a\u0303", [4]string{"0FA0", "0020 0030", "0002 0002", "0009 FFFF FFFF"}},
	{"weights above 255", greatRules, "ghij", [4]string{"FFFF 0100 FF00 0001", "03E7 0100 0200 0020", "0063 0003 0002 0002", "FFFF FFFF FFFF FFFF"}},
	{"a joined Entry", greatRules, "kkk", [4]string{"00FF 1770", "00FF 0020", "0063 0002", "FFFF FFFF"}},
	{"an Entry in the place of one that varies", impl.Rules{Shifted: true, Entries: []impl.Entry{put(5, 40, 4, '-')}}, "--.", [4]string{"0005 0005", "0028 0028", "0004 0004", "FFFF FFFF 0009"}},
	{"a mark behind such an Entry", impl.Rules{Shifted: true, Entries: []impl.Entry{put(5, 40, 4, '-')}}, ".\u0301-\u0301", [4]string{"0005", "0028 002E", "0004 0002", "0009 FFFF FFFF"}},
	{"an Entry of a mark behind one that varies", impl.Rules{Shifted: true, Entries: []impl.Entry{put(7, 41, 3, 0x301)}}, "-\u0301\u0302", [4]string{"0007", "0029 002F", "0003 0002", "0003 FFFF FFFF"}},
	{"a mark from behind another", joining(put(4001, 33, 3, 'a', 0x301)), "a\u0323\u0301", [4]string{"0FA1", "0021 002B", "0003 0002", "FFFF FFFF"}},
	{"the same put together", joining(put(4001, 33, 3, 'a', 0x301)), "\u00e1\u0323", [4]string{"0FA1", "0021 002B", "0003 0002", "FFFF FFFF"}},
}

func TestKeyOfByHand(t *testing.T) {
	for _, p := range keyRows {
		t.Run(p.name, func(t *testing.T) {
			for n := 1; n <= 4; n++ {
				r := p.r
				r.Levels = n
				checkKey(t, r, p.text, key(t, strings.Join(p.levels[:n], "|")))
				checkFirsts(t, r, p.text, weightsIn(key(t, p.levels[0])))
			}
		})
	}
}

func weightsIn(k string) []int {
	var l []int
	for ; k != ""; k = k[2:] {
		l = append(l, int(k[0])*256+int(k[1]))
	}
	return l
}

func checkFirsts(t *testing.T, r impl.Rules, text string, want []int) {
	t.Helper()
	if l, ok := impl.FirstsOf(r, text); !ok || !slices.Equal(l, want) {
		t.Errorf("FirstsOf(%v, %+q) = %v %v, asked for %v", r, text, l, ok, want)
	}
}

// slowLevels: of each level its weights that are not 0.
func slowLevels(r impl.Rules, runes []int) [4][]int {
	l := slowElemsIn(r, runes)
	fourths := times(len(l), 65535)
	if r.Shifted {
		fourths, l = slowFourth(l)
	}
	var levels [4][]int
	for at, e := range l {
		for n, w := range []int{e.First, e.Second, e.Third, fourths[at]} {
			if w != 0 {
				levels[n] = append(levels[n], w)
			}
		}
	}
	return levels
}

func slowKey(r impl.Rules, runes []int) string {
	levels := slowLevels(r, runes)
	var k []byte
	for n := range r.Levels {
		for _, w := range levels[n] {
			k = append(k, byte(w/256), byte(w%256))
		}
		k = append(k, 0, 0)
	}
	return string(k[:len(k)-2])
}

// spellings: the runes as they are, taken apart, put together, and marks of unlike classes told the other way
// round; without those whose texts are too long.
func spellings(l []int) lists {
	apart := slowNormalD(l)
	turned := slices.Clone(apart)
	for i := 1; i < len(turned); i++ {
		a, b := slowClass[turned[i-1]], slowClass[turned[i]]
		if a > 0 && b > 0 && a < b {
			turned[i-1], turned[i] = turned[i], turned[i-1]
		}
	}
	return slices.DeleteFunc(lists{l, apart, slowNormalC(l), turned}, func(s []int) bool { return len(plainUTF8(s)) > impl.MaxBytes })
}

// checkSpellings fails unless the text has this key, whichever way it is spelled.
func checkSpellings(t *testing.T, r impl.Rules, l []int) {
	t.Helper()
	want, firsts := slowKey(r, l), slowLevels(r, l)[0]
	for _, s := range spellings(l) {
		text := plainUTF8(s)
		checkKey(t, r, text, want)
		checkFirsts(t, r, text, firsts)
		checkCompare(t, r, plainUTF8(l), text, 0)
		checkBegins(t, r, plainUTF8(l), text, true)
		checkBegins(t, r, text, plainUTF8(l), true)
	}
}

func checkCompare(t *testing.T, r impl.Rules, a, b string, want int) {
	t.Helper()
	if n, ok := impl.CompareTexts(r, a, b); n != want || !ok {
		t.Errorf("CompareTexts(%v, %+q, %+q) = %v %v, asked for %v", r, a, b, n, ok, want)
	}
}

func checkBegins(t *testing.T, r impl.Rules, s, front string, want bool) {
	t.Helper()
	if is, ok := impl.BeginsWith(r, s, front); is != want || !ok {
		t.Errorf("BeginsWith(%v, %+q, %+q) = %v %v, asked for %v", r, s, front, is, ok, want)
	}
}

func TestOneKeyHoweverItIsSpelled(t *testing.T) {
	for _, r := range []impl.Rules{
		{Levels: 3},
		{Levels: 4, Shifted: true},
		{Levels: 4, Entries: []impl.Entry{put(4001, 33, 3, 's', 0x307), put(4002, 34, 4, 'A', 0x302), put(9000, 999, 99, 'A', 0x302, 0x301)}},
	} {
		forAllLists([]int{'A', 's', '-', 0x301, 0x302, 0x307, 0x323, 0xC2, 0x1EA4, 0x1E69, 0x212B, 0xAC01}, 3, func(l []int) {
			checkSpellings(t, r, l)
		})
	}
	for a := range slowApart {
		checkSpellings(t, impl.PlainRules(), []int{'x', a, 0x338})
	}
}

func TestKeysOfManyTexts(t *testing.T) {
	for seed := uint32(1); seed <= 500; seed++ {
		next := numbers(seed)
		r := manyRules(seed, someRunes)
		for range 2 {
			checkSpellings(t, r, manyRunes(next, someRunes, 60))
		}
		if t.Failed() {
			return
		}
	}
}

func rulesOf(t *testing.T, text string) impl.Rules {
	t.Helper()
	r, code := impl.ReadRules(text)
	if code != impl.RuleOk {
		t.Fatalf("ReadRules(%q): %d", text, code)
	}
	return r
}

// orderRows: texts in rising order, those of one line being the same.
var orderRows = []struct {
	rules string
	lines [][]string
}{
	{"", [][]string{
		{"", "\x00", "\x7f\x1f"}, {"\u0301"}, {"\u0302"}, {" "}, {" a"}, {"_"}, {"-"}, {"."}, {"0"}, {"00"}, {"1"}, {"9"}, {"a", "a\x07"}, {"A"},
		{"\u00e1", "a\u0301"}, {"\u00c1", "A\u0301"}, {"\u1ea5", "\u00e2\u0301", "a\u0302\u0301"}, {"a b"}, {"a-b"}, {"aa"}, {"ab"}, {"aB"}, {"Ab"}, {"AB"}, {"\u00e1b"}, {"abc"},
		{"b"}, {"cote\u0301", "cot\u00e9"}, {"co\u0302te"}, {"z"}, {"zz"}, {"\""}, {"\u00df"}, {"\u4e00"}, {"\ufffd", "\xff", "\xe2\x82"}, {"\U0010ffff"},
	}},
	{"[levels 1]", [][]string{{"", "\u0301", "\x07"}, {" ", " \u0301"}, {"a", "A", "\u00e1", "\u00c1\u0323"}, {"a-b", "A-B", "\u00e1-b\u0323"}, {"ab", "AB", "\u00e1b"}}},
	{"[levels 2]", [][]string{{""}, {"\u0301"}, {"a", "A"}, {"\u00e1", "\u00c1"}, {"ab", "aB", "AB"}, {"ab\u0301"}, {"\u00e1b", "\u00c1B"}}},
	{"[levels 4]", [][]string{{"", "\x01"}, {"a"}, {"A"}, {"a b"}, {"a-b"}, {"ab"}}},
	{"[shifted]", [][]string{{"", " ", "-\u0301"}, {"\u0301"}, {"a", " a", "a-", "a-\u0301"}, {"\u00e1", "a\u0301-"}, {"ab", "a b", "a-b", "a-\u0301b", ".ab."}, {"aB", "a-B"}}},
	{"[shifted] [levels 4]", [][]string{{""}, {" "}, {"-", "-\u0301"}, {"\u0301"}, {" a"}, {"-a"}, {"a"}, {"a "}, {"a.", "a.\u0301"}, {"a b"}, {"a-b"}, {"ab"}, {"ab "}, {"a B"}, {"aB"}}},
	{"& c < ch <<< CH & z < \u00e5 <<< \u00c5 < \u00e4", [][]string{{"c"}, {"cg"}, {"cz"}, {"ch"}, {"CH"}, {"cha"}, {"chz"}, {"d"}, {"z"}, {"zz"}, {"\u00e5", "a\u030a"}, {"\u00c5", "\u212b"}, {"\u00e5a", "a\u030aa"}, {"\u00e4", "a\u0308"}}},
	{"& o << \u00f6 & h < c", [][]string{{"b"}, {"d"}, {"h"}, {"hz"}, {"c"}, {"i"}, {"of"}, {"\u00f6f"}, {"og"}}},
}

func TestCompareTextsBothWaysRound(t *testing.T) {
	for _, p := range orderRows {
		r := rulesOf(t, p.rules)
		for i, line := range p.lines {
			for j, other := range p.lines {
				for _, a := range line {
					for _, b := range other {
						checkCompare(t, r, a, b, slices.Index([]bool{i < j, i == j, i > j}, true)-1)
					}
				}
			}
		}
	}
}

func TestBeginsWithByHand(t *testing.T) {
	for _, p := range []struct {
		rules, s, front string
		want            bool
	}{
		{"", "", "", true},
		{"", "a", "", true},
		{"", "", "a", false},
		{"", "abc", "abc", true},
		{"", "abc", "ab", true},
		{"", "abc", "a", true},
		{"", "ab", "abc", false},
		{"", "abc", "b", false},
		{"", "abc", "ac", false},
		{"", "abc", "abd", false},
		{"", "abc", "abcd", false},
		{"", "abc", "AB", true},
		{"", "ABC", "a\u0301b", true},
		{"", "\u00e1b", "a", true},
		{"", "a", "\u0301", true},
		{"", "", "\u0301", true},
		{"", "\u0301", "", true},
		{"", "\u0301", "\x07", true},
		{"", "a-b", "ab", false},
		{"", "a-b", "a-", true},
		{"", "ab", "a-b", false},
		{"[shifted]", "a-b", "ab", true},
		{"[shifted]", "ab", "a-b", true},
		{"[shifted]", "ab", "-", true},
		{"[shifted]", "-", "ab", false},
		{"[levels 1]", "\u00c1B", "ab", true},
		{"[levels 4]", "\u00c1B", "ab", true},
		{"& c < ch", "ch", "c", false},
		{"& c < ch", "chc", "ch", true},
		{"& c < ch", "cch", "c", true},
		{"& c < ch", "cCh", "cC", true},
		{"& c < ch", "cz", "c", true},
		{"& c << ch", "ch", "c", true},
		{"& c <<< ch", "ch", "C", true},
		{"& a << b", "bx", "ax", true},
		{"", "\u00df", "\u00df", true},
		{"", "\u00df", "\u00e0", false},
		// Both begin with the same high weight; the low one tells them apart.
		{"", "\"", "#", false},
		{"", "\u00dfx", "\u00df", true},
		{"", "\xff", "\ufffd", true},
		{"", "\xe2\x82a", "\xff", true},
		{"", "\uac01", "\u1100\u1161", true},
		{"", "\uac01", "\uac00", true},
		{"", "\uac00", "\uac01", false},
	} {
		r := rulesOf(t, p.rules)
		checkBegins(t, r, p.s, p.front, p.want)
	}
}

func TestBeginsWithOfManyTexts(t *testing.T) {
	for seed := uint32(1); seed <= 400; seed++ {
		next := numbers(seed)
		r := manyRules(seed, someRunes)
		a := manyRunes(next, someRunes, 12)
		b := a[:next(len(a)+1)]
		if seed%3 == 0 {
			b = manyRunes(next, someRunes, 2)
		}
		whole, front := slowLevels(r, a)[0], slowLevels(r, b)[0]
		want := len(front) <= len(whole) && slices.Equal(whole[:len(front)], front)
		checkBegins(t, r, plainUTF8(a), plainUTF8(b), want)
		want = len(whole) <= len(front) && slices.Equal(front[:len(whole)], whole)
		checkBegins(t, r, plainUTF8(b), plainUTF8(a), want)
		checkBegins(t, r, plainUTF8(a), plainUTF8(a), true)
		checkBegins(t, r, plainUTF8(a), "", true)
	}
}

func checkSorted(t *testing.T, r impl.Rules, l, want []string) {
	t.Helper()
	if got, ok := impl.SortTexts(r, l); !ok || !slices.Equal(got, want) {
		t.Errorf("SortTexts(%v, %+q) = %+q %v, asked for %+q", r, l, got, ok, want)
	}
}

func TestSortTextsByHand(t *testing.T) {
	for _, p := range orderRows {
		r := rulesOf(t, p.rules)
		var rising, turned []string
		for _, line := range p.lines {
			rising = append(rising, line...)
			turned = append(slices.Clone(line), turned...)
		}
		checkSorted(t, r, rising, rising)
		checkSorted(t, r, turned, rising)
	}
	for _, p := range []struct {
		rules   string
		l, want []string
	}{
		{"", nil, nil},
		{"", []string{"b"}, []string{"b"}},
		{"", []string{"b", "a"}, []string{"a", "b"}},
		{"", []string{"", "a", ""}, []string{"", "", "a"}},
		{"", []string{"b", "b", "a", "a"}, []string{"a", "a", "b", "b"}},
		{"[levels 1]", []string{"b", "B", "a", "\u00e1", "A"}, []string{"a", "\u00e1", "A", "b", "B"}},
		{"[levels 1]", []string{"B", "b", "A", "\u00e1", "a"}, []string{"A", "\u00e1", "a", "B", "b"}},
		{"[shifted]", []string{"b", "a-b", "ab", "a b", "a.b", "a"}, []string{"a", "a-b", "ab", "a b", "a.b", "b"}},
		{"", []string{"x", "a\u0301", "\u00e1", "x\x07", "\u00e1\x00", "a\u0301"}, []string{"a\u0301", "\u00e1", "\u00e1\x00", "a\u0301", "x", "x\x07"}},
		{"", []string{"\xff", "z", "\ufffd", "\xe2\x82", "a"}, []string{"a", "z", "\xff", "\ufffd", "\xe2\x82"}},
	} {
		checkSorted(t, rulesOf(t, p.rules), p.l, p.want)
	}
}

// Sorted is sorted, and nothing is lost: any list against the tests' own keys.
func TestSortTextsOfManyLists(t *testing.T) {
	for seed := uint32(1); seed <= 150; seed++ {
		next := numbers(seed)
		runes := someRunes
		if seed%2 == 0 {
			runes = []int{'a', 'A', 0xE1, '-', 0x301, 7}
		}
		r := manyRules(seed, runes)
		n := next(61)
		if seed%5 == 0 {
			n = 60
		}
		keys := map[string]string{}
		var l []string
		for range n {
			text := manyRunes(next, runes, 5)
			keys[plainUTF8(text)] = slowKey(r, text)
			l = append(l, plainUTF8(text))
		}
		want := slices.Clone(l)
		slices.SortStableFunc(want, func(a, b string) int { return strings.Compare(keys[a], keys[b]) })
		checkSorted(t, r, l, want)
		got, _ := impl.SortTexts(r, l)
		for i := 1; i < len(got); i++ {
			if order, ok := impl.CompareTexts(r, got[i-1], got[i]); !ok || order > 0 {
				t.Errorf("%+q stands ahead of %+q", got[i-1], got[i])
			}
		}
		slices.Sort(got)
		slices.Sort(l)
		if !slices.Equal(got, l) {
			t.Errorf("of %+q are sorted %+q", l, got)
		}
		if t.Failed() {
			return
		}
	}
}
