package tests

import (
	"slices"
	"strings"
	"testing"

	"loop.example/g00158/impl"
)

// spans: From and To of each, for short.
type spans = [][2]int

func shortSpans(l []impl.Span) spans {
	var short spans
	for _, p := range l {
		short = append(short, [2]int{p.From, p.To})
	}
	return short
}

func checkMatch(t *testing.T, r impl.Rules, s string, from, to int, told string, want, good bool) {
	t.Helper()
	if is, ok := impl.MatchSpan(r, s, impl.Span{From: from, To: to}, told); is != want || ok != good {
		t.Errorf("MatchSpan(%v, %+q, %d..%d, %+q) = %v %v, asked for %v %v", r, s, from, to, told, is, ok, want, good)
	}
}

// checkFind fails unless these are found, each of them matches, and they are in order and apart.
func checkFind(t *testing.T, r impl.Rules, s, told string, want spans) {
	t.Helper()
	l, ok := impl.FindText(r, s, told)
	if !ok || !slices.Equal(shortSpans(l), want) {
		t.Errorf("FindText(%v, %+q, %+q) = %v %v, asked for %v", r, s, told, l, ok, want)
	}
	end := 0
	for _, p := range l {
		checkMatch(t, r, s, p.From, p.To, told, true, true)
		if p.From < end || p.From >= p.To {
			t.Errorf("FindText(%v, %+q, %+q) = %v: not in order and apart", r, s, told, l)
		}
		end = p.To
	}
}

// findRows: all spans that are found, put down by hand.
var findRows = []struct {
	name, rules, s, told string
	found                spans
}{
	{"the empty text in the empty text", "", "", "", nil},
	{"the empty text", "", "ab", "", nil},
	{"in the empty text", "", "", "a", nil},
	{"itself", "", "abc", "abc", spans{{0, 3}}},
	{"at the beginning", "", "abc", "a", spans{{0, 1}}},
	{"in the middle", "", "abc", "b", spans{{1, 2}}},
	{"at the end", "", "abc", "bc", spans{{1, 3}}},
	{"nowhere", "", "abc", "d", nil},
	{"nowhere as a whole", "", "abc", "ac", nil},
	{"its end is not there", "", "abc", "bcd", nil},
	{"longer than the text", "", "ab", "abc", nil},

	{"several", "", "abcabc", "b", spans{{1, 2}, {4, 5}}},
	{"one right behind the other", "", "aaaa", "aa", spans{{0, 2}, {2, 4}}},
	{"one is left", "", "aaaaa", "aa", spans{{0, 2}, {2, 4}}},
	{"those that begin in a span are none", "", "ababa", "aba", spans{{0, 3}}},
	{"behind such a one", "", "abababa", "aba", spans{{0, 3}, {4, 7}}},
	{"from the next cut where it breaks off", "", "aaab", "aab", spans{{1, 4}}},
	{"from the next cut where it breaks off late", "", "abcabcabd", "abcabd", spans{{3, 9}}},

	{"capitals and marks", "", "xE\u0301-e", "e", spans{{1, 4}, {5, 6}}},
	{"by another spelling", "", "a\u00e9e\u0301e", "\u00e9", spans{{1, 3}, {3, 6}, {6, 7}}},
	{"several marks belong to it", "", "a\u0323\u0301b", "a", spans{{0, 5}}},
	{"a mark at the beginning goes with the next", "", "\u0301ab", "a", spans{{0, 3}}},
	{"marks alone have no first weights", "", "a\u0301", "\u0301", nil},
	{"nor have controls", "", "a\x07", "\x07", nil},
	{"marks in what is looked for", "", "ab", "\u0301a\u0323b\x07", spans{{0, 2}}},

	{"the shortest, not what stands behind", "", "a\x07", "a", spans{{0, 1}}},
	{"the shortest, not all that stands behind", "", "a\x07\x00\x7fb", "a", spans{{0, 1}}},
	{"what stands ahead is in it", "", "\x07a", "a", spans{{0, 2}}},
	{"all that stands ahead is in it", "", "\x07\x00\x7fa\x07", "a", spans{{0, 4}}},
	{"what stands behind one is ahead of the next", "", "a\x07a\x07a", "a", spans{{0, 1}, {1, 3}, {3, 5}}},
	{"what stands between", "", "a\x07b", "ab", spans{{0, 3}}},
	{"many between, ahead and behind", "", "\x07a\x07\x07\x07\x07\x07b\x07", "ab", spans{{0, 8}}},
	{"ahead of what does not match", "", "\x07xa", "a", spans{{2, 3}}},

	{"blanks weigh", "", "a b", "ab", nil},
	{"one that varies", "", "a-b", "-", spans{{1, 2}}},
	{"one that varies, shifted", "[shifted]", "a-b", "-", nil},
	{"shifted, between", "[shifted]", "a-b", "ab", spans{{0, 3}}},
	{"shifted, the shortest", "[shifted]", "ab-", "ab", spans{{0, 2}}},
	{"shifted, ahead", "[shifted]", "x, ab", "ab", spans{{1, 5}}},
	{"shifted, in what is looked for", "[shifted]", "ab", "a-b", spans{{0, 2}}},
	{"shifted, with a mark", "[shifted]", "-\u0301a\u0301-\u0301b", "ab", spans{{0, 10}}},
	{"shifted, an Entry is none that varies", "[shifted] & a < -", "a-b", "-", spans{{1, 2}}},

	{"joined", "& c < ch", "ach", "ch", spans{{1, 3}}},
	{"joined, several", "& c < ch", "chchc", "ch", spans{{0, 2}, {2, 4}}},
	{"the first of those joined, by itself", "& c < ch", "ch", "c", spans{{0, 1}}},
	{"the last of those joined, by itself", "& c < ch", "ch", "h", spans{{1, 2}}},
	{"the first of those joined at the end of a stretch", "& c < ch", "xach", "ac", spans{{1, 3}}},
	{"the last of those joined at the beginning of a stretch", "& c < ch", "cha", "ha", spans{{1, 3}}},
	{"joined but cut by a control", "& c < ch", "c\x07h", "ch", nil},
	{"joined with a mark between", "& c < ch", "c\u0301h", "ch", nil},
	{"joined by capitals", "& c < ch <<< CH", "CHch", "ch", spans{{0, 2}, {2, 4}}},
	{"joined ones as one letter, two", "& q << ab", "xab", "q", spans{{1, 3}}},
	{"joined ones as one letter, four", "& q << abcd", "xabcdq", "q", spans{{1, 5}, {5, 6}}},
	{"joined ones as one letter behind others", "& q << abcd", "yzabcdx", "zq", spans{{1, 6}}},
	{"joined ones as one letter ahead of others", "& q << abcd", "yabcdzz", "qz", spans{{1, 6}}},
	{"joined ones of two weights each", "& q << \u4e00\u4e01\u4e02\u4e03", "x\u4e00\u4e01\u4e02\u4e03x", "qx", spans{{1, 14}}},
	{"joined ones, the last one not there", "& q << abcd", "abcabcd", "q", spans{{3, 7}}},
	{"a shorter one of them first", "& q << ab & q << abcd", "abcd", "q", spans{{0, 2}}},
	{"joined ones that end in the same", "& q << ab & q << bc", "abc", "q", spans{{0, 2}}},
	{"not from inside", "& q << ab & r << aab", "aab", "q", spans{{1, 3}}},

	{"a mark from behind another", "& q << a\u0301", "xa\u0323\u0301y", "q", spans{{1, 6}}},
	{"a mark from behind another, not the letter alone", "& q << a\u0301", "a\u0323\u0301a\u0323", "a", spans{{5, 8}}},
	{"two marks from behind another", "& q << a\u0302 & r << a\u0302\u0301", "a\u0302\u0301\u0323a\u0302\u0323", "r", spans{{0, 7}}},
	{"two marks from behind another, one there", "& q << a\u0302 & r << a\u0302\u0301", "a\u0302\u0301\u0323a\u0302\u0323", "q", spans{{7, 12}}},
	{"a mark from behind others into joined ones", "& c < ch & q << ch\u0301", "chch\u0323\u0301c", "q", spans{{2, 8}}},
	{"taken apart its mark goes in", "& q << s\u0307", "x\u1e69", "q", spans{{1, 4}}},
	{"a mark as a letter", "& q << \u0301", "x\u0301x", "xq", spans{{0, 3}}},
	{"a mark as a letter may not be cut off", "& q << \u0301", "x\u0301x", "q", nil},

	{"a syllable in its parts", "", "x\u1100\u1161\u11a8", "\uac01", spans{{1, 10}}},
	{"its parts in a syllable", "", "x\uac01", "\u1100\u1161\u11a8", spans{{1, 4}}},
	{"a part of a syllable may not be cut off", "", "\uac01", "\uac00", nil},
	{"a lead of a syllable may not be cut off", "", "\u1100\u1161", "\u1100", nil},
	{"a lead alone", "", "\u1100\u1161\u1100", "\u1100", spans{{6, 9}}},

	{"runes of two weights", "", "#\"#", "\"", spans{{1, 2}}},
	{"runes of several bytes", "", "\U0001f600\u4e00\u00df\u4e00", "\u4e00", spans{{4, 7}, {9, 12}}},
	{"bytes that are no UTF-8", "", "a\xffb\xe2\x82c", "\ufffd", spans{{1, 2}, {3, 5}}},
	{"what is looked for is no UTF-8", "", "\ufffd\xff", "\xf0\x9f\x98", spans{{0, 3}, {3, 4}}},
}

func TestFindTextByHand(t *testing.T) {
	for _, p := range findRows {
		t.Run(p.name, func(t *testing.T) {
			r := rulesOf(t, p.rules)
			for r.Levels = 1; r.Levels <= 4; r.Levels++ {
				checkFind(t, r, p.s, p.told, p.found)
			}
			r.Levels = 3
			if l := slowFind(r, p.s, p.told); !slices.Equal(l, p.found) {
				t.Errorf("the tests' own way: %v, asked for %v", l, p.found)
			}
		})
	}
}

// One rune has two weights; two letters that have these are taken for it.
func TestFindTwoLettersInOneRune(t *testing.T) {
	r := joining(put(60000, 32, 2, 'q'), put(32768+'"', 32, 2, 'r'))
	checkFind(t, r, "a\"qr", "qr", spans{{1, 2}, {2, 4}})
	checkFind(t, r, "a\"qr", "\"", spans{{1, 2}, {2, 4}})
	checkFind(t, r, "a\"", "q", nil)
	checkFind(t, r, "a\"", "r", nil)
}

func TestFindTextOfExactlyMaxPlacesAndOneMore(t *testing.T) {
	if impl.MaxPlaces != 60 {
		t.Error(impl.MaxPlaces)
	}
	for _, p := range []struct {
		once, told string
		from, to   int
	}{
		{"a", "a", 0, 1},
		{"ab", "a", 0, 1},
		{"aa", "aa", 0, 2},
		{"\x07a", "A", 0, 2},
		{"xab", "ab", 1, 3},
		{"e\u0301", "\u00e9", 0, 3},
		{"\xff", "\ufffd", 0, 1},
	} {
		n := len(p.once)
		var want spans
		for i := range 60 {
			want = append(want, [2]int{i*n + p.from, i*n + p.to})
		}
		checkFind(t, impl.PlainRules(), strings.Repeat(p.once, 60), p.told, want)
		checkFind(t, impl.PlainRules(), strings.Repeat(p.once, 59), p.told, want[:59])
		for _, more := range []string{strings.Repeat(p.once, 61), strings.Repeat(p.once, 60) + p.told, strings.Repeat(p.once, 200/n)} {
			if l, ok := impl.FindText(impl.PlainRules(), more, p.told); ok || len(l) != 0 {
				t.Errorf("FindText(%+q, %+q) = %v %v", more, p.told, l, ok)
			}
		}
	}
	// Sixty of them, and what stands behind is none.
	var all spans
	for i := range 60 {
		all = append(all, [2]int{i * 2, i*2 + 2})
	}
	checkFind(t, impl.PlainRules(), strings.Repeat("a", 121), "aa", all)
	checkFind(t, impl.PlainRules(), strings.Repeat("a", 120)+strings.Repeat("ba", 40), "aa", all)
}

// slowFirsts: of each stretch between two of the cuts its first weights, as a text by itself.
func slowFirsts(r impl.Rules, s string, cuts []int) map[[2]int][]int {
	m := map[[2]int][]int{}
	for i, from := range cuts {
		for _, to := range cuts[i+1:] {
			runes, _ := impl.DecodeText(s[from:to])
			m[[2]int{from, to}] = slowLevels(r, runes)[0]
		}
	}
	return m
}

// slowSpans: all stretches that match, sorted by where they begin and then by where they end; of these each that is not
// behind the beginning of the one taken last.
func slowSpans(firsts map[[2]int][]int, wanted []int) spans {
	var all, taken spans
	for p, l := range firsts {
		if len(l) > 0 && slices.Equal(l, wanted) {
			all = append(all, p)
		}
	}
	slices.SortFunc(all, func(a, b [2]int) int { return slices.Compare(a[:], b[:]) })
	end := 0
	for _, p := range all {
		if p[0] >= end {
			taken = append(taken, p)
			end = p[1]
		}
	}
	return taken
}

func slowFind(r impl.Rules, s, told string) spans {
	runes, _ := impl.DecodeText(told)
	return slowSpans(slowFirsts(r, s, slowCuts(s)), slowLevels(r, runes)[0])
}

// closeRules: by a fixed rule, with Entries whose first weights are those of few letters, so that many texts match.
func closeRules(seed uint32, runes []int) impl.Rules {
	next := numbers(seed + 1000)
	r := manyRules(seed, runes)
	few := []int{4000, 4000, 4200, 4400, 60000, 32768 + 0x4E00}
	for i := range r.Entries {
		r.Entries[i].Elem.First = few[next(len(few))]
	}
	return r
}

// All short texts in all short ones, and each of their spans.
func TestFindAllShortTexts(t *testing.T) {
	for _, p := range []struct {
		r     impl.Rules
		runes []int
		n     int
	}{
		{impl.PlainRules(), []int{'a', 'b', 0x301, 7}, 5},
		{impl.Rules{Levels: 1, Shifted: true}, []int{'a', '-', 0x301, 7}, 5},
		{joining(put(4000, 32, 3, 'a', 'b'), put(4200, 32, 3, 'b', 'a', 'b', 'a'), put(4000, 33, 2, 'b', 'b', 'b', 'a')), []int{'a', 'b', 7}, 6},
		{joining(put(4200, 32, 3, 'a', 0x301), put(4000, 32, 3, 'a', 0x301, 0x302), put(4200, 33, 2, 0x323), put(4200, 40, 3, 'a', 0x301, 'a')), []int{'a', 0x301, 0x302, 0x323}, 5},
		{joining(put(4000, 32, 3, 0x1100, 0x1161), put(4000, 34, 3, 0x11A8, 'a'), put(4000, 35, 3, 0x1100)), []int{'a', 0x1100, 0x1161, 0x11A8}, 5},
		{joining(put(60000, 32, 3, 'q'), put(32768+0x4E00, 32, 3, 'r'), put(60000, 33, 3, 0x4E00, 0x4E00, 0x4E00, 'q')), []int{'q', 'r', 0x4E00}, 6},
	} {
		var told lists
		forAllLists(p.runes, 2, func(l []int) { told = append(told, l) })
		told = append(told, []int{p.runes[0], p.runes[0], p.runes[1]}, times(3, p.runes[0]), times(4, p.runes[0]))
		wanted := make(lists, len(told))
		for i, l := range told {
			wanted[i] = slowLevels(p.r, l)[0]
		}
		forAllLists(p.runes, p.n, func(l []int) {
			if t.Failed() {
				return
			}
			s := plainUTF8(l)
			firsts := slowFirsts(p.r, s, slowCuts(s))
			for i, u := range told {
				checkFind(t, p.r, s, plainUTF8(u), slowSpans(firsts, wanted[i]))
			}
		})
	}
}

// Texts in which a stretch of themselves, spelled in any way, is looked for.
func TestFindInLongTexts(t *testing.T) {
	found := 0
	for seed := uint32(1); seed <= 160; seed++ {
		next := numbers(seed)
		runes, most := someRunes, 60
		if seed%2 == 0 {
			runes, most = []int{'a', 'b', 'c', 'a', 'b', 0x301, 0x323, 0x4E00, 7}, 40
		}
		r := closeRules(seed, runes)
		if seed%8 == 0 {
			r = manyRules(seed, runes)
		}
		if !impl.GoodRules(r) {
			t.Fatalf("%v are not good", r)
		}
		s := plainUTF8(manyRunes(next, runes, most))
		cuts := slowCuts(s)
		firsts := slowFirsts(r, s, cuts)
		for range 6 {
			from := next(len(cuts))
			to := min(from+next(7), len(cuts)-1)
			l, _ := impl.DecodeText(s[cuts[from]:cuts[to]])
			want := slowSpans(firsts, slowLevels(r, l)[0])
			found += len(want)
			for _, u := range spellings(l) {
				checkFind(t, r, s, plainUTF8(u), want)
			}
		}
		if t.Failed() {
			return
		}
	}
	if found < 1000 {
		t.Errorf("only %d found", found)
	}
}

// A text with first weights is found in itself, however it is spelled, from its beginning on.
func TestTextsAreFoundInThemselves(t *testing.T) {
	for seed := uint32(1); seed <= 300; seed++ {
		next := numbers(seed)
		r := manyRules(seed, someRunes)
		l := manyRunes(next, someRunes, 40)
		weighs := len(slowLevels(r, l)[0]) > 0
		for _, a := range spellings(l) {
			for _, b := range spellings(l) {
				found, ok := impl.FindText(r, plainUTF8(a), plainUTF8(b))
				if !ok || len(found) > 0 != weighs || weighs && (len(found) != 1 || found[0].From != 0) {
					t.Fatalf("FindText(%v, %+q, %+q) = %v %v", r, plainUTF8(a), plainUTF8(b), found, ok)
				}
			}
			checkMatch(t, r, plainUTF8(a), 0, len(plainUTF8(a)), plainUTF8(l), weighs, len(l) > 0)
		}
	}
}
