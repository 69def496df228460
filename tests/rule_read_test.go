package tests

import (
	"slices"
	"strings"
	"testing"

	"loop.example/g00158/impl"
)

// put: an Entry of these runes and weights.
func put(first, second, third int, runes ...int) impl.Entry {
	return impl.Entry{Runes: runes, Elem: elem(first, second, third)}
}

func sameRules(a, b impl.Rules) bool {
	return a.Shifted == b.Shifted && a.Levels == b.Levels && slices.EqualFunc(a.Entries, b.Entries, func(x, y impl.Entry) bool {
		return slices.Equal(x.Runes, y.Runes) && x.Elem == y.Elem
	})
}

// checkRead fails unless these rules are read, and keep the promise.
func checkRead(t *testing.T, text string, want impl.Rules) {
	t.Helper()
	r, code := impl.ReadRules(text)
	if code != impl.RuleOk || !sameRules(r, want) {
		t.Errorf("ReadRules(%q) = %v %d, asked for %v", text, r, code, want)
	}
	checkApart(t, r)
}

// checkApart fails if two Entries have the same three weights, or one is not told by its runes.
func checkApart(t *testing.T, r impl.Rules) {
	t.Helper()
	if !impl.GoodRules(r) {
		t.Errorf("%v are read, but not good", r)
	}
	at := map[impl.Elem]int{}
	for i, x := range r.Entries {
		if j, ok := at[x.Elem]; ok {
			t.Errorf("the Entries %d and %d of %v have one weight", j, i, r)
		}
		at[x.Elem] = i
		checkElem(t, r, x.Runes, x.Elem, true)
		for _, base := range baseRows {
			if base.elem == x.Elem {
				t.Errorf("the Entry %d of %v has the weight of U+%04X", i, r, base.r)
			}
		}
	}
}

func checkCode(t *testing.T, text string, want int) {
	t.Helper()
	if r, code := impl.ReadRules(text); code != want || !sameRules(r, impl.Rules{}) {
		t.Errorf("ReadRules(%q) = %v %d, asked for %d", text, r, code, want)
	}
}

func TestReadRulesThatPutNothing(t *testing.T) {
	for _, p := range []struct {
		text string
		want impl.Rules
	}{
		{"", impl.Rules{Levels: 3}},
		{" ", impl.Rules{Levels: 3}},
		{"    ", impl.Rules{Levels: 3}},
		{"[shifted]", impl.Rules{Levels: 3, Shifted: true}},
		{"[shifted] [shifted]", impl.Rules{Levels: 3, Shifted: true}},
		{"[levels 1]", impl.Rules{Levels: 1}},
		{"[levels 2]", impl.Rules{Levels: 2}},
		{"[levels 3]", impl.Rules{Levels: 3}},
		{"[levels 4]", impl.Rules{Levels: 4}},
		{"[levels 4] [levels 1]", impl.Rules{Levels: 1}},
		{"[levels 1] [shifted] [levels 4]", impl.Rules{Levels: 4, Shifted: true}},
		{"& a", impl.Rules{Levels: 3}},
		{"& a & Z & 0", impl.Rules{Levels: 3}},
		{"& a [shifted] & b [levels 2]", impl.Rules{Levels: 2, Shifted: true}},
		{" [levels 2]", impl.Rules{Levels: 2}},
		{"   [levels    2]   [shifted]  ", impl.Rules{Levels: 2, Shifted: true}},
	} {
		checkRead(t, p.text, p.want)
	}
}

// putRows: what rules put, worked out by hand.
var putRows = []struct {
	name string
	text string
	want []impl.Entry
}{
	{"behind a letter, first", "& c < ch", []impl.Entry{put(4401, 32, 2, 'c', 'h')}},
	{"behind a letter, second", "& c << ch", []impl.Entry{put(4400, 33, 2, 'c', 'h')}},
	{"behind a letter, third", "& c <<< ch", []impl.Entry{put(4400, 32, 3, 'c', 'h')}},
	{"behind a capital, first", "& C < ch", []impl.Entry{put(4401, 32, 2, 'c', 'h')}},
	{"behind a capital, second", "& C << ch", []impl.Entry{put(4400, 33, 2, 'c', 'h')}},
	{"behind a capital, third", "& C <<< ch", []impl.Entry{put(4400, 32, 9, 'c', 'h')}},
	{"behind the first digit", "& 0 < x << y <<< w", []impl.Entry{put(2001, 32, 2, 'x'), put(2001, 33, 2, 'y'), put(2001, 33, 3, 'w')}},
	{"behind the last digit", "& 9 < x", []impl.Entry{put(2901, 32, 2, 'x')}},
	{"behind the last letter", "& z < x & Z < y", []impl.Entry{put(9001, 32, 2, 'x'), put(9002, 32, 2, 'y')}},
	{"behind the one put, first", "& c < p < q", []impl.Entry{put(4401, 32, 2, 'p'), put(4402, 32, 2, 'q')}},
	{"behind the one put, second", "& c << p << q", []impl.Entry{put(4400, 33, 2, 'p'), put(4400, 34, 2, 'q')}},
	{"behind the one put, third", "& c <<< p <<< q", []impl.Entry{put(4400, 32, 3, 'p'), put(4400, 32, 4, 'q')}},
	{"the next first is an Entry's", "& c < p & c < q", []impl.Entry{put(4401, 32, 2, 'p'), put(4402, 32, 2, 'q')}},
	{"the next second is an Entry's", "& c << p & c << q", []impl.Entry{put(4400, 33, 2, 'p'), put(4400, 34, 2, 'q')}},
	{"the next third is an Entry's", "& c <<< p & c <<< q", []impl.Entry{put(4400, 32, 3, 'p'), put(4400, 32, 4, 'q')}},
	{"the least one in a gap", "& c < p < q & p << r & c < s", []impl.Entry{put(4401, 32, 2, 'p'), put(4402, 32, 2, 'q'), put(4401, 33, 2, 'r'), put(4403, 32, 2, 's')}},
	{"a second of another first is free", "& c << p & d << q", []impl.Entry{put(4400, 33, 2, 'p'), put(4600, 33, 2, 'q')}},
	{"a third of another first is free", "& c <<< p & d <<< q", []impl.Entry{put(4400, 32, 3, 'p'), put(4600, 32, 3, 'q')}},
	{"a third of another second is free", "& c <<< p & c << q <<< r", []impl.Entry{put(4400, 32, 3, 'p'), put(4400, 33, 2, 'q'), put(4400, 33, 3, 'r')}},
	{"a second that has thirds is not free", "& c << p <<< P & c << q", []impl.Entry{put(4400, 33, 2, 'p'), put(4400, 33, 3, 'P'), put(4400, 34, 2, 'q')}},
	{"second behind third", "& c <<< p << q", []impl.Entry{put(4400, 32, 3, 'p'), put(4400, 33, 2, 'q')}},
	{"first behind second and third", "& c << p <<< q < r", []impl.Entry{put(4400, 33, 2, 'p'), put(4400, 33, 3, 'q'), put(4401, 32, 2, 'r')}},
	{"thirds go past 8", "& c <<< 1 <<< 2 <<< 3 <<< 4 <<< 5 <<< 6 <<< 7", []impl.Entry{
		put(4400, 32, 3, '1'), put(4400, 32, 4, '2'), put(4400, 32, 5, '3'), put(4400, 32, 6, '4'), put(4400, 32, 7, '5'), put(4400, 32, 9, '6'), put(4400, 32, 10, '7')}},
	{"thirds go past 8 and what is there", "& C <<< x & c <<< 1 <<< 2 <<< 3 <<< 4 <<< 5 <<< 6", []impl.Entry{put(4400, 32, 9, 'x'),
		put(4400, 32, 3, '1'), put(4400, 32, 4, '2'), put(4400, 32, 5, '3'), put(4400, 32, 6, '4'), put(4400, 32, 7, '5'), put(4400, 32, 10, '6')}},
	{"thirds of a second go past 8 too", "& c << x <<< 1 <<< 2 <<< 3 <<< 4 <<< 5 <<< 6", []impl.Entry{put(4400, 33, 2, 'x'),
		put(4400, 33, 3, '1'), put(4400, 33, 4, '2'), put(4400, 33, 5, '3'), put(4400, 33, 6, '4'), put(4400, 33, 7, '5'), put(4400, 33, 9, '6')}},
	{"reset to what was put", "& c < ch & x & ch << q", []impl.Entry{put(4401, 32, 2, 'c', 'h'), put(4401, 33, 2, 'q')}},
	{"reset to what was put, first", "& c < ch < ci & ch < cj", []impl.Entry{put(4401, 32, 2, 'c', 'h'), put(4402, 32, 2, 'c', 'i'), put(4403, 32, 2, 'c', 'j')}},
	{"reset to a letter put elsewhere", "& z < a & a < q", []impl.Entry{put(9001, 32, 2, 'a'), put(9002, 32, 2, 'q')}},
	{"behind itself", "& a < a & a << q", []impl.Entry{put(4001, 32, 2, 'a'), put(4001, 33, 2, 'q')}},
	{"what was put does not move", "& c < p & q < c < r", []impl.Entry{put(4401, 32, 2, 'p'), put(7201, 32, 2, 'c'), put(7202, 32, 2, 'r')}},
	{"a reset that puts nothing", "& c & d < x", []impl.Entry{put(4601, 32, 2, 'x')}},
	{"a blank put", "& a < - & - < ?", []impl.Entry{put(4001, 32, 2, '-'), put(4002, 32, 2, '?')}},
	{"a mark put", "& a < \u0301 & \u0301 <<< \u0300", []impl.Entry{put(4001, 32, 2, 0x301), put(4001, 32, 3, 0x300)}},
	{"a control put", "& a < \x00 << \t < \x7f & \t <<< \n", []impl.Entry{put(4001, 32, 2, 0), put(4001, 33, 2, 9), put(4002, 32, 2, 127), put(4001, 33, 3, 10)}},
	{"one with two elems put", "& s < \u00df & \u00df <<< \u4e00", []impl.Entry{put(7601, 32, 2, 0xDF), put(7601, 32, 3, 0x4E00)}},
	{"blanks that are none", "& a < \u00a0 < \u3000 < \u0085", []impl.Entry{put(4001, 32, 2, 0xA0), put(4002, 32, 2, 0x3000), put(4003, 32, 2, 0x85)}},
	{"words of the rules as texts", "& a < < << & <<< [ & & < << & < <<< <<<", []impl.Entry{
		put(4001, 32, 2, '<'), put(4001, 33, 2, '&'), put(4001, 33, 3, '['), put(4002, 32, 2, '<', '<'), put(4001, 32, 3, '<', '<', '<')}},
	{"four runes", "& a < abcd", []impl.Entry{put(4001, 32, 2, 'a', 'b', 'c', 'd')}},
	{"four runes when taken apart", "& a < \u1ea5b << \uac01x", []impl.Entry{put(4001, 32, 2, 'a', 0x302, 0x301, 'b'), put(4001, 33, 2, 0x1100, 0x1161, 0x11A8, 'x')}},
	{"marks sorted", "& a < s\u0307\u0323", []impl.Entry{put(4001, 32, 2, 's', 0x323, 0x307)}},
	{"spelled otherwise, reset", "& z < \u00e5 & x & a\u030a < q", []impl.Entry{put(9001, 32, 2, 'a', 0x30A), put(9002, 32, 2, 'q')}},
	{"spelled otherwise, reset by a sign", "& z < A\u030a & x & \u212b <<< q", []impl.Entry{put(9001, 32, 2, 'A', 0x30A), put(9001, 32, 3, 'q')}},
	{"bytes that are no UTF-8", "& a < \xff < \xe2\x82\xff & \x80 << x", []impl.Entry{
		put(4001, 32, 2, 0xFFFD), put(4002, 32, 2, 0xFFFD, 0xFFFD), put(4001, 33, 2, 'x')}},
	{"blanks anywhere", "   &  a    <   b   <<     c  ", []impl.Entry{put(4001, 32, 2, 'b'), put(4001, 33, 2, 'c')}},
}

func TestReadRulesByHand(t *testing.T) {
	for _, p := range putRows {
		t.Run(p.name, func(t *testing.T) {
			checkRead(t, p.text, joining(p.want...))
			for _, levels := range []string{"1", "4"} {
				want := impl.Rules{Entries: p.want, Shifted: true, Levels: int(levels[0] - '0')}
				checkRead(t, "[shifted] [levels "+levels+"] "+p.text, want)
				checkRead(t, p.text+" [shifted] [levels "+levels+"]", want)
			}
		})
	}
}

func TestReadRulesWithAllElseBetween(t *testing.T) {
	checkRead(t, "[levels 2] & a [shifted] < b [levels 4] << c [shifted] <<< d", impl.Rules{
		Entries: []impl.Entry{put(4001, 32, 2, 'b'), put(4001, 33, 2, 'c'), put(4001, 33, 3, 'd')},
		Shifted: true,
		Levels:  4,
	})
}

// codeRows: each code at each place where it is looked for.
var codeRows = []struct {
	text string
	code int
}{
	{"x", impl.RuleWord}, {"a", impl.RuleWord}, {"&a", impl.RuleWord}, {"<a", impl.RuleWord}, {"&&", impl.RuleWord},
	{"<<<<", impl.RuleWord}, {"<<<< a", impl.RuleWord}, {">", impl.RuleWord}, {"> a", impl.RuleWord}, {"=", impl.RuleWord},
	{"[shifted", impl.RuleWord}, {"shifted]", impl.RuleWord}, {"shifted", impl.RuleWord}, {"[Shifted]", impl.RuleWord},
	{"[shifted]]", impl.RuleWord}, {"[shifted ]", impl.RuleWord}, {"[shifted][shifted]", impl.RuleWord}, {"[]", impl.RuleWord},
	{"[levels", impl.RuleWord}, {"[levels]", impl.RuleWord}, {"[level 2]", impl.RuleWord}, {"[Levels 2]", impl.RuleWord},
	{"[levels2]", impl.RuleWord}, {"[levels 0]", impl.RuleWord}, {"[levels 5]", impl.RuleWord}, {"[levels 9]", impl.RuleWord},
	{"[levels 2", impl.RuleWord}, {"[levels 2 ]", impl.RuleWord}, {"[levels ]", impl.RuleWord}, {"[levels 02]", impl.RuleWord},
	{"[levels 01]", impl.RuleWord}, {"[levels 03]", impl.RuleWord}, {"[levels 04]", impl.RuleWord}, {"[levels 4.]", impl.RuleWord},
	{"[levels 12]", impl.RuleWord}, {"[levels 21]", impl.RuleWord}, {"[levels +2]", impl.RuleWord}, {"[levels -1]", impl.RuleWord},
	{"[levels 2]]", impl.RuleWord}, {"[levels 2]x", impl.RuleWord}, {"[levels 2][shifted]", impl.RuleWord},
	{"[levels 1]2]", impl.RuleWord}, {"[levels ]2", impl.RuleWord}, {"[levels a]", impl.RuleWord}, {"[levels \u0662]", impl.RuleWord},
	{"[levels 2\x00]", impl.RuleWord}, {"[levels [shifted]", impl.RuleWord}, {"[levels\t2]", impl.RuleWord}, {"2]", impl.RuleWord},
	{"&", impl.RuleWord}, {"& ", impl.RuleWord}, {"<", impl.RuleWord}, {"<<", impl.RuleWord}, {"<<<   ", impl.RuleWord},
	{"& a <", impl.RuleWord}, {"& a <<", impl.RuleWord}, {"& a <<< ", impl.RuleWord}, {"& a &", impl.RuleWord}, {"& a b", impl.RuleWord},
	{"& a < b c", impl.RuleWord}, {"& abcde", impl.RuleWord}, {"& a < abcde", impl.RuleWord}, {"& a << abcde", impl.RuleWord},
	{"& a <<< abcde", impl.RuleWord}, {"& \u1ea5bc", impl.RuleWord}, {"& a < \u1ea5bc", impl.RuleWord}, {"& a < \uac01\uac00", impl.RuleWord},
	{"& a < [shifted]", impl.RuleWord}, {"& [shifted]", impl.RuleWord}, {"&\ta", impl.RuleWord}, {"& a\t< b <", impl.RuleReset},
	{"[shifted]\n", impl.RuleWord}, {"\n", impl.RuleWord}, {"\t", impl.RuleWord}, {"\u00a0", impl.RuleWord}, {"\x00", impl.RuleWord},
	{"\xff", impl.RuleWord}, {"&\u00a0a", impl.RuleWord}, {"& a < \xff\xff\xff\xff\xff", impl.RuleWord},

	{"< a", impl.RuleReset}, {"<< a", impl.RuleReset}, {"<<< a", impl.RuleReset}, {"[shifted] < a", impl.RuleReset},
	{"[levels 2] << a & a", impl.RuleReset}, {"< a < a", impl.RuleReset},
	{"& ab", impl.RuleReset}, {"& aa", impl.RuleReset}, {"& \u00e1", impl.RuleReset}, {"& a\u0301", impl.RuleReset},
	{"& \u0301", impl.RuleReset}, {"& \u0338", impl.RuleReset}, {"& \x00", impl.RuleReset}, {"& \x1f", impl.RuleReset},
	{"& \x7f", impl.RuleReset}, {"& \u0080", impl.RuleReset}, {"& \u00df", impl.RuleReset}, {"& \U0010ffff", impl.RuleReset},
	{"& \xff", impl.RuleReset}, {"& &", impl.RuleReset}, {"& <", impl.RuleReset}, {"& < a", impl.RuleReset}, {"& [", impl.RuleReset},
	{"& _", impl.RuleReset}, {"& -", impl.RuleReset}, {"& ,", impl.RuleReset}, {"& ;", impl.RuleReset}, {"& :", impl.RuleReset},
	{"& !", impl.RuleReset}, {"& ?", impl.RuleReset}, {"& .", impl.RuleReset}, {"& . < a", impl.RuleReset},
	{"& a < ch & ci", impl.RuleReset}, {"& a < ch & CH", impl.RuleReset}, {"& a < ch & chc", impl.RuleReset}, {"& a < ch & -", impl.RuleReset},
	{"& ch & a < ch", impl.RuleReset},

	{"& a < b < b", impl.RuleTwice}, {"& a < b << b", impl.RuleTwice}, {"& a < b <<< b", impl.RuleTwice}, {"& a < b & b < b", impl.RuleTwice},
	{"& a < ch < ci << ch", impl.RuleTwice}, {"& a < \u00e5 < a\u030a", impl.RuleTwice}, {"& a < a\u030a < \u00e5", impl.RuleTwice},
	{"& a < \u212b < \u00c5", impl.RuleTwice}, {"& a < \u1e69 << s\u0307\u0323", impl.RuleTwice}, {"& a < \uac01 < \uac00\u11a8", impl.RuleTwice},
	{"& a < \xff < \xfe", impl.RuleTwice}, {"& a < \xff < \ufffd", impl.RuleTwice}, {"& a < \xe2\x82 < \x80", impl.RuleTwice},
	{"& a < - << -", impl.RuleTwice}, {"& a < < < <", impl.RuleTwice},

	// Of several the one in the word ahead; in one word the one that is looked for ahead.
	{"x < a", impl.RuleWord}, {"< a x", impl.RuleReset}, {"< abcde", impl.RuleWord}, {"< ", impl.RuleWord}, {"< abcde & .", impl.RuleWord},
	{"& . x", impl.RuleReset}, {"& . &", impl.RuleReset}, {"& . [levels 9]", impl.RuleReset}, {"[levels 9] & .", impl.RuleWord},
	{"& a < b < b x", impl.RuleTwice}, {"& a < b x < b", impl.RuleWord}, {"& a < b < b & .", impl.RuleTwice}, {"& a < b & . < b", impl.RuleReset},
	{"& a < b < b <", impl.RuleTwice}, {"& a < b & abcde < b", impl.RuleWord},
}

func TestReadRulesThatAreNone(t *testing.T) {
	for _, p := range codeRows {
		checkCode(t, p.text, p.code)
		checkCode(t, "   "+strings.ReplaceAll(p.text, " ", "   ")+"   ", p.code)
		checkCode(t, "[shifted] [levels 2] "+p.text, p.code)
		if p.code != impl.RuleReset {
			checkCode(t, "& q < xx "+p.text, p.code)
		}
	}
}

// manyTexts: n one-byte texts, no two alike, that are no digits and no letters.
func manyTexts(n int) []string {
	var l []string
	for r := 1; len(l) < n; r++ {
		if len(slowElems(r)) != 1 {
			l = append(l, string(rune(r)))
		}
	}
	return l
}

// Up to MaxRules the weights that are put stay far from those of the next base letter and from their bounds.
func TestReadRulesUpToMaxRules(t *testing.T) {
	texts := manyTexts(impl.MaxRules + 1)
	for _, p := range []struct {
		reset, word string
		want        func(i int) impl.Elem
	}{
		{"& a ", "< ", func(i int) impl.Elem { return elem(4001+i, 32, 2) }},
		{"& z ", "< ", func(i int) impl.Elem { return elem(9001+i, 32, 2) }},
		{"& 9 ", "<< ", func(i int) impl.Elem { return elem(2900, 33+i, 2) }},
		{"& Z ", "<<< ", func(i int) impl.Elem { return elem(9000, 32, 9+i) }},
		{"& z ", "<<< ", func(i int) impl.Elem {
			if 3+i >= 8 {
				return elem(9000, 32, 4+i)
			}
			return elem(9000, 32, 3+i)
		}},
	} {
		text := p.reset
		var want []impl.Entry
		for i := range impl.MaxRules {
			text += p.word + texts[i] + " "
			want = append(want, impl.Entry{Runes: []int{int(texts[i][0])}, Elem: p.want(i)})
			checkRead(t, text, joining(want...))
		}
		more := texts[impl.MaxRules]
		for _, word := range []string{"< ", "<< ", "<<< "} {
			checkCode(t, text+word+more, impl.RuleFull)
			checkCode(t, text+word+more+" x", impl.RuleFull)
			checkCode(t, text+word+texts[0], impl.RuleTwice)
			checkCode(t, text+word+"abcde", impl.RuleWord)
			checkCode(t, text+"x "+word+more, impl.RuleWord)
			checkCode(t, text+"& . "+word+more, impl.RuleReset)
		}
		checkRead(t, text+"& "+texts[0]+" [levels 4]", impl.Rules{Entries: want, Levels: 4})
	}
}

// slowRead reads word by word from a list of all words, with what is taken told by maps.
func slowRead(s string) (impl.Rules, int) {
	if len(s) > 300 {
		return impl.Rules{}, 1
	}
	words := slices.DeleteFunc(strings.Split(s, " "), func(w string) bool { return w == "" })
	r := impl.Rules{Levels: 3}
	var last []impl.Elem
	for len(words) > 0 {
		word := words[0]
		words = words[1:]
		if word == "[shifted]" {
			r.Shifted = true
			continue
		}
		if !slices.Contains([]string{"[levels", "&", "<", "<<", "<<<"}, word) || len(words) == 0 {
			return impl.Rules{}, 2
		}
		text := words[0]
		words = words[1:]
		if word == "[levels" {
			n := slices.Index([]string{"1]", "2]", "3]", "4]"}, text)
			if n < 0 {
				return impl.Rules{}, 2
			}
			r.Levels = n + 1
			continue
		}
		decoded, _ := impl.DecodeText(text)
		runes := slowNormalD(decoded)
		if len(text) > 200 || len(runes) > 4 {
			return impl.Rules{}, 2
		}
		at := slices.IndexFunc(r.Entries, func(x impl.Entry) bool { return slices.Equal(x.Runes, runes) })
		switch {
		case word == "&" && at >= 0:
			last = []impl.Elem{r.Entries[at].Elem}
		case word == "&":
			last = slowElems(runes[0])
			if len(runes) > 1 || len(last) != 1 || last[0].First == 0 || last[0].Varies {
				return impl.Rules{}, 3
			}
		case last == nil:
			return impl.Rules{}, 3
		case at >= 0:
			return impl.Rules{}, 4
		case len(r.Entries) == 40:
			return impl.Rules{}, 5
		default:
			last = []impl.Elem{slowBehind(r, last[0], len(word))}
			r.Entries = append(r.Entries, impl.Entry{Runes: runes, Elem: last[0]})
		}
	}
	return r, 0
}

func slowBehind(r impl.Rules, e impl.Elem, level int) impl.Elem {
	firsts, seconds, thirds := map[int]bool{}, map[[2]int]bool{}, map[impl.Elem]bool{}
	for _, row := range baseRows {
		firsts[row.elem.First] = true
	}
	for _, x := range r.Entries {
		firsts[x.Elem.First] = true
		seconds[[2]int{x.Elem.First, x.Elem.Second}] = true
		thirds[x.Elem] = true
	}
	switch level {
	case 1:
		for e = elem(e.First+1, 32, 2); firsts[e.First]; e.First++ {
		}
	case 2:
		for e = elem(e.First, e.Second+1, 2); seconds[[2]int{e.First, e.Second}]; e.Second++ {
		}
	case 3:
		for e.Third++; e.Third == 8 || thirds[e]; e.Third++ {
		}
	}
	return e
}

// checkAllTexts looks at all texts of up to n of these words; the codes are those that some of them must have.
func checkAllTexts(t *testing.T, words []string, n int, some ...int) {
	t.Helper()
	codes := map[int]int{}
	texts := []string{""}
	for length := 0; length <= n; length++ {
		var longer []string
		for _, text := range texts {
			want, code := slowRead(text)
			codes[code]++
			if code == impl.RuleOk {
				checkRead(t, text, want)
			} else {
				checkCode(t, text, code)
			}
			if t.Failed() {
				return
			}
			for _, w := range words {
				longer = append(longer, text+" "+w)
			}
		}
		texts = longer
	}
	for _, code := range some {
		if codes[code] == 0 {
			t.Errorf("no text of %q has the code %d", words, code)
		}
	}
}

func TestAllShortRules(t *testing.T) {
	checkAllTexts(t, []string{"&", "<", "<<<", "[levels", "3]", "[shifted]", "a", "ch", "-"}, 5, impl.RuleOk, impl.RuleWord, impl.RuleReset)
	checkAllTexts(t, []string{"&", "<", "<<", "a", "b", "ch"}, 6, impl.RuleOk, impl.RuleWord, impl.RuleReset, impl.RuleTwice)
	checkAllTexts(t, []string{"& c", "& ch", "& C", "< ch", "<< ch", "<<< ch", "< q", "<< r", "<<< s", "< c"}, 4, impl.RuleOk, impl.RuleReset, impl.RuleTwice)
	checkAllTexts(t, []string{"& a", "& \u00e5", "< a\u030a", "<< \u00c5", "<<< \u212b", "<< b", "< x", "<<< y"}, 4, impl.RuleOk, impl.RuleReset, impl.RuleTwice)
}

// longRules: a text of many words, made by a fixed rule from a number.
func longRules(seed uint32, names []string) string {
	state := seed * 2654435761
	next := func(n int) int {
		state = state*1664525 + 1013904223
		return int(state>>16) % n
	}
	words := []string{"<", "<<", "<<<", "<", "<<", "<<<", "<<<", "<<", "&", "&"}
	unused := slices.Clone(names)
	used := []string{"a", "Z", "5"}
	text := "& " + used[next(len(used))]
	for len(text) < 290-int(seed%7)*30 {
		word := words[next(len(words))]
		if word == "&" {
			text += " & " + used[next(len(used))]
			continue
		}
		at := next(len(unused))
		text += " " + word + " " + unused[at]
		used = append(used, unused[at])
		unused = slices.Delete(unused, at, at+1)
	}
	return text
}

func TestLongRules(t *testing.T) {
	var names []string
	for r := 'a'; r <= 'z'; r++ {
		names = append(names, string(r), string(r-32), string(r)+"h")
	}
	codes := map[int]int{}
	for seed := uint32(1); seed <= 3000; seed++ {
		text := longRules(seed, names)
		want, code := slowRead(text)
		codes[code]++
		if code == impl.RuleOk {
			checkRead(t, text, want)
		} else {
			checkCode(t, text, code)
		}
		if t.Failed() {
			return
		}
	}
	if codes[impl.RuleOk] < 2000 || codes[impl.RuleFull] == 0 {
		t.Error(codes)
	}
}
