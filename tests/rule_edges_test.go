package tests

import (
	"math"
	"slices"
	"strings"
	"testing"

	"loop.example/g00158/impl"
)

// wrongNumbers are beyond the bounds of every weight and of Levels.
var wrongNumbers = []int{
	math.MinInt, math.MinInt + 1, math.MinInt + 32, math.MinInt32, -65536, -33, -2, -1,
	65536, 1 << 20, math.MaxInt32, 1<<32 + 32, 1<<32 + 3, 1 << 62, math.MaxInt - 1, math.MaxInt,
}

func refusedRules(t *testing.T, r impl.Rules) {
	t.Helper()
	if impl.GoodRules(r) {
		t.Errorf("GoodRules(%v) = true", r)
	}
	for _, l := range [][]int{{'a'}, {'z'}, {'c', 'h'}, {}, {-1}} {
		checkElem(t, r, l, impl.Elem{}, false)
	}
}

func TestBaseElemsOfRunesThatAreNotGood(t *testing.T) {
	for _, r := range wrongRunes {
		checkBase(t, r, nil, false)
	}
	// Cut down to 32 bits some of these would be good.
	for _, r := range []int{1<<32 + 'a', 1<<32 + ' ', 1<<32 + 5, -'a', math.MinInt + 'a', math.MinInt + ' '} {
		checkBase(t, r, nil, false)
		checkElem(t, impl.PlainRules(), []int{r}, impl.Elem{}, false)
	}
}

func TestRulesWithGreatAndNegativeNumbers(t *testing.T) {
	for _, n := range wrongNumbers {
		refusedRules(t, impl.Rules{Levels: n})
		refusedRules(t, impl.Rules{Levels: n, Entries: entries(40)})
		for _, e := range []impl.Elem{elem(n, 32, 2), elem(4001, n, 2), elem(4001, 32, n), elem(n, n, n), {First: n, Second: n, Third: n, Varies: true}} {
			refusedRules(t, weighing(e))
			refusedRules(t, joining(append(entries(39), impl.Entry{Runes: []int{'x'}, Elem: e})...))
			refusedRules(t, joining(append([]impl.Entry{{Runes: []int{'x'}, Elem: e}}, entries(39)...)...))
		}
	}
	for _, n := range wrongRunes {
		refusedRules(t, joining(entry(n)))
		refusedRules(t, joining(entry('a', n)))
		refusedRules(t, joining(entry('a', 'b', 'c', n)))
		refusedRules(t, joining(append(entries(39), entry(n, 'a'))...))
		checkElem(t, impl.PlainRules(), []int{n}, impl.Elem{}, false)
		checkElem(t, impl.PlainRules(), []int{'a', n}, impl.Elem{}, false)
		checkElem(t, impl.PlainRules(), []int{n, 'a', 'b', 'c'}, impl.Elem{}, false)
	}
}

func TestRulesWithNilEmptyAndLongLists(t *testing.T) {
	for _, l := range [][]impl.Entry{nil, {}, entries(1)[:0]} {
		r := impl.Rules{Entries: l, Levels: 3}
		if !impl.GoodRules(r) {
			t.Errorf("GoodRules(%v) = false", r)
		}
		checkElem(t, r, []int{'a'}, elem(4000, 32, 2), true)
	}
	for _, l := range [][]int{nil, {}, {'a', 'b', 'c', 'd', 'e'}, times(200, 'a'), times(201, 'a'), make([]int, 100000)} {
		refusedRules(t, joining(impl.Entry{Runes: l, Elem: elem(4001, 32, 2)}))
		refusedRules(t, joining(entry('a'), impl.Entry{Runes: l, Elem: elem(4001, 32, 2)}))
		checkElem(t, impl.PlainRules(), l, impl.Elem{}, false)
		checkElem(t, joining(entry('a')), l, impl.Elem{}, false)
	}
	refusedRules(t, joining(impl.Entry{}))
	refusedRules(t, joining(make([]impl.Entry, 40)...))
	refusedRules(t, joining(make([]impl.Entry, 41)...))
	refusedRules(t, joining(make([]impl.Entry, 100000)...))
	refusedRules(t, joining(entries(100000)...))
}

func TestExactlyMaxRuleTextAndOneMore(t *testing.T) {
	filled := "& a < bb" + strings.Repeat(" & a", 73)
	if len(filled) != impl.MaxRuleText {
		t.Fatal(len(filled))
	}
	bb := joining(put(4001, 32, 2, 'b', 'b'))
	for _, p := range []struct {
		text string
		want impl.Rules
	}{
		{filled, bb},
		{"& a < bb" + strings.Repeat(" ", 292), bb},
		{strings.Repeat(" ", 292) + "& a < bb", bb},
		{"& a <" + strings.Repeat(" ", 293) + "bb", bb},
		{strings.Repeat(" ", 300), impl.PlainRules()},
		{strings.Repeat("[shifted] ", 30), impl.Rules{Shifted: true, Levels: 3}},
	} {
		if len(p.text) != impl.MaxRuleText {
			t.Fatal(len(p.text))
		}
		checkRead(t, p.text, p.want)
		checkCode(t, p.text+" ", impl.RuleLong)
		checkCode(t, " "+p.text, impl.RuleLong)
		checkCode(t, p.text+"\xff", impl.RuleLong)
		checkCode(t, "x"+p.text, impl.RuleLong)
		checkCode(t, p.text+p.text, impl.RuleLong)
	}
	checkCode(t, strings.Repeat("x", 300), impl.RuleWord)
	checkCode(t, strings.Repeat("x", 301), impl.RuleLong)
	checkCode(t, "< a"+strings.Repeat(" ", 297), impl.RuleReset)
	checkCode(t, "< a"+strings.Repeat(" ", 298), impl.RuleLong)
	checkCode(t, strings.Repeat("\xff", 300), impl.RuleWord)
	checkCode(t, strings.Repeat("\xff", 301), impl.RuleLong)
	checkCode(t, strings.Repeat("& a ", 1<<20), impl.RuleLong)
}

func TestWordsOfMoreThanMaxBytes(t *testing.T) {
	for _, n := range []int{5, 199, 200, 201, 202, 290} {
		for _, b := range []string{"a", "\xff", "\x00", "-"} {
			long := strings.Repeat(b, n)
			checkCode(t, long, impl.RuleWord)
			checkCode(t, "& "+long, impl.RuleWord)
			checkCode(t, "< "+long, impl.RuleWord)
			checkCode(t, "& a < "+long, impl.RuleWord)
			checkCode(t, "[levels "+long, impl.RuleWord)
		}
	}
	for _, r := range []string{"\u00e9", "\u1e69", "\uac01", "\u0301"} {
		checkCode(t, "& a < "+strings.Repeat(r, 66), impl.RuleWord)
		checkCode(t, "& "+strings.Repeat(r, 95), impl.RuleWord)
	}
}

func TestRulesOfAnyBytes(t *testing.T) {
	for b := range 256 {
		text := string([]byte{byte(b)})
		for _, front := range []string{"", "& ", "< ", "& a < ", "& a < q << ", "[levels ", "[levels 1] <<< "} {
			for _, s := range []string{front + text, front + text + text, front + text + " ", front + text + "a", front + text + " x", front + text + " & a"} {
				want, code := slowRead(s)
				if code == impl.RuleOk {
					checkRead(t, s, want)
				} else {
					checkCode(t, s, code)
				}
			}
		}
	}
}

// withMemory: rules whose lists have memory behind their length that would not be good.
func withMemory(l ...impl.Entry) (impl.Rules, []impl.Entry) {
	var memory []impl.Entry
	for _, x := range l {
		runes := append(slices.Clone(x.Runes), 0x338, -1, 'a')
		memory = append(memory, impl.Entry{Runes: runes[:len(x.Runes)], Elem: x.Elem})
	}
	memory = append(memory, impl.Entry{}, impl.Entry{Runes: []int{-1}, Elem: elem(-1, -1, -1)})
	return impl.Rules{Entries: memory[:len(l)], Levels: 3}, memory
}

// deepCopy also copies what lies behind the length of each list.
func deepCopy(l []impl.Entry) []impl.Entry {
	var c []impl.Entry
	for _, x := range l {
		c = append(c, impl.Entry{Runes: slices.Clone(x.Runes[:cap(x.Runes)]), Elem: x.Elem})
	}
	return c
}

func sameMemory(a, b []impl.Entry) bool {
	return slices.EqualFunc(a, b, func(x, y impl.Entry) bool {
		return slices.Equal(x.Runes, y.Runes) && x.Elem == y.Elem
	})
}

func TestRulesKeepToTheirArguments(t *testing.T) {
	ch, s, b := put(4401, 32, 2, 'c', 'h'), put(7601, 33, 3, 's', 0x323, 0x307), put(9001, 32, 2, 'b')
	for _, l := range [][]impl.Entry{nil, {ch}, {ch, s}, {s, b, ch}, entries(40), {ch, ch}, {put(1, 32, 2, 's', 0x307, 0x323)}, {entry(0xC5)}} {
		r, memory := withMemory(l...)
		before := deepCopy(memory)
		good := impl.GoodRules(r)
		if good != impl.GoodRules(joining(l...)) {
			t.Errorf("GoodRules(%v) = %v with memory behind", l, good)
		}
		for _, p := range [][]int{{'c', 'h'}, {'s', 0x323, 0x307}, {'s', 0x307, 0x323}, {'b'}, {'a'}, {'-'}, {0x4E00}, {0xC5}, {'c', 'h', 0x338}} {
			runes := append(slices.Clone(p), 0x301, -1, 'x')
			kept := slices.Clone(runes)
			e, ok := impl.ElemOf(r, runes[:len(p)])
			want, there := impl.ElemOf(joining(l...), p)
			if e != want || ok != there {
				t.Errorf("ElemOf(%v, %X) = %v %v with memory behind, asked for %v %v", l, p, e, ok, want, there)
			}
			if !slices.Equal(runes, kept) {
				t.Errorf("ElemOf wrote into its runes: %X, before %X", runes, kept)
			}
		}
		if !sameMemory(deepCopy(memory), before) {
			t.Errorf("the rules were written into: %v, before %v", memory, before)
		}
	}
}

// Each list of an answer is written over, also behind its length; nothing else may change by it.
func TestRulesAnswersAreNewMemory(t *testing.T) {
	for _, text := range []string{"& a < b << c <<< d", "& c < ch < chh << \u1e69 <<< \uac01 < \u00e5", "& a < ab < abc < abcd < q", "& z < \xff << \u00e9"} {
		want, _ := slowRead(text)
		for i := range want.Entries {
			r, _ := impl.ReadRules(text)
			spoil(r.Entries[i].Runes)
			for j, x := range r.Entries {
				if j != i && !slices.Equal(x.Runes, want.Entries[j].Runes) {
					t.Errorf("the Entries %d and %d of ReadRules(%q) share memory", i, j, text)
				}
			}
			spoilEntries(r.Entries)
			checkRead(t, text, want)
		}
	}
	for _, r := range []int{5, ' ', '0', 'a', 'Z', 0x301, 0xDF, 0x10FFFF} {
		l, _ := impl.BaseElems(r)
		l = l[:cap(l)]
		for i := range l {
			l[i] = elem(-7, -7, -7)
		}
		checkBase(t, r, slowElems(r), true)
	}
	p := impl.PlainRules()
	spoilEntries(p.Entries)
	if !sameRules(impl.PlainRules(), impl.Rules{Levels: 3}) {
		t.Error(impl.PlainRules())
	}
}

func spoilEntries(l []impl.Entry) {
	l = l[:cap(l)]
	for i := range l {
		l[i] = impl.Entry{Runes: []int{-7}, Elem: elem(-7, -7, -7)}
	}
}

// What is refused leaves nothing behind: the rules read next are as if it had not been.
func TestReadRulesKeepsNothing(t *testing.T) {
	for range 3 {
		checkCode(t, "[shifted] [levels 1] & a < b < b", impl.RuleTwice)
		checkCode(t, "< b", impl.RuleReset)
		checkRead(t, "& a < b", joining(put(4001, 32, 2, 'b')))
		checkRead(t, "", impl.PlainRules())
	}
}
