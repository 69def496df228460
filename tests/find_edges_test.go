package tests

import (
	"slices"
	"strings"
	"testing"
	"unsafe"

	"loop.example/g00158/impl"
)

func refusedCuts(t *testing.T, s string) {
	t.Helper()
	if l, ok := impl.CutsOf(s); ok || len(l) != 0 {
		t.Errorf("CutsOf(%q) = %v %v", s, l, ok)
	}
}

// refusedFind fails unless all that take these rules and this text give the zero answer, wherever the text stands.
func refusedFind(t *testing.T, r impl.Rules, s string) {
	t.Helper()
	for _, p := range [][2]string{{s, s}, {s, "a"}, {"a", s}, {s, ""}, {"", s}} {
		for _, q := range [][2]int{{0, 1}, {0, len(p[0])}, {0, 200}, {0, 0}, {1, 0}, {-1, 7}} {
			checkMatch(t, r, p[0], q[0], q[1], p[1], false, false)
		}
		if l, ok := impl.FindText(r, p[0], p[1]); ok || len(l) != 0 {
			t.Errorf("FindText(%v, %q, %q) = %v %v", r, p[0], p[1], l, ok)
		}
		if n, ok := impl.CommonStart(r, p[0], p[1]); ok || n != 0 {
			t.Errorf("CommonStart(%v, %q, %q) = %v %v", r, p[0], p[1], n, ok)
		}
	}
	for _, l := range [][]string{{s}, {s, "a"}, {"b", "a", s}, {s, s}} {
		refusedGroups(t, r, l)
	}
}

func refusedGroups(t *testing.T, r impl.Rules, l []string) {
	t.Helper()
	if got, ok := impl.GroupTexts(r, l); ok || len(got) != 0 {
		t.Errorf("GroupTexts(%v, %q) = %q %v", r, l, got, ok)
	}
}

// Each of these texts has exactly MaxBytes bytes; those that are taken apart have exactly MaxRunes runes.
func TestFindInExactlyMaxBytesAndOneMore(t *testing.T) {
	for _, s := range []string{
		strings.Repeat("a", 200),
		strings.Repeat("\xff", 200),
		strings.Repeat("\"", 200),
		strings.Repeat("-", 200),
		strings.Repeat("\u00c0", 100),
		strings.Repeat("\u1ea4", 66) + "aa",
		strings.Repeat("\u1e69", 66) + "-a",
		strings.Repeat("\uac01", 66) + "\u00e9",
		strings.Repeat("\U0001f600", 50),
		strings.Repeat("\u0301\u0323", 49) + "aaaa",
		strings.Repeat("a\u0323", 66) + "\u0301",
	} {
		if len(s) != impl.MaxBytes {
			t.Fatal(len(s))
		}
		checkCuts(t, s, slowCuts(s)...)
		for _, r := range []impl.Rules{impl.PlainRules(), {Levels: 4}, ranked([]int{'a', 'a', 'a'}, []int{'a', 0x301}, []int{'A', 0x302}, []int{'s', 0x307}, []int{0x323, 0x301}, []int{0x301})} {
			checkMatch(t, r, s, 0, 200, s, true, true)
			checkMatch(t, r, s, 0, 201, s, false, true)
			checkFind(t, r, s, s, spans{{0, 200}})
			checkFind(t, r, "", s, nil)
			checkFind(t, r, s, "", nil)
			firsts, _ := impl.FirstsOf(r, s)
			checkCommon(t, r, s, s, len(firsts))
			checkCommon(t, r, s, "", 0)
			checkGroups(t, r, []string{s, "", s}, [][]string{{""}, {s, s}})
			for _, more := range []string{s + "a", "a" + s, s + "\x00", s + "\xff", s + "\u0301", s + s} {
				refusedCuts(t, more)
				refusedFind(t, r, more)
			}
		}
	}
	for _, s := range []string{strings.Repeat("\u00c0", 100) + "a", strings.Repeat("\u1ea4", 67), strings.Repeat("\uac01", 67), strings.Repeat("a", 1<<20)} {
		refusedCuts(t, s)
		refusedFind(t, impl.PlainRules(), s)
	}
}

// Nothing matches though it seems so for long, at each of the cuts; and all in one span.
func TestFindInTheLongestTexts(t *testing.T) {
	long := strings.Repeat("a", 200)
	for _, r := range []impl.Rules{impl.PlainRules(), joining(entries(40)...), ranked([]int{'a', 'a'}, []int{'a', 'a', 'a', 'b'})} {
		checkFind(t, r, long, strings.Repeat("a", 99)+"b", nil)
		checkFind(t, r, long, strings.Repeat("a", 199)+"b", nil)
		checkFind(t, r, "\x07"+long[1:], strings.Repeat("a", 100)+"c", nil)
	}
	checkFind(t, impl.PlainRules(), strings.Repeat("\x07", 199)+"a", "a", spans{{0, 200}})
	checkFind(t, impl.PlainRules(), "a"+strings.Repeat("\x07", 198)+"b", "ab", spans{{0, 200}})
	checkFind(t, impl.PlainRules(), strings.Repeat("\x07", 200), "a", nil)
	checkFind(t, impl.Rules{Levels: 4, Shifted: true}, strings.Repeat("-", 199)+"a", "a", spans{{0, 200}})
	checkFind(t, impl.PlainRules(), long[:198]+"\u00c9", "e", spans{{198, 200}})
	checkFind(t, impl.PlainRules(), strings.Repeat("\u0301", 99)+"ab", "ab", spans{{0, 200}})
}

func TestFindByRulesThatAreNotGood(t *testing.T) {
	bad := []impl.Rules{{}, {Shifted: true}}
	for _, p := range goodRuleRows {
		if !p.good {
			bad = append(bad, p.r)
		}
	}
	for _, n := range wrongNumbers {
		bad = append(bad, impl.Rules{Levels: n}, weighing(elem(n, 32, 2)), weighing(elem(4001, n, 2)), weighing(elem(4001, 32, n)))
	}
	for _, n := range wrongRunes {
		bad = append(bad, joining(entry(n)), joining(entry('a', n)))
	}
	bad = append(bad, joining(entries(100000)...), joining(make([]impl.Entry, 41)...))
	for _, r := range bad {
		for _, s := range []string{"", "a", "z\u0301", "\xff", strings.Repeat("a", 201)} {
			refusedFind(t, r, s)
		}
		refusedGroups(t, r, nil)
		refusedGroups(t, r, []string{})
		refusedGroups(t, r, make([]string, 61))
		if t.Failed() {
			return
		}
	}
}

func TestFindByRulesOfEmptyLists(t *testing.T) {
	for _, l := range [][]impl.Entry{nil, {}, entries(1)[:0]} {
		r := impl.Rules{Entries: l, Levels: 3}
		checkFind(t, r, "a\u4e00a", "\u4e00", spans{{1, 4}})
		checkMatch(t, r, "a\u4e00", 1, 4, "\u4e00", true, true)
		checkCommon(t, r, "a\u4e00", "a\u4e00", 3)
		for _, texts := range [][]string{nil, {}, []string{"a"}[:0]} {
			checkGroups(t, r, texts, nil)
		}
	}
}

// One text that is none is enough, wherever it stands.
func TestGroupTextsWithOneThatIsTooLong(t *testing.T) {
	for _, at := range []int{0, 1, 30, 58, 59} {
		l := slices.Repeat([]string{"a"}, 60)
		l[at] = strings.Repeat("a", 201)
		refusedGroups(t, impl.PlainRules(), l)
		l[at] = l[at][:200]
		checkGroups(t, impl.PlainRules(), l, [][]string{slices.Repeat([]string{"a"}, 59), {l[at]}})
	}
}

func TestFindKeepsToTheRules(t *testing.T) {
	ch, s, b := put(4401, 32, 2, 'c', 'h'), put(7601, 33, 3, 's', 0x307), put(9001, 32, 2, 'b')
	texts := []string{"", "ch\u0323\u0301b", "\u1e69ch", "s\u0323\u0307\u0301", "\u4e00\u4e01", "cch", "c\u0338h\u0338", "\xff"}
	for _, l := range [][]impl.Entry{nil, {ch}, {ch, s}, {s, b, ch}, entries(40), {b, put(7, 32, 2, 'c', 'h', 0x301), ch}, {ch, ch}, {entry(0xC5)}} {
		r, memory := withMemory(l...)
		before := deepCopy(memory)
		plain := joining(l...)
		for _, text := range texts {
			for _, told := range []string{"ch", "b", text, "s\u0307", "\u4e01"} {
				found, ok := impl.FindText(r, text, told)
				want, good := impl.FindText(plain, text, told)
				if !slices.Equal(found, want) || ok != good {
					t.Errorf("FindText(%v, %+q, %+q) = %v %v with memory behind, asked for %v %v", l, text, told, found, ok, want, good)
				}
				is, ok := impl.MatchSpan(r, text, impl.Span{From: 0, To: len(text)}, told)
				if does, good := impl.MatchSpan(plain, text, impl.Span{From: 0, To: len(text)}, told); is != does || ok != good {
					t.Errorf("MatchSpan(%v, %+q, %+q) = %v %v with memory behind, asked for %v %v", l, text, told, is, ok, does, good)
				}
				n, _ := impl.CommonStart(r, text, told)
				if m, _ := impl.CommonStart(plain, text, told); n != m {
					t.Errorf("CommonStart(%v, %+q, %+q) = %d with memory behind, asked for %d", l, text, told, n, m)
				}
			}
		}
		groups, ok := impl.GroupTexts(r, texts)
		if want, good := impl.GroupTexts(plain, texts); !sameGroups(groups, want) || ok != good {
			t.Errorf("GroupTexts(%v) = %+q %v with memory behind, asked for %+q %v", l, groups, ok, want, good)
		}
		if !sameMemory(deepCopy(memory), before) {
			t.Errorf("the rules were written into: %v, before %v", memory, before)
		}
	}
}

// The texts behind the length would be refused, and the others would change places if they were sorted where they are.
func TestGroupTextsKeepsToItsArgument(t *testing.T) {
	for _, l := range [][]string{nil, {"b"}, {"b", "a"}, {"c", "b", "", "a\u0301", "a", "\u00e1"}, {"a", "b", "c"}, {"a", strings.Repeat("a", 201), "A"}} {
		memory := append(slices.Clone(l), strings.Repeat("a", 201), "")
		before := slices.Clone(memory)
		got, ok := impl.GroupTexts(impl.PlainRules(), memory[:len(l)])
		want, good := impl.GroupTexts(impl.PlainRules(), slices.Clone(l))
		if !sameGroups(got, want) || ok != good {
			t.Errorf("GroupTexts(%q) = %q %v with memory behind, asked for %q %v", l, got, ok, want, good)
		}
		for _, g := range got {
			spoilTexts(g)
		}
		clear(got[:cap(got)])
		if !slices.Equal(memory, before) {
			t.Errorf("the texts were written into: %q, before %q", memory, before)
		}
	}
}

func spoilTexts(l []string) {
	l = l[:cap(l)]
	for i := range l {
		l[i] = "written over"
	}
}

// Each list of an answer is written over, also behind its length; no other list may change by it.
func TestGroupsShareNoMemory(t *testing.T) {
	l := []string{"b", "a", "\u00e9", "c", "e\u0301", "a\x07", "d", "a", "f", "e\u0301\x00", "c", "c", "c", "c"}
	want, ok := impl.GroupTexts(impl.PlainRules(), l)
	if !ok || len(want) != 6 {
		t.Fatal(want, ok)
	}
	for i := range want {
		got, _ := impl.GroupTexts(impl.PlainRules(), l)
		spoilTexts(got[i])
		for j, g := range got {
			if j != i && !slices.Equal(g, want[j]) {
				t.Errorf("the lists %d and %d share memory: %q, before %q", i, j, g, want[j])
			}
		}
	}
}

func TestGroupedTextsAreNewMemory(t *testing.T) {
	l := []string{strings.Repeat("b", 50), strings.Repeat("a", 50), "c", strings.Repeat("b", 50) + "\x07"}
	got, ok := impl.GroupTexts(impl.PlainRules(), l)
	if !ok || len(got) != 3 {
		t.Fatal(got, ok)
	}
	for _, s := range l {
		for _, c := range slices.Concat(got...) {
			if unsafe.StringData(s) == unsafe.StringData(c) {
				t.Errorf("%q is handed out as it came in", c)
			}
		}
	}
}

// What was asked ahead, also what was written into its answer, has no part in an answer.
func TestFindKeepsNothing(t *testing.T) {
	first, second := joining(put(4401, 32, 2, 'c', 'h')), joining(put(8600, 32, 2, 'c', 'h'))
	for range 3 {
		cuts, _ := impl.CutsOf("cha\u0301")
		spoil(cuts)
		checkCuts(t, "cha\u0301", 0, 1, 2, 5)
		found, _ := impl.FindText(first, "xchx", "x")
		found = found[:cap(found)]
		for i := range found {
			found[i] = impl.Span{From: -7, To: -7}
		}
		checkFind(t, first, "xchx", "x", spans{{0, 1}, {3, 4}})
		refusedFind(t, impl.Rules{}, "xchx")
		checkFind(t, second, "xchx", "x", spans{{0, 1}, {1, 3}, {3, 4}})
		refusedFind(t, first, strings.Repeat("ch", 101))
		checkFind(t, impl.PlainRules(), "xchx", "ch", spans{{1, 3}})
	}
}
