package tests

import (
	"math"
	"slices"
	"strconv"
	"strings"
	"testing"
	"unsafe"

	"loop.example/g00158/impl"
)

// refusedKeys fails unless all that take these rules and this text give the zero answer.
func refusedKeys(t *testing.T, r impl.Rules, s string) {
	t.Helper()
	if l, ok := impl.ElemsIn(r, s); ok || len(l) != 0 {
		t.Errorf("ElemsIn(%v, %q) = %v %v", r, s, l, ok)
	}
	if k, ok := impl.KeyOf(r, s); ok || k != "" {
		t.Errorf("KeyOf(%v, %q) = %x %v", r, s, k, ok)
	}
	if l, ok := impl.FirstsOf(r, s); ok || len(l) != 0 {
		t.Errorf("FirstsOf(%v, %q) = %v %v", r, s, l, ok)
	}
	for _, p := range [][2]string{{s, s}, {s, "a"}, {"a", s}, {s, ""}, {"", s}} {
		if n, ok := impl.CompareTexts(r, p[0], p[1]); ok || n != 0 {
			t.Errorf("CompareTexts(%v, %q, %q) = %v %v", r, p[0], p[1], n, ok)
		}
		if is, ok := impl.BeginsWith(r, p[0], p[1]); ok || is {
			t.Errorf("BeginsWith(%v, %q, %q) = %v %v", r, p[0], p[1], is, ok)
		}
	}
	for _, l := range [][]string{{s}, {s, "a"}, {"b", "a", s}} {
		refusedSort(t, r, l)
	}
}

func refusedSort(t *testing.T, r impl.Rules, l []string) {
	t.Helper()
	if got, ok := impl.SortTexts(r, l); ok || len(got) != 0 {
		t.Errorf("SortTexts(%v, %q) = %q %v", r, l, got, ok)
	}
}

func TestConstantsOfKeys(t *testing.T) {
	if impl.MaxKey != 3000 {
		t.Error(impl.MaxKey)
	}
}

// Each of these texts has exactly MaxBytes bytes; those that are taken apart have exactly MaxRunes runes.
func TestKeysOfExactlyMaxBytesAndOneMore(t *testing.T) {
	for _, s := range []string{
		strings.Repeat("a", 200),
		strings.Repeat("\xff", 200),
		strings.Repeat("\x00", 200),
		strings.Repeat("-", 200),
		strings.Repeat("\"", 200),
		strings.Repeat("\u0301", 100),
		strings.Repeat("\u00c0", 100),
		strings.Repeat("\u1ea4", 66) + "aa",
		strings.Repeat("\u1e69", 66) + "-a",
		strings.Repeat("\uac01", 66) + "\u00e9",
		strings.Repeat("\U0001f600", 50),
		strings.Repeat("\u0301\u0323", 50),
		strings.Repeat("a\u0323", 66) + "\u0301",
	} {
		if len(s) != impl.MaxBytes {
			t.Fatal(len(s))
		}
		runes, _ := impl.DecodeText(s)
		for _, r := range []impl.Rules{impl.PlainRules(), {Levels: 4, Shifted: true}, ranked([]int{'a', 'a', 'a'}, []int{'a', 0x301}, []int{'A', 0x302}, []int{'s', 0x307}, []int{0x323, 0x301}, []int{0x301})} {
			checkElems(t, r, s, slowElemsIn(r, runes))
			checkSpellings(t, r, runes)
			checkKey(t, r, s, slowKey(r, runes))
			checkFirsts(t, r, s, slowLevels(r, runes)[0])
			checkCompare(t, r, s, s, 0)
			checkBegins(t, r, s, s, true)
			checkSorted(t, r, []string{"", s}, []string{"", s})
			for _, more := range []string{s + "a", "a" + s, s + "\x00", s + "\xff", s + "\u0301", s + s} {
				refusedKeys(t, r, more)
			}
		}
	}
	for _, s := range []string{strings.Repeat("\u00c0", 100) + "a", strings.Repeat("\u1ea4", 67), strings.Repeat("\uac01", 67), strings.Repeat("a", 1<<20)} {
		refusedKeys(t, impl.PlainRules(), s)
	}
}

// No text has more elems than two a rune, and no key is longer than this one.
func TestTheLongestKeys(t *testing.T) {
	r := impl.Rules{Levels: 4}
	for _, s := range []string{strings.Repeat("\"", 200), strings.Repeat("\xff", 200)} {
		if l, ok := impl.ElemsIn(r, s); len(l) != 400 || !ok {
			t.Error(len(l), ok)
		}
		if k, ok := impl.KeyOf(r, s); len(k) != 2*(400+200+200+400)+6 || len(k) > impl.MaxKey || !ok {
			t.Error(len(k), ok)
		}
	}
	r.Entries = []impl.Entry{put(65535, 999, 99, '"')}
	if k, ok := impl.KeyOf(r, strings.Repeat("\"", 200)); k != strings.Repeat("\xff\xff", 200)+"\x00\x00"+strings.Repeat("\x03\xe7", 200)+"\x00\x00"+strings.Repeat("\x00\x63", 200)+"\x00\x00"+strings.Repeat("\xff\xff", 200) || !ok {
		t.Errorf("%x %v", k, ok)
	}
}

func TestKeysByRulesThatAreNotGood(t *testing.T) {
	bad := []impl.Rules{{}, {Shifted: true}}
	for _, p := range goodRuleRows {
		if !p.good {
			bad = append(bad, p.r)
		}
	}
	for _, n := range wrongNumbers {
		bad = append(bad, impl.Rules{Levels: n}, weighing(elem(n, 32, 2)), weighing(elem(4001, n, 2)), weighing(elem(4001, 32, n)))
	}
	for _, n := range wrongRunes {
		bad = append(bad, joining(entry(n)), joining(entry('a', n)))
	}
	bad = append(bad, joining(entries(100000)...), joining(make([]impl.Entry, 41)...))
	for _, r := range bad {
		for _, s := range []string{"", "a", "z\u0301", "\xff", strings.Repeat("a", 201)} {
			refusedKeys(t, r, s)
		}
		refusedSort(t, r, nil)
		refusedSort(t, r, []string{})
		if t.Failed() {
			return
		}
	}
}

func TestKeysByRulesOfEmptyLists(t *testing.T) {
	for _, l := range [][]impl.Entry{nil, {}, entries(1)[:0]} {
		r := impl.Rules{Entries: l, Levels: 3}
		checkElems(t, r, "", nil)
		checkElems(t, r, "a\u4e00", []impl.Elem{elem(4000, 32, 2), elem(60000, 32, 2), elem(32768+0x4E00, 0, 0)})
		checkKey(t, r, "", "\x00\x00\x00\x00")
		checkFirsts(t, r, "", nil)
		checkCompare(t, r, "", "", 0)
		checkBegins(t, r, "", "", true)
		for _, texts := range [][]string{nil, {}, []string{"a"}[:0]} {
			checkSorted(t, r, texts, nil)
		}
	}
}

func TestSortTextsOf60And61(t *testing.T) {
	var l, want []string
	for i := range 60 {
		l = append(l, strconv.Itoa((i*37)%60+100))
		want = append(want, strconv.Itoa(i+100))
	}
	checkSorted(t, impl.PlainRules(), l, want)
	checkSorted(t, impl.PlainRules(), l[:59], slices.DeleteFunc(slices.Clone(want), func(s string) bool { return s == l[59] }))
	refusedSort(t, impl.PlainRules(), append(l, "999"))
	refusedSort(t, impl.PlainRules(), append(l, l...))
	refusedSort(t, impl.PlainRules(), make([]string, 61))
	refusedSort(t, impl.PlainRules(), make([]string, 100000))
	checkSorted(t, impl.PlainRules(), make([]string, 60), make([]string, 60))

	// Sixty that are all the same in their key, each spelled in its own way, stay as they are.
	var same []string
	for i := range 60 {
		same = append(same, strings.Repeat("\x07", i*31%60)+"a")
	}
	checkSorted(t, impl.PlainRules(), same, same)
	long := slices.Repeat([]string{strings.Repeat("\u0301\u0338", 50)}, 60)
	checkSorted(t, joining(put(1, 32, 2, 0x338, 0x301)), long, long)
}

// One text that is none is enough, wherever it stands.
func TestSortTextsWithOneThatIsTooLong(t *testing.T) {
	for at := range 60 {
		l := slices.Repeat([]string{"a"}, 60)
		l[at] = strings.Repeat("a", 201)
		refusedSort(t, impl.PlainRules(), l)
		l[at] = l[at][:200]
		if got, ok := impl.SortTexts(impl.PlainRules(), l); !ok || len(got) != 60 || got[59] != l[at] {
			t.Errorf("with one of 200 bytes at %d: %q %v", at, got, ok)
		}
	}
}

func TestFourthOf1000ElemsAnd1001(t *testing.T) {
	for _, e := range []impl.Elem{{}, elem(4000, 32, 2), elem(0, 46, 2), varying(3, 32, 2)} {
		l := slices.Repeat([]impl.Elem{e}, 1000)
		fourths, counts := slowFourth(l)
		checkFourth(t, l, fourths, counts)
		l[0] = varying(7, 1, 1)
		fourths, counts = slowFourth(l)
		checkFourth(t, l, fourths, counts)
		for _, more := range [][]impl.Elem{append(l, e), append(l, l...), make([]impl.Elem, 1<<20)} {
			for _, shifted := range []bool{false, true} {
				if f, c, ok := impl.FourthOf(more, shifted); ok || len(f) != 0 || len(c) != 0 {
					t.Errorf("FourthOf of %d elems = %d %d %v", len(more), len(f), len(c), ok)
				}
			}
		}
	}
	for _, l := range [][]impl.Elem{nil, {}, []impl.Elem{varying(3, 32, 2)}[:0]} {
		checkFourth(t, l, nil, nil)
	}
}

func TestFourthOfGreatAndNegativeNumbers(t *testing.T) {
	for _, n := range append(slices.Clone(wrongNumbers), 1<<53+1, -1<<53-1, 1<<16, 1<<32, -1<<32, math.MinInt+1) {
		checkFourth(t, []impl.Elem{varying(n, n, n)}, []int{n}, []impl.Elem{{}})
		checkFourth(t, []impl.Elem{varying(n, 0, 0), elem(0, n, n)}, []int{n, 0}, []impl.Elem{{}, {}})
		checkFourth(t, []impl.Elem{varying(3, n, n), elem(n, 0, 0), elem(0, 46, 2)}, []int{3, 65535, 65535}, []impl.Elem{{}, elem(n, 0, 0), elem(0, 46, 2)})
		checkFourth(t, []impl.Elem{elem(n, 0, 0)}, []int{65535}, []impl.Elem{elem(n, 0, 0)})
		checkFourth(t, []impl.Elem{elem(0, n, 0)}, []int{65535}, []impl.Elem{elem(0, n, 0)})
		checkFourth(t, []impl.Elem{elem(0, 0, n)}, []int{65535}, []impl.Elem{elem(0, 0, n)})
		// The weights are not added up: together they would be 0.
		checkFourth(t, []impl.Elem{elem(n, -n, 0), elem(0, n, -n), elem(n, 0, -n)}, []int{65535, 65535, 65535}, []impl.Elem{elem(n, -n, 0), elem(0, n, -n), elem(n, 0, -n)})
	}
}

func TestKeysKeepToTheRules(t *testing.T) {
	ch, s, b := put(4401, 32, 2, 'c', 'h'), put(7601, 33, 3, 's', 0x307), put(9001, 32, 2, 'b')
	for _, l := range [][]impl.Entry{nil, {ch}, {ch, s}, {s, b, ch}, entries(40), {b, put(7, 32, 2, 'c', 'h', 0x301), ch}, {ch, ch}, {entry(0xC5)}} {
		r, memory := withMemory(l...)
		before := deepCopy(memory)
		plain := joining(l...)
		for _, text := range []string{"", "ch\u0323\u0301b", "\u1e69ch", "s\u0323\u0307\u0301", "\u4e00\u4e01", "cch", "c\u0338h\u0338", "\xff"} {
			elems, ok := impl.ElemsIn(r, text)
			want, good := impl.ElemsIn(plain, text)
			if !slices.Equal(elems, want) || ok != good {
				t.Errorf("ElemsIn(%v, %+q) = %v %v with memory behind, asked for %v %v", l, text, elems, ok, want, good)
			}
			one, _ := impl.KeyOf(r, text)
			two, _ := impl.KeyOf(plain, text)
			if one != two {
				t.Errorf("KeyOf(%v, %+q) = %x with memory behind, asked for %x", l, text, one, two)
			}
			firsts, _ := impl.FirstsOf(r, text)
			elems = elems[:cap(elems)]
			for i := range elems {
				elems[i] = varying(-7, -7, -7)
			}
			spoil(firsts)
			impl.CompareTexts(r, text, "ch")
			impl.BeginsWith(r, "ch", text)
			sorted, _ := impl.SortTexts(r, []string{text, "ch", "b"})
			clear(sorted)
			if again, _ := impl.ElemsIn(r, text); !slices.Equal(again, want) {
				t.Errorf("ElemsIn(%v, %+q) = %v the second time, before %v", l, text, again, want)
			}
		}
		if !sameMemory(deepCopy(memory), before) {
			t.Errorf("the rules were written into: %v, before %v", memory, before)
		}
	}
}

// What lies behind the length would count, or be refused.
func TestFourthOfKeepsToItsArgument(t *testing.T) {
	for _, shifted := range []bool{false, true} {
		for _, p := range fourthRows {
			memory := append(slices.Clone(p.l), varying(3, 32, 2), elem(0, 46, 2), elem(-1, -1, -1))
			before := slices.Clone(memory)
			part := memory[:len(p.l)]
			checkFourth(t, part, p.fourths, p.counts)
			fourths, counts, _ := impl.FourthOf(part, shifted)
			kept, keptToo, _ := impl.FourthOf(part, shifted)
			want, wantToo := slices.Clone(kept), slices.Clone(keptToo)
			spoil(fourths)
			counts = counts[:cap(counts)]
			for i := range counts {
				counts[i] = varying(-7, -7, -7)
			}
			if !slices.Equal(memory, before) {
				t.Errorf("%s: the elems were written into: %v, before %v", p.name, memory, before)
			}
			if !slices.Equal(kept, want) || !slices.Equal(keptToo, wantToo) {
				t.Errorf("%s: two answers share memory", p.name)
			}
		}
	}
}

// The text behind the length would be refused, and the others would change places if they were sorted where they are.
func TestSortTextsKeepsToItsArgument(t *testing.T) {
	for _, l := range [][]string{nil, {"b"}, {"b", "a"}, {"c", "b", "", "a\u0301", "a"}, {"a", "b", "c"}, {"a", strings.Repeat("a", 201), "A"}} {
		memory := append(slices.Clone(l), strings.Repeat("a", 201), "")
		before := slices.Clone(memory)
		part := memory[:len(l)]
		got, ok := impl.SortTexts(impl.PlainRules(), part)
		want, good := impl.SortTexts(impl.PlainRules(), slices.Clone(l))
		if !slices.Equal(got, want) || ok != good {
			t.Errorf("SortTexts(%q) = %q %v with memory behind, asked for %q %v", l, got, ok, want, good)
		}
		got = got[:cap(got)]
		for i := range got {
			got[i] = "written over"
		}
		if !slices.Equal(memory, before) {
			t.Errorf("the texts were written into: %q, before %q", memory, before)
		}
	}
}

func TestSortedTextsAreNewMemory(t *testing.T) {
	l := []string{strings.Repeat("b", 50), strings.Repeat("a", 50), "c"}
	got, ok := impl.SortTexts(impl.PlainRules(), l)
	if !ok || len(got) != 3 {
		t.Fatal(got, ok)
	}
	for _, s := range l {
		for _, c := range got {
			if unsafe.StringData(s) == unsafe.StringData(c) {
				t.Errorf("%q is handed out as it came in", c)
			}
		}
	}
}

// What was asked ahead has no part in an answer.
func TestKeysKeepNothing(t *testing.T) {
	first, second := joining(put(4401, 32, 2, 'c', 'h')), joining(put(1, 32, 2, 'c', 'h'))
	for range 3 {
		checkFirsts(t, first, "ch", []int{4401})
		refusedKeys(t, impl.Rules{}, "ch")
		checkFirsts(t, second, "ch", []int{1})
		refusedKeys(t, first, strings.Repeat("ch", 101))
		checkFirsts(t, impl.PlainRules(), "ch", []int{4400, 5400})
	}
}
