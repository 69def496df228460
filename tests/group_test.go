package tests

import (
	"slices"
	"strconv"
	"strings"
	"testing"

	"loop.example/g00158/impl"
)

func checkCommon(t *testing.T, r impl.Rules, a, b string, want int) {
	t.Helper()
	for _, p := range [][2]string{{a, b}, {b, a}} {
		if n, ok := impl.CommonStart(r, p[0], p[1]); n != want || !ok {
			t.Errorf("CommonStart(%v, %+q, %+q) = %d %v, asked for %d", r, p[0], p[1], n, ok, want)
		}
	}
}

func TestCommonStartByHand(t *testing.T) {
	for _, p := range []struct {
		rules, a, b string
		want        int
	}{
		{"", "", "", 0},
		{"", "", "a", 0},
		{"", "a", "a", 1},
		{"", "a", "b", 0},
		{"", "abc", "abc", 3},
		{"", "abc", "ABd", 2},
		{"", "abc", "abd", 2},
		{"", "abc", "xbc", 0},
		{"", "abc", "axc", 1},
		{"", "abc", "ab", 2},
		{"", "abc", "abcdef", 3},
		{"", "aaa", "aaaa", 3},
		{"", "e\u0301x", "\u00e9y", 1},
		{"", "e\u0301xz", "\u00c9Xz", 3},
		{"", "\u1e69x", "s\u0307\u0323x", 2},
		{"", "s\u0301x", "sx", 2},
		{"", "a\x07b", "ab\x07", 2},
		{"", "\u0301a", "a", 1},
		{"", "\u0301", "\u0301", 0},
		{"", "\u0301", "\x07", 0},
		{"", "\x07\u0301", "abc", 0},
		{"", "a-b", "ab", 1},
		{"", "a-b", "a-c", 2},
		{"", "a-b", "a,b", 1},
		{"[shifted]", "a-b", "ab", 2},
		{"[shifted]", "a-b", "a,b.", 2},
		{"[shifted]", "-", "-", 0},
		{"[shifted]", "- ab", "a.bc", 2},
		{"", "\"", "\"", 2},
		{"", "\"", "#", 1},
		{"", "a\u4e00b", "a\u4e00c", 3},
		{"", "a\u4e00", "a\u4e01", 2},
		{"", "\u7fff", "\u8000", 0},
		{"", "\uac01", "\uac02", 5},
		{"", "\uac01", "\u1100\u1161\u11a8", 6},
		{"", "\xffa", "\ufffdb", 2},
		{"", "\xe2\x82a", "\xffa", 3},
		{"& c < ch", "ch", "c", 0},
		{"& c < ch", "ach", "acz", 1},
		{"& c < ch", "chx", "chy", 1},
		{"& c << ch", "ch", "cx", 1},
		{"& q << ab", "abx", "qxy", 2},
		{"& q << a\u0301", "a\u0323\u0301x", "qx", 2},
		{"& q << a\u0301", "a\u0323\u0301x", "a\u0323x", 0},
	} {
		r := rulesOf(t, p.rules)
		for r.Levels = 1; r.Levels <= 4; r.Levels++ {
			checkCommon(t, r, p.a, p.b, p.want)
		}
	}
	for _, p := range []struct {
		once  string
		n, is int
	}{{"a", 200, 200}, {"\"", 200, 400}, {"\xff", 200, 400}, {"\u00e9", 100, 100}, {"\x07", 200, 0}} {
		whole := strings.Repeat(p.once, p.n)
		checkCommon(t, impl.PlainRules(), whole, whole, p.is)
		checkCommon(t, impl.PlainRules(), whole, whole[:len(whole)/2], p.is/2)
	}
}

func TestCommonStartOfManyTexts(t *testing.T) {
	for seed := uint32(1); seed <= 400; seed++ {
		next := numbers(seed)
		r := manyRules(seed, someRunes)
		if seed%2 == 0 {
			r = closeRules(seed, someRunes)
		}
		a, b := manyRunes(next, someRunes, 20), manyRunes(next, someRunes, 20)
		if seed%3 != 0 {
			b = slices.Concat(a[:next(len(a)+1)], b[:min(len(b), 3)])
		}
		firsts, others := slowLevels(r, a)[0], slowLevels(r, b)[0]
		want := 0
		for want < len(firsts) && want < len(others) && firsts[want] == others[want] {
			want++
		}
		for _, u := range spellings(a) {
			checkCommon(t, r, plainUTF8(u), plainUTF8(b), want)
			checkBegins(t, r, plainUTF8(u), plainUTF8(b), want == len(others))
			checkCommon(t, r, plainUTF8(u), plainUTF8(a), len(firsts))
		}
		if t.Failed() {
			return
		}
	}
}

func checkGroups(t *testing.T, r impl.Rules, l []string, want [][]string) {
	t.Helper()
	if got, ok := impl.GroupTexts(r, l); !ok || !sameGroups(got, want) {
		t.Errorf("GroupTexts(%v, %+q) = %+q %v, asked for %+q", r, l, got, ok, want)
	}
}

func sameGroups(a, b [][]string) bool {
	return slices.EqualFunc(a, b, func(x, y []string) bool { return slices.Equal(x, y) })
}

func TestGroupTextsInTheOrderOfReaders(t *testing.T) {
	for _, p := range orderRows {
		r := rulesOf(t, p.rules)
		var rising, turned []string
		for _, line := range p.lines {
			rising = append(rising, line...)
			turned = append(slices.Clone(line), turned...)
		}
		checkGroups(t, r, rising, p.lines)
		checkGroups(t, r, turned, p.lines)
	}
}

func TestGroupTextsByHand(t *testing.T) {
	for _, p := range []struct {
		rules string
		l     []string
		want  [][]string
	}{
		{"", nil, nil},
		{"", []string{""}, [][]string{{""}}},
		{"", []string{"", "", ""}, [][]string{{"", "", ""}}},
		{"", []string{"b"}, [][]string{{"b"}}},
		{"", []string{"b", "a"}, [][]string{{"a"}, {"b"}}},
		{"", []string{"b", "\u00e9", "e\u0301"}, [][]string{{"b"}, {"\u00e9", "e\u0301"}}},
		{"", []string{"e\u0301", "b", "\u00e9"}, [][]string{{"b"}, {"e\u0301", "\u00e9"}}},
		{"", []string{"a", "b", "a", "b", "a"}, [][]string{{"a", "a", "a"}, {"b", "b"}}},
		{"", []string{"a", "", "\x07", "b\x00", "b"}, [][]string{{"", "\x07"}, {"a"}, {"b\x00", "b"}}},
		// The same by one level, and no more by the next one.
		{"[levels 1]", []string{"\u00e1", "b", "A", "a", "\u00c1", "a\x07"}, [][]string{{"\u00e1", "A", "a", "\u00c1", "a\x07"}, {"b"}}},
		{"[levels 2]", []string{"\u00e1", "b", "A", "a", "\u00c1", "a\x07"}, [][]string{{"A", "a", "a\x07"}, {"\u00e1", "\u00c1"}, {"b"}}},
		{"[levels 3]", []string{"\u00e1", "b", "A", "a", "\u00c1", "a\x07"}, [][]string{{"a", "a\x07"}, {"A"}, {"\u00e1"}, {"\u00c1"}, {"b"}}},
		{"[levels 4]", []string{"\u00e1", "b", "A", "a", "\u00c1", "a\x07"}, [][]string{{"a", "a\x07"}, {"A"}, {"\u00e1"}, {"\u00c1"}, {"b"}}},
		{"[shifted] [levels 3]", []string{"a-b", "ab", "aB", "a b", "a-b"}, [][]string{{"a-b", "ab", "a b", "a-b"}, {"aB"}}},
		{"[shifted] [levels 4]", []string{"a-b", "ab", "aB", "a b", "a-b"}, [][]string{{"a b"}, {"a-b", "a-b"}, {"ab"}, {"aB"}}},
		{"[levels 1] & q << ab", []string{"qx", "abx", "a", "q"}, [][]string{{"a"}, {"q"}, {"qx", "abx"}}},
		{"", []string{"\xff", "\ufffd", "\xe2\x82", "\xff\xff"}, [][]string{{"\xff", "\ufffd", "\xe2\x82"}, {"\xff\xff"}}},
	} {
		checkGroups(t, rulesOf(t, p.rules), p.l, p.want)
	}
}

func TestGroupTextsOf60And61(t *testing.T) {
	var all []string
	var each [][]string
	for i := range 60 {
		all = append(all, strconv.Itoa((i*37)%60+100))
		each = append(each, []string{strconv.Itoa(i + 100)})
	}
	checkGroups(t, impl.PlainRules(), all, each)
	refusedGroups(t, impl.PlainRules(), append(all, "999"))
	refusedGroups(t, impl.PlainRules(), append(all, all...))
	refusedGroups(t, impl.PlainRules(), make([]string, 61))
	refusedGroups(t, impl.PlainRules(), make([]string, 100000))
	checkGroups(t, impl.PlainRules(), make([]string, 60), [][]string{make([]string, 60)})

	// All the same in their key, each spelled in its own way, stay in order.
	var same []string
	for i := range 60 {
		same = append(same, strings.Repeat("\x07", i*31%60)+"a")
	}
	for n := 1; n <= 4; n++ {
		checkGroups(t, impl.Rules{Levels: n}, same, [][]string{same})
		refusedGroups(t, impl.Rules{Levels: n}, append(same, "a"))
	}
}

// The lists one behind the other are the sorted texts; in a list all are the same, and two lists are not.
func TestGroupTextsOfManyLists(t *testing.T) {
	together := 0
	for seed := uint32(1); seed <= 100; seed++ {
		next := numbers(seed)
		runes := []int{'a', 'A', 0xE1, '-', 0x301, 7}
		r := manyRules(seed, runes)
		if seed%2 == 0 {
			r = impl.Rules{Levels: 1 + next(4), Shifted: next(2) == 0}
		}
		var l []string
		for range next(61) {
			l = append(l, plainUTF8(manyRunes(next, runes, 3)))
		}
		groups, ok := impl.GroupTexts(r, l)
		sorted, _ := impl.SortTexts(r, l)
		if !ok || !slices.Equal(slices.Concat(groups...), sorted) {
			t.Fatalf("GroupTexts(%v, %+q) = %+q %v", r, l, groups, ok)
		}
		for i, g := range groups {
			if len(g) == 0 {
				t.Fatalf("GroupTexts(%v, %+q) = %+q: one is empty", r, l, groups)
			}
			together += len(g) - 1
			for _, s := range g {
				checkCompare(t, r, g[0], s, 0)
				if i > 0 {
					checkCompare(t, r, groups[i-1][0], s, -1)
				}
			}
		}
		if t.Failed() {
			return
		}
	}
	if together < 100 {
		t.Errorf("only %d are together with another", together)
	}
}
