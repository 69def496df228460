package tests

import (
	"slices"
	"strings"
	"testing"

	"loop.example/g00158/impl"
)

func checkGet(t *testing.T, d impl.Disk, text string, want impl.Row) {
	t.Helper()
	if x, code := impl.GetText(d, text); x != want || code != impl.IndexOk {
		t.Errorf("GetText(%#v, %#v) = %#v %d, asked for %#v", d, text, x, code, want)
	}
}

func refusedGet(t *testing.T, d impl.Disk, text string, want int) {
	t.Helper()
	if x, code := impl.GetText(d, text); x != (impl.Row{}) || code != want {
		t.Errorf("GetText(%#v, %#v) = %#v %d, asked for %d", d, text, x, code, want)
	}
}

func checkRange(t *testing.T, d impl.Disk, lo, hi string, want []impl.Row) {
	t.Helper()
	if l, ok := impl.RangeTexts(d, lo, hi); !ok || !slices.Equal(l, want) {
		t.Errorf("RangeTexts(%#v, %#v, %#v) = %#v %v, asked for %#v", d, lo, hi, l, ok, want)
	}
}

func checkPrefix(t *testing.T, d impl.Disk, text string, want []impl.Row) {
	t.Helper()
	if l, ok := impl.PrefixTexts(d, text); !ok || !slices.Equal(l, want) {
		t.Errorf("PrefixTexts(%#v, %#v) = %#v %v, asked for %#v", d, text, l, ok, want)
	}
}

func TestGetTextByHand(t *testing.T) {
	d := someDisk(t)
	checkGet(t, d, "a", row(key(t, "0FA0|0020|0002"), "a", "1"))
	checkGet(t, d, "ch", row(key(t, "1131|0020|0002"), "ch", "3"))
	checkGet(t, d, "c\x07z", row(key(t, "1130 2328|0020 0020|0002 0002"), "cz", "4"))
	checkGet(t, d, "x\x00", row(key(t, "2198|0020|0002"), "x", "6"))
	for _, s := range []string{"", "b", "c", "A", "CH", "c\x07h", "cy", "e", "zz", "\u00e1", "\xff"} {
		refusedGet(t, d, s, impl.IndexNone)
	}
	refusedGet(t, impl.Disk{}, "", impl.IndexNone)
	refusedGet(t, impl.Disk{}, "a", impl.IndexNone)
	checkGet(t, logged("", "put =v"), "", row(key(t, "||"), "", "v"))
	checkGet(t, logged("", "put =v"), strings.Repeat("\x01", 60), row(key(t, "||"), "", "v"))
	refusedGet(t, logged("", "put =v"), strings.Repeat("\x01", 61), impl.IndexLong)
	refusedGet(t, logged("", "put a=1", "drop a"), "a", impl.IndexNone)
}

func TestGetTextBySpellings(t *testing.T) {
	r := rulesOf(t, "[levels 4] & c < ch <<< Ch")
	forAllLists([]int{'A', 's', 'c', 'h', '-', 0x301, 0x307, 0x323, 0x1E69, 0x212B, 0xAC01}, 3, func(l []int) {
		all := spellings(l)
		for _, s := range all {
			d := impl.Disk{Rules: "[levels 4] & c < ch <<< Ch", Log: logOf(impl.Do{Kind: impl.DoPut, Text: plainUTF8(s), Value: "v"}, impl.Do{Kind: impl.DoPut, Text: "other"})}
			for _, other := range all {
				checkGet(t, d, plainUTF8(other), row(slowKey(r, l), plainUTF8(s), "v"))
			}
		}
	})
}

func TestGetTextThatIsLong(t *testing.T) {
	rules := "[levels 1]"
	for _, n := range []int{59, 60, 61, 62, 80, 200, 201, 1 << 16} {
		s := strings.Repeat("a", n)
		if n > 60 {
			refusedGet(t, impl.Disk{Rules: rules}, s, impl.IndexLong)
			continue
		}
		refusedGet(t, impl.Disk{Rules: rules}, s, impl.IndexNone)
		checkGet(t, logged(rules, "put "+s+"=1"), strings.ToUpper(s), keyed(t, rules, s+"=1")[0])
	}
	// A row of a page whose Text is longer than may be asked for, told by a shorter spelling.
	l := keyed(t, "", "a"+strings.Repeat("\x01", 60)+"=1")
	d := impl.Disk{Pages: pagesOf(t, l)}
	refusedGet(t, d, l[0].Text, impl.IndexLong)
	checkGet(t, d, "a", l[0])
	for _, p := range longKeys {
		d := logged(p.rules, "put "+p.fits+"=1")
		checkGet(t, d, p.fits, keyed(t, p.rules, p.fits+"=1")[0])
		refusedGet(t, impl.Disk{Rules: p.rules}, p.fits, impl.IndexNone)
		for _, s := range p.more {
			refusedGet(t, d, s, impl.IndexLong)
		}
	}
}

func TestRangeTextsByHand(t *testing.T) {
	d := someDisk(t)
	// In the order of the rules: a, cz, ch, d, x.
	l := keyed(t, d.Rules, "a=1", "cz=4", "ch=3", "d=5", "x=6")
	for _, p := range []struct {
		lo, hi   string
		from, to int
	}{
		{"", "zz", 0, 5}, {"a", "zz", 0, 5}, {"a", "x", 0, 4}, {"a", "x\u0301", 0, 5}, {"a", "X", 0, 5},
		{"a", "d", 0, 3}, {"a", "ch", 0, 2}, {"a", "cz", 0, 1}, {"ch", "d", 2, 3}, {"cz", "ch", 1, 2}, {"c", "d", 1, 3}, {"cy", "czz", 1, 2},
		{"b", "c", 1, 1}, {"b", "cz", 1, 1}, {"b", "cz\u0301", 1, 2}, {"e", "f", 4, 4}, {"y", "z", 5, 5}, {"A", "b", 1, 1}, {"a\x07", "b", 0, 1},
		{"a", "a", 0, 0}, {"a", "a\x07", 0, 0}, {"", "", 0, 0}, {"ch", "ch", 0, 0},
		{"ch", "cz", 0, 0}, {"x", "a", 0, 0}, {"zz", "", 0, 0}, {"a\u0301", "a", 0, 0},
		{"\xff", "\u4e00", 0, 0}, {"", "\xff", 0, 5},
	} {
		checkRange(t, d, p.lo, p.hi, l[p.from:p.to])
	}
	checkRange(t, impl.Disk{}, "", "zz", nil)
	checkRange(t, impl.Disk{}, "", "", nil)
	// Without the rules ch stands ahead of cz.
	d = logged("", "put cz=4", "put ch=3")
	checkRange(t, d, "ch", "cz", keyed(t, "", "ch=3"))
	checkRange(t, d, "cz", "ch", nil)
	checkRange(t, logged("", "put =v", "put a"), "", "a", keyed(t, "", "=v"))
	checkRange(t, logged("& z < \u00e5", "put \u00e5=1", "put a=2", "put z=3"), "z", "zz", keyed(t, "& z < \u00e5", "z=3"))
	checkRange(t, logged("& z < \u00e5", "put \u00e5=1", "put a=2", "put z=3"), "zz", "\u4e00", keyed(t, "& z < \u00e5", "\u00e5=1"))
}

func TestRangeAndPrefixThatAreLong(t *testing.T) {
	for _, rules := range []string{"", "[levels 1]", "[levels 4]"} {
		d := logged(rules, "put a=1", "put aa=2", "put b=3")
		l := keyed(t, rules, "a=1", "aa=2", "b=3")
		for _, n := range []int{59, 60, 61, 62, 200, 201, 1 << 16} {
			s := strings.Repeat("a", n)
			low := strings.Repeat("\x01", n)
			if n > 60 {
				refusedRange(t, d, s, "z")
				refusedRange(t, d, "", s)
				refusedRange(t, d, s, s)
				refusedRange(t, d, low, "z")
				refusedRange(t, d, "", low)
				refusedPrefix(t, d, s)
				refusedPrefix(t, d, low)
				continue
			}
			// Keys longer than a row may have are held against the rows' all the same.
			checkRange(t, d, s, "z", l[2:])
			checkRange(t, d, "", s, l[:2])
			checkRange(t, d, s, s, nil)
			checkRange(t, d, low, "z", l)
			checkPrefix(t, d, s, nil)
			checkPrefix(t, d, low, l)
		}
		for _, p := range longKeys {
			for _, s := range p.more {
				if _, ok := impl.RangeTexts(d, s, s); !ok {
					t.Errorf("RangeTexts of %#v is refused", s)
				}
			}
		}
	}
}

func TestPrefixTextsByHand(t *testing.T) {
	rules := "& c < ch"
	told := []string{"put cab=1", "put Ca=2", "put ch=3", "put cha=4", "put c=5", "put \u00e7a=6", "put d=7", "put c-a=8"}
	d := logged(rules, told...)
	all := keyed(t, rules, "c=5", "c-a=8", "Ca=2", "\u00e7a=6", "cab=1", "ch=3", "cha=4", "d=7")
	slices.SortFunc(all, func(a, b impl.Row) int { return strings.Compare(a.Key, b.Key) })
	var texts []string
	for _, x := range all {
		texts = append(texts, x.Text)
	}
	if !slices.Equal(texts, []string{"c", "c-a", "Ca", "\u00e7a", "cab", "ch", "cha", "d"}) {
		t.Fatalf("%#v", texts)
	}
	for _, p := range []struct {
		text string
		want []string
	}{
		{"", texts}, {"\x07", texts}, {"\u0301", texts},
		{"c", []string{"c", "c-a", "Ca", "\u00e7a", "cab"}}, {"C", []string{"c", "c-a", "Ca", "\u00e7a", "cab"}}, {"\u00c7", []string{"c", "c-a", "Ca", "\u00e7a", "cab"}},
		{"ca", []string{"Ca", "\u00e7a", "cab"}}, {"CA\u0301", []string{"Ca", "\u00e7a", "cab"}}, {"cab", []string{"cab"}}, {"cabs", nil},
		{"ch", []string{"ch", "cha"}}, {"cha", []string{"cha"}}, {"c\x07h", nil}, {"c-", []string{"c-a"}}, {"-", nil}, {"d", []string{"d"}}, {"x", nil}, {"\xff", nil},
	} {
		var want []impl.Row
		for _, x := range all {
			if slices.Contains(p.want, x.Text) {
				want = append(want, x)
			}
		}
		checkPrefix(t, d, p.text, want)
		c, _ := impl.DoIndex(d, impl.Do{Kind: impl.DoCheckpoint})
		checkPrefix(t, c, p.text, want)
	}
	// All begin with it.
	d = logged("[shifted]", "put abc=1", "put a-b=2", "put A B=3")
	l := keyed(t, "[shifted]", "a-b=2", "A B=3", "abc=1")
	checkPrefix(t, d, "ab", l)
	checkPrefix(t, d, "-a.B", l)
	checkPrefix(t, d, "-", l)
	checkPrefix(t, d, "abc", l[2:])
	checkPrefix(t, impl.Disk{}, "", nil)
	checkPrefix(t, impl.Disk{}, "a", nil)
}

// The rows of an index stand in the order of CompareTexts by its rules, however they are put, and not in that
// of their bytes.
func TestRowsInTheOrderOfReaders(t *testing.T) {
	ruled := []string{"", "[levels 1]", "[levels 4]", "[shifted]", "[shifted] [levels 4]", "& c < ch <<< CH", "& z < \u00e5 << \u00e4", "& b < a << \u00e1 <<< A"}
	texts := []string{"a", "A", "b", "B", "\u00e1", "a\u0301b", "ab", "a-b", "a b", "Ab", "aB", "ch", "CH", "cz", "c", "d", "z", "\u00e5", "\u00e4", "\u00c4", "0", "9", "10", "\u4e00", "\xff", "-", "", "\u0301"}
	for _, rules := range ruled {
		r := rulesOf(t, rules)
		for turn := range 3 {
			l := slices.Clone(texts)
			for i := range l {
				j := (i*7 + turn*11) % len(l)
				l[i], l[j] = l[j], l[i]
			}
			d, codes, ok := impl.PlayIndex(impl.Disk{Rules: rules}, putAll(l))
			if !ok || slices.Max(codes) != impl.IndexOk {
				t.Fatal(rules, codes, ok)
			}
			rows, _ := impl.OpenRows(d)
			for i, x := range rows {
				if i > 0 {
					checkCompare(t, r, rows[i-1].Text, x.Text, -1)
				}
			}
			for _, s := range l {
				at := slices.IndexFunc(rows, func(x impl.Row) bool { n, ok := impl.CompareTexts(r, x.Text, s); return ok && n == 0 })
				if at < 0 {
					t.Fatalf("by %q: %#v is not there", rules, s)
				}
				checkGet(t, d, s, rows[at])
				checkRange(t, d, s, "\U0010ffff\U0010ffff", rows[at:])
				checkRange(t, d, "", s, rows[:at])
				var begin []impl.Row
				for _, x := range rows {
					if is, _ := impl.BeginsWith(r, x.Text, s); is {
						begin = append(begin, x)
					}
				}
				checkPrefix(t, d, s, begin)
			}
			if slices.IsSortedFunc(rows, func(a, b impl.Row) int { return strings.Compare(a.Text, b.Text) }) {
				t.Errorf("by %q the rows are in the order of their bytes", rules)
			}
		}
	}
}
