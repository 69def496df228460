package tests

import (
	"slices"
	"strconv"
	"strings"
	"testing"

	"loop.example/g00158/impl"
)

func row(key, text, value string) impl.Row {
	return impl.Row{Key: key, Text: text, Value: value}
}

// cell: a row that takes n bytes of a page where its Key shares none with the one ahead.
func cell(key string, n int) impl.Row {
	rest := n - 4 - len(key)
	text := min(rest, 80)
	return row(key, strings.Repeat("t", text), strings.Repeat("v", rest-text))
}

// rowsOf: so many rows, each of a Key that rises from the one ahead, of three bytes.
func rowsOf(n int) []impl.Row {
	var l []impl.Row
	for i := range n {
		l = append(l, row(strconv.Itoa(100+i), "t", ""))
	}
	return l
}

func TestConstantsOfPages(t *testing.T) {
	if impl.PageSize != 300 || impl.MaxRows != 60 || impl.MaxPages != 40 {
		t.Error(impl.PageSize, impl.MaxRows, impl.MaxPages)
	}
	if impl.PageOk != 0 || impl.PageShort != 1 || impl.PageMark != 2 || impl.PageForm != 3 {
		t.Error(impl.PageOk, impl.PageShort, impl.PageMark, impl.PageForm)
	}
}

var goodRowRows = []struct {
	name string
	l    []impl.Row
	good bool
}{
	{"none", nil, true},
	{"an empty list", []impl.Row{}, true},
	{"the zero row", []impl.Row{{}}, true},
	{"one", []impl.Row{row("a", "x", "y")}, true},
	{"two that rise", []impl.Row{row("a", "", ""), row("b", "", "")}, true},
	{"two with the same Key", []impl.Row{row("a", "x", ""), row("a", "y", "")}, false},
	{"two with the empty Key", []impl.Row{row("", "x", ""), row("", "y", "")}, false},
	{"two that fall", []impl.Row{row("b", "", ""), row("a", "", "")}, false},
	{"the same Keys at the end", []impl.Row{row("a", "", ""), row("b", "", ""), row("c", "", ""), row("c", "", "")}, false},
	{"falling at the end", []impl.Row{row("a", "", ""), row("c", "", ""), row("b", "", "")}, false},
	{"falling at the front", []impl.Row{row("b", "", ""), row("a", "", ""), row("c", "", "")}, false},
	{"the same Keys, but not side by side", []impl.Row{row("a", "", ""), row("b", "", ""), row("a", "", "")}, false},
	{"Texts and Values need not rise", []impl.Row{row("a", "z", "z"), row("b", "a", "a"), row("c", "a", "a")}, true},
	{"an empty Key first", []impl.Row{row("", "", ""), row("\x00", "", "")}, true},
	{"an empty Key behind another", []impl.Row{row("\x00", "", ""), row("", "", "")}, false},
	{"a Key that goes on", []impl.Row{row("a", "", ""), row("a\x00", "", ""), row("a\x00\x00", "", ""), row("ab", "", "")}, true},
	{"a Key that ends earlier", []impl.Row{row("ab", "", ""), row("a", "", "")}, false},
	{"bytes of 128 and more", []impl.Row{row("\x7f", "", ""), row("\x80", "", ""), row("\xff", "", ""), row("\xff\xff", "", "")}, true},
	{"bytes of 128 ahead of 127", []impl.Row{row("\x80", "", ""), row("\x7f", "", "")}, false},
	{"by bytes, not by runes", []impl.Row{row("\xed\x9f\xbf", "", ""), row("\xf0\x9f\x98\x80", "", ""), row("\xfe", "", "")}, true},
	{"a Key of 200 bytes", []impl.Row{row(strings.Repeat("k", 200), "", "")}, true},
	{"a Key of 201 bytes", []impl.Row{row(strings.Repeat("k", 201), "", "")}, false},
	{"a Key of 256 bytes", []impl.Row{row(strings.Repeat("k", 256), "", "")}, false},
	{"a Text of 80 bytes", []impl.Row{row("k", strings.Repeat("t", 80), "")}, true},
	{"a Text of 81 bytes", []impl.Row{row("k", strings.Repeat("t", 81), "")}, false},
	{"a Text of 256 bytes", []impl.Row{row("k", strings.Repeat("t", 256), "")}, false},
	{"a Value of 80 bytes", []impl.Row{row("k", "", strings.Repeat("v", 80))}, true},
	{"a Value of 81 bytes", []impl.Row{row("k", "", strings.Repeat("v", 81))}, false},
	{"a Value of 256 bytes", []impl.Row{row("k", "", strings.Repeat("v", 256))}, false},
	{"all as long as they may be", []impl.Row{row(strings.Repeat("k", 200), strings.Repeat("t", 80), strings.Repeat("v", 80))}, true},
	{"too long at the end", []impl.Row{row("a", "", ""), row("b", "", ""), row("c", "", strings.Repeat("v", 81))}, false},
	{"59 rows", rowsOf(59), true},
	{"60 rows", rowsOf(60), true},
	{"61 rows", rowsOf(61), false},
	{"61 rows of which none is good", make([]impl.Row, 61), false},
	{"256 rows", rowsOf(256), false},
	{"300 rows", rowsOf(300), false},
}

func TestGoodRows(t *testing.T) {
	for _, p := range goodRowRows {
		if good := impl.GoodRows(p.l); good != p.good {
			t.Errorf("%s: GoodRows = %v", p.name, good)
		}
	}
	// Sixty long rows are good though no page takes them.
	var long []impl.Row
	for i := range 60 {
		long = append(long, row(strings.Repeat("k", 198)+strconv.Itoa(10+i), strings.Repeat("t", 80), strings.Repeat("v", 80)))
	}
	if !impl.GoodRows(long) {
		t.Error("sixty long rows are not good")
	}
	for i := range 60 {
		l := slices.Clone(long)
		l[i].Value += "v"
		if impl.GoodRows(l) {
			t.Errorf("good though the Value at %d is too long", i)
		}
		l = slices.Clone(long)
		l[i].Key = l[(i+1)%60].Key
		if impl.GoodRows(l) {
			t.Errorf("good though the Key at %d is that of another", i)
		}
	}
}

func TestGoodRowsOfAllShortKeys(t *testing.T) {
	keys := []string{"", "\x00", "a", "aa", "ab", "b", "\xff"}
	forAllLists([]int{0, 1, 2, 3, 4, 5, 6}, 4, func(l []int) {
		var rows []impl.Row
		rising := true
		for i, k := range l {
			rows = append(rows, row(keys[k], "", ""))
			rising = rising && (i == 0 || l[i-1] < k)
		}
		if good := impl.GoodRows(rows); good != rising {
			t.Errorf("GoodRows(%q) = %v", rows, good)
		}
	})
}

func checkPage(t *testing.T, l []impl.Row, want string) {
	t.Helper()
	if s, ok := impl.PageBytes(l); s != want || !ok {
		t.Errorf("PageBytes(%q) = %q %v, asked for %q", l, s, ok, want)
	}
	checkReadPage(t, want, l)
}

func checkReadPage(t *testing.T, s string, want []impl.Row) {
	t.Helper()
	if l, code := impl.ReadPage(s); !slices.Equal(l, want) || code != impl.PageOk {
		t.Errorf("ReadPage(%q) = %q %d, asked for %q", s, l, code, want)
	}
}

func refusedPage(t *testing.T, l []impl.Row) {
	t.Helper()
	if s, ok := impl.PageBytes(l); s != "" || ok {
		t.Errorf("PageBytes(%q) = %q %v", l, s, ok)
	}
}

var pageRows = []struct {
	l []impl.Row
	s string
}{
	{[]impl.Row{{}}, "PG\x01\x00\x00\x00\x00"},
	{[]impl.Row{row("a", "", "")}, "PG\x01\x00\x01\x00\x00a"},
	{[]impl.Row{row("", "b", "")}, "PG\x01\x00\x00\x01\x00b"},
	{[]impl.Row{row("", "", "c")}, "PG\x01\x00\x00\x00\x01c"},
	{[]impl.Row{row("k", "tt", "vvv")}, "PG\x01\x00\x01\x02\x03kttvvv"},
	{[]impl.Row{row("aa", "x", "1"), row("ab", "y", "")}, "PG\x02\x00\x02\x01\x01aax1\x01\x01\x01\x00by"},
	// Some bytes are shared, all that the key ahead has, and none.
	{[]impl.Row{row("abc", "", ""), row("abd", "", ""), row("abde", "", ""), row("b", "", "")}, "PG\x04\x00\x03\x00\x00abc\x02\x01\x00\x00d\x03\x01\x00\x00e\x00\x01\x00\x00b"},
	{[]impl.Row{row("a", "", ""), row("aa", "", ""), row("aaaa", "", "")}, "PG\x03\x00\x01\x00\x00a\x01\x01\x00\x00a\x02\x02\x00\x00aa"},
	{[]impl.Row{row("", "", ""), row("a", "", "")}, "PG\x02\x00\x00\x00\x00\x00\x01\x00\x00a"},
	{[]impl.Row{row("", "t", "v"), row("\x00", "", ""), row("\x00\x00", "", "")}, "PG\x03\x00\x00\x01\x01tv\x00\x01\x00\x00\x00\x01\x01\x00\x00\x00"},
	// A byte that is alike behind one that is not does not count.
	{[]impl.Row{row("axc", "", ""), row("ayc", "", ""), row("bxc", "", "")}, "PG\x03\x00\x03\x00\x00axc\x01\x02\x00\x00yc\x00\x03\x00\x00bxc"},
	// Shared with the key ahead, though not with one further ahead, and the other way round.
	{[]impl.Row{row("abc", "", ""), row("b", "", ""), row("bcd", "", "")}, "PG\x03\x00\x03\x00\x00abc\x00\x01\x00\x00b\x01\x02\x00\x00cd"},
	{[]impl.Row{row("abc", "", ""), row("abd", "", ""), row("ac", "", "")}, "PG\x03\x00\x03\x00\x00abc\x02\x01\x00\x00d\x01\x01\x00\x00c"},
	// Texts and Values that are alike are said again.
	{[]impl.Row{row("a", "tt", "vv"), row("ab", "tt", "vv")}, "PG\x02\x00\x01\x02\x02attvv\x01\x01\x02\x02bttvv"},
	{[]impl.Row{row("PG\x01", "PG", "\x00\xff"), row("\xff", "\n", " ")}, "PG\x02\x00\x03\x02\x02PG\x01PG\x00\xff\x00\x01\x01\x01\xff\n "},
	{[]impl.Row{row(strings.Repeat("k", 200), "", "")}, "PG\x01\x00\xc8\x00\x00" + strings.Repeat("k", 200)},
	{[]impl.Row{row("k", strings.Repeat("t", 80), strings.Repeat("v", 80))}, "PG\x01\x00\x01\x50\x50k" + strings.Repeat("t", 80) + strings.Repeat("v", 80)},
	{[]impl.Row{row(strings.Repeat("k", 199), "", ""), row(strings.Repeat("k", 200), "", "")}, "PG\x02\x00\xc7\x00\x00" + strings.Repeat("k", 199) + "\xc7\x01\x00\x00k"},
	{[]impl.Row{row(strings.Repeat("k", 199)+"a", "", ""), row(strings.Repeat("k", 199)+"b", "", "")}, "PG\x02\x00\xc8\x00\x00" + strings.Repeat("k", 199) + "a\xc7\x01\x00\x00b"},
}

func TestPageBytesByHand(t *testing.T) {
	for _, p := range pageRows {
		checkPage(t, p.l, p.s)
	}
	refusedPage(t, nil)
	refusedPage(t, []impl.Row{})
}

// What is not good has no page, though it would be short enough.
func TestPageBytesOfRowsThatAreNotGood(t *testing.T) {
	for _, p := range goodRowRows {
		if !p.good {
			refusedPage(t, p.l)
		}
	}
}

func TestPagesOfExactly300BytesAndOneMore(t *testing.T) {
	whole := strings.Repeat("k", 133)
	for _, l := range [][]impl.Row{
		{cell(whole, 297)},
		{cell("a", 97), cell("b", 100), cell("c", 100)},
		{cell("", 150), cell("a", 147)},
		// Of the second Key 130 bytes are left out.
		{cell(whole, 160), cell(whole[:130]+"z", 267)},
		{cell("\x00", 97), cell("\x00a", 101), cell("\x00b", 101)},
	} {
		s, ok := impl.PageBytes(l)
		if len(s) != 300 || s != slowPage(l) || !ok {
			t.Errorf("PageBytes(%q) = %q %v", l, s, ok)
		}
		checkReadPage(t, s, l)
		for i := range l {
			more := slices.Clone(l)
			more[i].Value += "v"
			if len(more[i].Value) > 80 {
				more[i].Value = more[i].Value[1:]
				more[i].Text += "t"
			}
			if impl.GoodRows(more) {
				refusedPage(t, more)
			}
			less := slices.Clone(l)
			if n := len(less[i].Text); n > 0 {
				less[i].Text = less[i].Text[:n-1]
				checkPage(t, less, slowPage(less))
			}
		}
		refusedPage(t, append(slices.Clone(l), row("\xff", "", "")))
		refusedPage(t, append(l, l...))
	}
	// One byte less of the Key that is shared is one byte more of the page.
	l := []impl.Row{cell(whole, 160), cell(whole[:129]+"zz", 267)}
	refusedPage(t, l)
	// Alone a row has at most 367 bytes.
	refusedPage(t, []impl.Row{row(strings.Repeat("k", 200), strings.Repeat("t", 80), strings.Repeat("v", 80))})
	refusedPage(t, []impl.Row{row(strings.Repeat("k", 200), strings.Repeat("t", 80), strings.Repeat("v", 14))})
	checkPage(t, []impl.Row{row(strings.Repeat("k", 200), strings.Repeat("t", 80), strings.Repeat("v", 13))}, "PG\x01\x00\xc8\x50\x0d"+strings.Repeat("k", 200)+strings.Repeat("t", 80)+strings.Repeat("v", 13))
}

// Of 59 rows the page has at least 297 bytes, of 60 rows 302: so a page holds no more than 59.
func TestPagesOfTheMostRows(t *testing.T) {
	var l []impl.Row
	for i := range 60 {
		l = append(l, row(strings.Repeat("k", i), "", ""))
	}
	refusedPage(t, l)
	checkPage(t, l[:59], slowPage(l[:59]))
	if s, _ := impl.PageBytes(l[:59]); len(s) != 297 || s[2] != 59 {
		t.Errorf("%q", s)
	}
	l[0].Text = "ttt"
	checkPage(t, l[:59], slowPage(l[:59]))
	l[58].Value = "v"
	refusedPage(t, l[:59])
	refusedPage(t, rowsOf(60))
	refusedPage(t, rowsOf(61))
}

// slowPage: the page of rows, however long, with what is shared found from the longest on.
func slowPage(l []impl.Row) string {
	s := "\x50\x47" + string([]byte{byte(len(l))})
	for i, x := range l {
		shared := 0
		if i > 0 {
			for shared = len(x.Key); !strings.HasPrefix(l[i-1].Key, x.Key[:shared]); shared-- {
			}
		}
		s += string([]byte{byte(shared), byte(len(x.Key) - shared), byte(len(x.Text)), byte(len(x.Value))})
		s += x.Key[shared:] + x.Text + x.Value
	}
	return s
}

// slowFits: whether good rows have a page, by what they have together.
func slowFits(l []impl.Row) bool {
	return len(l) > 0 && len(l) <= 60 && len(slowPage(l)) <= 300
}

// manyKey: a Key by a fixed rule, of few kinds of bytes, so that many share some.
func manyKey(next func(int) int, most int) string {
	var key []byte
	for range next(most + 1) {
		key = append(key, "\x00aab\xff"[next(5)])
	}
	return string(key)
}

func manyRow(next func(int) int) impl.Row {
	most := []int{2, 5, 12, 60, 200}[next(5)]
	sides := []int{1, 3, 20, 80}[next(4)]
	return row(manyKey(next, most), strings.Repeat("t", next(sides+1)), strings.Repeat("v", next(sides+1)))
}

// manyRows: good rows by a fixed rule, at most so many.
func manyRows(next func(int) int, most int) []impl.Row {
	var l []impl.Row
	for range next(most + 1) {
		l = slowWith(l, manyRow(next))
	}
	return l
}

// slowWith: the rows, sorted, and x, in the place of one with its Key.
func slowWith(l []impl.Row, x impl.Row) []impl.Row {
	var with []impl.Row
	for _, y := range l {
		if y.Key != x.Key {
			with = append(with, y)
		}
	}
	with = append(with, x)
	slices.SortFunc(with, func(a, b impl.Row) int { return strings.Compare(a.Key, b.Key) })
	return with
}

func TestPagesOfManyRows(t *testing.T) {
	fit, others := 0, 0
	for seed := uint32(1); seed <= 20000; seed++ {
		next := numbers(seed)
		l := manyRows(next, 1+next(12))
		if !impl.GoodRows(l) {
			t.Fatalf("GoodRows(%q) = false", l)
		}
		if slowFits(l) {
			fit++
			checkPage(t, l, slowPage(l))
		} else {
			others++
			refusedPage(t, l)
		}
		if t.Failed() {
			return
		}
	}
	if fit < 5000 || others < 2000 {
		t.Errorf("only %d fit and %d do not", fit, others)
	}
}
