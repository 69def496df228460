package tests

import (
	"fmt"
	"slices"
	"strings"
	"testing"

	"loop.example/g00158/impl"
)

// pagesOf: a page of each of the lists.
func pagesOf(t *testing.T, lists ...[]impl.Row) []string {
	t.Helper()
	var pages []string
	for _, l := range lists {
		s, ok := impl.PageBytes(l)
		if !ok {
			t.Fatalf("PageBytes(%q) = %q %v", l, s, ok)
		}
		pages = append(pages, s)
	}
	return pages
}

func sameLists(a, b [][]impl.Row) bool {
	return slices.EqualFunc(a, b, func(x, y []impl.Row) bool { return slices.Equal(x, y) })
}

// checkCut asks for the pages too, and for the rows that come back from these.
func checkCut(t *testing.T, l []impl.Row, want ...[]impl.Row) {
	t.Helper()
	if got, ok := impl.CutRows(l); !ok || !sameLists(got, want) {
		t.Errorf("CutRows(%q) = %q %v, asked for %q", l, got, ok, want)
	}
	var slow []string
	for _, part := range want {
		slow = append(slow, slowPage(part))
	}
	pages, ok := impl.PagesOf(l)
	if !ok || !slices.Equal(pages, slow) {
		t.Errorf("PagesOf(%q) = %q %v, asked for %q", l, pages, ok, slow)
	}
	var back []impl.Row
	for _, s := range pages {
		rows, code := impl.ReadPage(s)
		if code != impl.PageOk {
			t.Errorf("ReadPage(%q) = %d", s, code)
		}
		back = append(back, rows...)
	}
	if !slices.Equal(back, l) {
		t.Errorf("the rows %q come back as %q", l, back)
	}
}

func refusedCut(t *testing.T, l []impl.Row) {
	t.Helper()
	if got, ok := impl.CutRows(l); ok || len(got) != 0 {
		t.Errorf("CutRows(%q) = %q %v", l, got, ok)
	}
	if got, ok := impl.PagesOf(l); ok || len(got) != 0 {
		t.Errorf("PagesOf(%q) = %q %v", l, got, ok)
	}
}

func TestCutRowsByHand(t *testing.T) {
	checkCut(t, nil)
	checkCut(t, []impl.Row{})
	checkCut(t, []impl.Row{{}}, []impl.Row{{}})
	a, b, c, d := cell("a", 97), cell("b", 100), cell("c", 100), cell("d", 5)
	// Exactly a page, and one byte more.
	checkCut(t, []impl.Row{a, b, c}, []impl.Row{a, b, c})
	checkCut(t, []impl.Row{a, b, c, d}, []impl.Row{a, b, c}, []impl.Row{d})
	checkCut(t, []impl.Row{a, b, cell("c", 101)}, []impl.Row{a, b}, []impl.Row{cell("c", 101)})
	checkCut(t, []impl.Row{cell("a", 98), b, c}, []impl.Row{cell("a", 98), b}, []impl.Row{c})
	// A small row behind a great one does not go back into the page ahead.
	great := cell(strings.Repeat("b", 100), 250)
	checkCut(t, []impl.Row{a, great, c, d}, []impl.Row{a}, []impl.Row{great}, []impl.Row{c, d})
	// Each fills a page alone.
	whole := func(b string) impl.Row { return cell(strings.Repeat(b, 133), 297) }
	checkCut(t, []impl.Row{whole("a"), whole("b"), whole("c")}, []impl.Row{whole("a")}, []impl.Row{whole("b")}, []impl.Row{whole("c")})
	// What is shared with the Key ahead makes room; the first of a page has its whole Key.
	k := strings.Repeat("k", 90)
	checkCut(t, []impl.Row{cell(k+"a", 150), cell(k+"b", 237)}, []impl.Row{cell(k+"a", 150), cell(k+"b", 237)})
	checkCut(t, []impl.Row{cell(k+"a", 150), cell(k+"b", 238)}, []impl.Row{cell(k+"a", 150)}, []impl.Row{cell(k+"b", 238)})
	checkCut(t, []impl.Row{cell(k+"a", 150), cell(k+"b", 170), cell(k+"c", 157), cell(k+"d", 97)}, []impl.Row{cell(k+"a", 150), cell(k+"b", 170), cell(k+"c", 157)}, []impl.Row{cell(k+"d", 97)})
}

// A row that alone fills more than a page, wherever it stands: by what it shares it would not be too long.
func TestCutRowsWithOneThatIsTooLong(t *testing.T) {
	key := strings.Repeat("k", 137)
	for _, long := range []impl.Row{cell(key, 298), cell(key, 301), row(strings.Repeat("k", 200), strings.Repeat("t", 80), strings.Repeat("v", 80))} {
		refusedCut(t, []impl.Row{long})
		refusedCut(t, []impl.Row{row("a", "", ""), long})
		refusedCut(t, []impl.Row{long, row("l", "", "")})
		refusedCut(t, []impl.Row{row(key[:130], "", ""), long})
		refusedCut(t, []impl.Row{row(key[:100], "", ""), long, row("l", "", "")})
	}
	checkCut(t, []impl.Row{cell(key, 297)}, []impl.Row{cell(key, 297)})
	checkCut(t, []impl.Row{row(key[:130], "", ""), cell(key, 290)}, []impl.Row{row(key[:130], "", ""), cell(key, 290)})
	for _, p := range goodRowRows {
		if !p.good {
			refusedCut(t, p.l)
		}
	}
}

// wanting: rows of which each page takes one, so many, and so many small ones behind.
func wanting(n, small int) ([]impl.Row, [][]impl.Row) {
	var l []impl.Row
	var parts [][]impl.Row
	for i := range n {
		x := cell(string([]byte{byte(64 + i)}), 149)
		l = append(l, x)
		parts = append(parts, []impl.Row{x})
	}
	for i := range small {
		x := row(string([]byte{byte(192 + i)}), "", "")
		l = append(l, x)
		parts[n-1] = append(parts[n-1], x)
	}
	return l, parts
}

func TestCutRowsInto40PagesAnd41(t *testing.T) {
	for _, n := range []int{1, 2, 39, 40} {
		l, parts := wanting(n, 0)
		checkCut(t, l, parts...)
		l, parts = wanting(n, 20)
		checkCut(t, l, parts...)
	}
	for n := 41; n <= 60; n++ {
		l, _ := wanting(n, 0)
		refusedCut(t, l)
		l, _ = wanting(n, 60-n)
		refusedCut(t, l)
	}
	// The last page is full, and one byte more wants another.
	l, parts := wanting(40, 0)
	last := cell("\xff", 148)
	checkCut(t, append(l, last), append(slices.Clone(parts[:39]), []impl.Row{l[39], last})...)
	refusedCut(t, append(l, cell("\xff", 149)))
	checkCut(t, rowsOf(60), rowsOf(60)[:48], rowsOf(60)[48:])
	refusedCut(t, rowsOf(61))
}

func TestCutRowsOfManyRows(t *testing.T) {
	several, refused := 0, 0
	for seed := uint32(1); seed <= 4000; seed++ {
		next := numbers(seed)
		l := manyRows(next, next(61))
		want, ok := slowCut(l)
		if !ok {
			refused++
			refusedCut(t, l)
		} else {
			checkCut(t, l, want...)
		}
		if len(want) > 2 {
			several++
		}
		if t.Failed() {
			return
		}
	}
	if several < 500 || refused < 50 {
		t.Errorf("only %d have several pages and %d none", several, refused)
	}
}

func slowCut(l []impl.Row) ([][]impl.Row, bool) {
	var parts [][]impl.Row
	for _, x := range l {
		if !slowFits([]impl.Row{x}) {
			return nil, false
		}
		n := len(parts)
		if n > 0 && slowFits(append(slices.Clone(parts[n-1]), x)) {
			parts[n-1] = append(parts[n-1], x)
		} else {
			parts = append(parts, []impl.Row{x})
		}
	}
	return parts, len(parts) <= 40
}

func checkFindRow(t *testing.T, pages []string, key string, want impl.Row, looks int) {
	t.Helper()
	if x, n, ok := impl.FindRow(pages, key); x != want || n != looks || !ok {
		t.Errorf("FindRow(%q, %q) = %q %d %v, asked for %q %d", pages, key, x, n, ok, want, looks)
	}
}

func TestFindRowInNoPages(t *testing.T) {
	for _, key := range []string{"", "a", strings.Repeat("k", 201)} {
		checkFindRow(t, nil, key, impl.Row{}, 0)
		checkFindRow(t, []string{}, key, impl.Row{}, 0)
	}
}

// shelf: n pages of three rows each, and the Keys of them; between all Keys there is room for others.
func shelf(t *testing.T, n int) ([]string, [][]impl.Row) {
	t.Helper()
	var lists [][]impl.Row
	for i := range n {
		var l []impl.Row
		for j := range 3 {
			key := fmt.Sprintf("k%02d-%d", i, 2*j+1)
			l = append(l, row(key, "t"+key, "v"+key))
		}
		lists = append(lists, l)
	}
	return pagesOf(t, lists...), lists
}

// How many pages are looked at for what stands in each of them, and, last, behind them all; told by hand.
var looksRows = []struct {
	n     int
	looks []int
}{
	{0, []int{0}},
	{1, []int{2, 1}},
	{2, []int{3, 3, 1}},
	{3, []int{3, 3, 3, 2}},
	{7, []int{4, 4, 4, 4, 4, 4, 4, 3}},
	{8, []int{5, 5, 4, 4, 4, 4, 4, 4, 3}},
}

func TestFindRowTellsItsLooks(t *testing.T) {
	for _, p := range looksRows {
		pages, lists := shelf(t, p.n)
		for i, l := range lists {
			for j, x := range l {
				checkFindRow(t, pages, x.Key, x, p.looks[i])
				checkFindRow(t, pages, fmt.Sprintf("k%02d-%d", i, 2*j), impl.Row{}, p.looks[i])
				checkFindRow(t, pages, x.Key[:len(x.Key)-1], impl.Row{}, p.looks[i])
				beyond := p.looks[i]
				if j == 2 {
					beyond = p.looks[i+1]
				}
				checkFindRow(t, pages, x.Key+"\x00", impl.Row{}, beyond)
				checkFindRow(t, pages, fmt.Sprintf("k%02d-%d", i, 2*j+2), impl.Row{}, beyond)
			}
		}
		checkFindRow(t, pages, "", impl.Row{}, p.looks[0])
		checkFindRow(t, pages, "j", impl.Row{}, p.looks[0])
		for _, key := range []string{"l", "\xff", strings.Repeat("z", 200), strings.Repeat("z", 201), strings.Repeat("z", 1<<16)} {
			checkFindRow(t, pages, key, impl.Row{}, p.looks[p.n])
		}
		checkFindRow(t, pages, strings.Repeat("a", 201), impl.Row{}, p.looks[0])
	}
}

// slowLooks: how many pages are looked at for the page at, of those from lo on below hi.
func slowLooks(lo, hi, at, all int) int {
	switch m := (lo + hi) / 2; {
	case lo < hi && m < at:
		return 1 + slowLooks(m+1, hi, at, all)
	case lo < hi:
		return 1 + slowLooks(lo, m, at, all)
	case at < all:
		return 1
	}
	return 0
}

func TestFindRowInUpTo40Pages(t *testing.T) {
	most := 0
	for n := 0; n <= 40; n++ {
		pages, lists := shelf(t, n)
		checkFindRow(t, pages, "l", impl.Row{}, slowLooks(0, n, n, n))
		checkFindRow(t, pages, "", impl.Row{}, slowLooks(0, n, 0, n))
		for i, l := range lists {
			looks := slowLooks(0, n, i, n)
			most = max(most, looks)
			for j, x := range l {
				checkFindRow(t, pages, x.Key, x, looks)
				checkFindRow(t, pages, fmt.Sprintf("k%02d-%d", i, 2*j), impl.Row{}, looks)
			}
		}
	}
	if most != 7 {
		t.Errorf("the most looks are %d", most)
	}
}

// A page of one row with the empty Key: the zero row of what is not there is told apart by nothing else.
func TestFindRowOfTheEmptyKey(t *testing.T) {
	pages := pagesOf(t, []impl.Row{row("", "x", "y")}, []impl.Row{row("\x00", "", "")})
	checkFindRow(t, pages, "", row("", "x", "y"), 3)
	checkFindRow(t, pages, "\x00", row("\x00", "", ""), 3)
	checkFindRow(t, pages, "\x00\x00", impl.Row{}, 1)
	checkFindRow(t, pagesOf(t, []impl.Row{{}}), "", impl.Row{}, 2)
	checkFindRow(t, pagesOf(t, []impl.Row{{}}), "a", impl.Row{}, 1)
}

func checkFrom(t *testing.T, pages []string, lo, hi string, want []impl.Row) {
	t.Helper()
	if l, ok := impl.RowsFrom(pages, lo, hi); !ok || !slices.Equal(l, want) {
		t.Errorf("RowsFrom(%q, %q, %q) = %q %v, asked for %q", pages, lo, hi, l, ok, want)
	}
}

func TestRowsFromByHand(t *testing.T) {
	pages, lists := shelf(t, 4)
	l := slices.Concat(lists...)
	for _, p := range []struct {
		lo, hi string
		want   []impl.Row
	}{
		{"", "", nil},
		{"", "z", l},
		{"", "k00-1", nil},
		{"", "k00-1\x00", l[:1]},
		{"k00-1", "k00-1", nil},
		{"k00-1", "k00-1\x00", l[:1]},
		{"k00-1", "k00-3", l[:1]},
		{"k00-0", "k00-2", l[:1]},
		{"k00-2", "k00-3", nil},
		{"k00-2", "k00-4", l[1:2]},
		{"k00-5", "k01-1", l[2:3]},
		{"k00-5", "k01-2", l[2:4]},
		{"k00-6", "k01-1", nil},
		{"k00-6", "k01-2", l[3:4]},
		{"k00-3", "k02-3", l[1:7]},
		{"k00-3\x00", "k02-3\x00", l[2:8]},
		{"k01", "k02", l[3:6]},
		{"k00-1", "k03-5", l[:11]},
		{"k00-1", "k03-6", l},
		{"k03-5", "\xff", l[11:]},
		{"k03-5\x00", "\xff", nil},
		{"z", "\xff", nil},
		{"\xff", "", nil},
		{"k02", "k01", nil},
		{"k01-3", "k01-1", nil},
		{"k01-1", "", nil},
		{strings.Repeat("k", 201), strings.Repeat("z", 300), nil},
		{"", strings.Repeat("z", 300), l},
		{"k01" + strings.Repeat(" ", 300), "k01-3", l[3:4]},
	} {
		checkFrom(t, pages, p.lo, p.hi, p.want)
	}
	for _, none := range [][]string{nil, {}} {
		checkFrom(t, none, "", "\xff", nil)
		checkFrom(t, none, "b", "a", nil)
	}
	checkFrom(t, pagesOf(t, []impl.Row{{}}), "", "\x00", []impl.Row{{}})
	checkFrom(t, pagesOf(t, []impl.Row{{}}), "", "", nil)
}

func TestRowsFromBetweenAllKeys(t *testing.T) {
	pages, lists := shelf(t, 5)
	l := slices.Concat(lists...)
	keys := []string{"", "\xff"}
	for _, x := range l {
		keys = append(keys, x.Key, x.Key+"\x00")
	}
	for _, lo := range keys {
		for _, hi := range keys {
			var want []impl.Row
			for _, x := range l {
				if strings.Compare(x.Key, lo) >= 0 && strings.Compare(x.Key, hi) < 0 {
					want = append(want, x)
				}
			}
			checkFrom(t, pages, lo, hi, want)
		}
	}
}

// All of 40 pages: more rows than MaxRows, which bounds what is put and no more.
func TestPagesWithMoreThan60Rows(t *testing.T) {
	pages, lists := shelf(t, 40)
	l := slices.Concat(lists...)
	if len(l) != 120 {
		t.Fatal(len(l))
	}
	checkFrom(t, pages, "", "\xff", l)
	checkFrom(t, pages, l[7].Key, l[90].Key, l[7:90])
	checkFindRow(t, pages, l[119].Key, l[119], slowLooks(0, 40, 39, 40))
	checkFill(t, pages, len(pages[0]))
	refusedPut(t, pages, row("k00-2", "", ""))
	refusedPut(t, pages, row("k00-1", "", ""))
	checkDrop(t, pages, "k39-5", append(slices.Clone(pages[:38]), pagesOf(t, slices.Concat(lists[38], lists[39][:2]))...))
}
