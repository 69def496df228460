package tests

import (
	"slices"
	"strings"
	"testing"
	"unsafe"

	"loop.example/g00158/impl"
)

// refusedPages fails unless all that take pages give the zero answer.
func refusedPages(t *testing.T, pages []string) {
	t.Helper()
	for _, key := range []string{"", "a", "k00-1", "k01-3", endOfKeys} {
		if x, n, ok := impl.FindRow(pages, key); x != (impl.Row{}) || n != 0 || ok {
			t.Errorf("FindRow(%q, %q) = %q %d %v", pages, key, x, n, ok)
		}
		for _, hi := range []string{"", "k01-3", endOfKeys} {
			if l, ok := impl.RowsFrom(pages, key, hi); len(l) != 0 || ok {
				t.Errorf("RowsFrom(%q, %q, %q) = %q %v", pages, key, hi, l, ok)
			}
		}
		refusedPut(t, pages, row(key, "", ""))
		refusedPut(t, pages, row(key, strings.Repeat("t", 80), strings.Repeat("v", 80)))
		refusedDrop(t, pages, key)
	}
	if n, ok := impl.LeastFill(pages); n != 0 || ok {
		t.Errorf("LeastFill(%q) = %d %v", pages, n, ok)
	}
}

// One that is no page is enough, wherever it stands.
func TestPagesOfWhichOneIsNone(t *testing.T) {
	long := strings.Repeat("k", 133)
	none := []string{
		"", "P", "PG", "x", "xyz",
		"PG\x00", "PG\x01", "PH\x01\x00\x00\x00\x00", "PG\x00\x00\x00\x00\x00", "PG\x01\x01\x00\x00\x00", "PG\x01\x00\x00\x00\x00\x00",
		"PG\x02\x00\x06\x00\x00k01-10\x04\x02\x00\x0010",
		"PG\x02\x00\x03\x00\x00k01\x00\x03\x00\x00k02",
		"PG\x01\x00\x03\x51\x00k01" + strings.Repeat("t", 81),
		slowPage([]impl.Row{cell(long, 298)}),
		slowPage([]impl.Row{row("k01-9", "", ""), row("k01-7", "", "")}),
		slowPage(rowsOf(60)),
		strings.Repeat("PG\x01", 100),
		strings.Repeat("PG\x01", 1<<14),
	}
	for _, s := range none {
		refusedPages(t, []string{s})
		refusedPages(t, []string{s, s})
		for _, n := range []int{1, 2, 3, 39} {
			pages, _ := shelf(t, n)
			for _, at := range []int{0, n / 2, n} {
				refusedPages(t, slices.Insert(slices.Clone(pages), at, s))
			}
			for _, at := range []int{0, n / 2, n - 1} {
				spoiled := slices.Clone(pages)
				spoiled[at] = s
				refusedPages(t, spoiled)
			}
		}
		if t.Failed() {
			return
		}
	}
}

func TestPagesThatDoNotRise(t *testing.T) {
	a, b, c := row("a", "", ""), row("b", "", ""), row("c", "", "")
	for _, lists := range [][][]impl.Row{
		{{b}, {a}},
		{{a}, {a}},
		{{a}, {row("a", "x", "y")}},
		{{{}}, {{}}},
		{{a, b}, {b, c}},
		{{a, b}, {b}},
		{{a, c}, {b}},
		{{b}, {a, c}},
		{{b, c}, {a}},
		{{a}, {b}, {b}},
		{{a}, {c}, {b}},
		{{b}, {a}, {c}},
		{{a}, {b}, {a}},
		{{row("ab", "", "")}, {a}},
		{{row("\x80", "", "")}, {row("\x7f", "", "")}},
	} {
		refusedPages(t, pagesOf(t, lists...))
	}
	for _, n := range []int{2, 3, 7, 8, 40} {
		pages, lists := shelf(t, n)
		for at := 1; at < n; at++ {
			turned := slices.Clone(pages)
			turned[at-1], turned[at] = turned[at], turned[at-1]
			refusedPages(t, turned)
			twice := slices.Clone(pages)
			twice[at] = twice[at-1]
			refusedPages(t, twice)
			// The last Key of the page ahead, and one just behind it, which is good.
			edge := slices.Clone(pages)
			last := lists[at-1][2].Key
			edge[at] = pagesOf(t, []impl.Row{row(last, "x", ""), lists[at][1]})[0]
			refusedPages(t, edge)
			edge[at] = pagesOf(t, []impl.Row{row(last+"\x00", "x", ""), lists[at][1]})[0]
			checkFindRow(t, edge, last+"\x00", row(last+"\x00", "x", ""), slowLooks(0, n, at, n))
		}
		if t.Failed() {
			return
		}
	}
}

func TestPagesOfMoreThan40(t *testing.T) {
	pages, _ := shelf(t, 42)
	for _, n := range []int{41, 42} {
		refusedPages(t, pages[:n])
	}
	refusedPages(t, make([]string, 41))
	refusedPages(t, make([]string, 1<<16))
	checkFindRow(t, pages[:40], "k39-5", row("k39-5", "tk39-5", "vk39-5"), slowLooks(0, 40, 39, 40))
	checkFindRow(t, pages[:40], "k40-1", impl.Row{}, slowLooks(0, 40, 40, 40))
	checkFill(t, pages[:40], len(pages[0]))
}

func TestPagesOfEmptyLists(t *testing.T) {
	for _, l := range [][]impl.Row{nil, {}, rowsOf(1)[:0]} {
		if !impl.GoodRows(l) {
			t.Error("no rows are not good")
		}
		refusedPage(t, l)
		checkCut(t, l)
	}
	for _, pages := range [][]string{nil, {}, make([]string, 1)[:0]} {
		checkFindRow(t, pages, "", impl.Row{}, 0)
		checkFrom(t, pages, "", endOfKeys, nil)
		checkPut(t, pages, impl.Row{}, []impl.Row{{}})
		refusedDrop(t, pages, "")
		checkFill(t, pages, 0)
	}
}

// badRows: what lies behind a list of rows here would not be good, and would be seen if it were written.
func badRows() []impl.Row {
	return []impl.Row{{Key: "!"}, {Key: "!", Text: strings.Repeat("t", 81)}, {}}
}

func TestRowsAreNotWrittenInto(t *testing.T) {
	whole := strings.Repeat("k", 133)
	many, _ := wanting(40, 20)
	for _, l := range [][]impl.Row{
		nil, {{}}, {row("a", "x", "y")}, {row("b", "", ""), row("a", "", "")}, rowsOf(20), rowsOf(60), many, many[:41],
		{cell("a", 100), cell("b", 100), cell("c", 100), cell("d", 100)},
		{cell(whole, 297), cell(whole+"a", 297), cell(whole+"b", 297)},
		{cell("a", 100), cell(whole, 298)},
	} {
		memory := slices.Concat(l, badRows())
		before := slices.Clone(memory)
		part := memory[:len(l)]
		plain := slices.Clone(l)
		if impl.GoodRows(part) != impl.GoodRows(plain) {
			t.Errorf("GoodRows(%q) = %v with memory behind", l, impl.GoodRows(part))
		}
		s, ok := impl.PageBytes(part)
		if want, good := impl.PageBytes(plain); s != want || ok != good {
			t.Errorf("PageBytes(%q) = %q %v with memory behind, asked for %q %v", l, s, ok, want, good)
		}
		cut, ok := impl.CutRows(part)
		want, good := impl.CutRows(plain)
		if !sameLists(cut, want) || ok != good {
			t.Errorf("CutRows(%q) = %q %v with memory behind, asked for %q %v", l, cut, ok, want, good)
		}
		pages, ok := impl.PagesOf(part)
		if want, good := impl.PagesOf(plain); !slices.Equal(pages, want) || ok != good {
			t.Errorf("PagesOf(%q) = %q %v with memory behind, asked for %q %v", l, pages, ok, want, good)
		}
		// Each list of the answer is written over, also behind its length: no other one may change by it.
		for i := range cut {
			spoilRows(cut[i])
			for j := i + 1; j < len(cut); j++ {
				if !slices.Equal(cut[j], want[j]) {
					t.Errorf("the lists %d and %d of CutRows(%q) share memory", i, j, l)
				}
			}
		}
		spoilTexts(pages)
		if !slices.Equal(memory, before) {
			t.Errorf("the rows were written into: %q, before %q", memory, before)
		}
	}
}

func spoilRows(l []impl.Row) {
	l = l[:cap(l)]
	for i := range l {
		l[i] = row("written", "over", "!")
	}
}

func TestPagesAreNotWrittenInto(t *testing.T) {
	full := pagesOf(t, []impl.Row{cell("a", 100), cell("b", 100), cell("d", 97)}, []impl.Row{cell("e", 100)}, []impl.Row{cell("f", 100), cell("g", 100)})
	three, _ := shelf(t, 3)
	forty, _ := shelf(t, 40)
	for _, pages := range [][]string{nil, three[:1], three, forty, full, {three[1], three[0]}, {three[0], ""}} {
		memory := append(slices.Clone(pages), "PG", "behind", "")
		before := slices.Clone(memory)
		part := memory[:len(pages)]
		plain := slices.Clone(pages)
		n, ok := impl.LeastFill(part)
		if want, good := impl.LeastFill(plain); n != want || ok != good {
			t.Errorf("LeastFill(%q) = %d %v with memory behind, asked for %d %v", pages, n, ok, want, good)
		}
		for _, key := range []string{"", "a", "b", "c", "d", "e", "f", "g", "h", "k00-1", "k01-3", "k02-5", "k39-5", "k39-7"} {
			x, looks, ok := impl.FindRow(part, key)
			if y, n, good := impl.FindRow(plain, key); x != y || looks != n || ok != good {
				t.Errorf("FindRow(%q, %q) = %q %d %v with memory behind, asked for %q %d %v", pages, key, x, looks, ok, y, n, good)
			}
			l, ok := impl.RowsFrom(part, key, "k39-3")
			if want, good := impl.RowsFrom(plain, key, "k39-3"); !slices.Equal(l, want) || ok != good {
				t.Errorf("RowsFrom(%q, %q) = %q %v with memory behind, asked for %q %v", pages, key, l, ok, want, good)
			}
			spoilRows(l)
			for _, x := range []impl.Row{row(key, "", ""), row(key, strings.Repeat("t", 80), strings.Repeat("v", 80))} {
				put, ok := impl.PutInPages(part, x)
				if want, good := impl.PutInPages(plain, x); !slices.Equal(put, want) || ok != good {
					t.Errorf("PutInPages(%q, %q) = %q %v with memory behind, asked for %q %v", pages, x, put, ok, want, good)
				}
				spoilTexts(put)
			}
			left, ok := impl.DropFromPages(part, key)
			if want, good := impl.DropFromPages(plain, key); !slices.Equal(left, want) || ok != good {
				t.Errorf("DropFromPages(%q, %q) = %q %v with memory behind, asked for %q %v", pages, key, left, ok, want, good)
			}
			spoilTexts(left)
		}
		if !slices.Equal(memory, before) {
			t.Errorf("the pages were written into: %q, before %q", memory, before)
		}
	}
}

// overlap tells whether two texts lie in the same memory, in whole or in part.
func overlap(a, b string) bool {
	if a == "" || b == "" {
		return false
	}
	from, other := uintptr(unsafe.Pointer(unsafe.StringData(a))), uintptr(unsafe.Pointer(unsafe.StringData(b)))
	return from < other+uintptr(len(b)) && other < from+uintptr(len(a))
}

func textsOf(l []impl.Row) []string {
	var texts []string
	for _, x := range l {
		texts = append(texts, x.Key, x.Text, x.Value)
	}
	return texts
}

func checkNewTexts(t *testing.T, name string, answers, arguments []string) {
	t.Helper()
	for _, a := range answers {
		for _, b := range arguments {
			if overlap(a, b) {
				t.Errorf("%s: %q is handed out as it came in with %q", name, a, b)
			}
		}
	}
	for i, a := range answers {
		for _, b := range answers[:i] {
			if overlap(a, b) {
				t.Errorf("%s: %q and %q of one answer share memory", name, a, b)
			}
		}
	}
}

func TestTextsOfPagesAreNewMemory(t *testing.T) {
	l := []impl.Row{cell("aaaa", 100), cell("bbbb", 100), cell("bbbbcc", 100), cell("dddd", 100), cell("dddd\x00", 150), cell("ee", 160)}
	cut, ok := impl.CutRows(l)
	checkNewTexts(t, "CutRows", textsOf(slices.Concat(cut...)), textsOf(l))
	pages, good := impl.PagesOf(l)
	if !ok || !good || len(pages) < 2 {
		t.Fatal(pages, good, cut, ok)
	}
	for _, s := range pages {
		rows, _ := impl.ReadPage(s)
		checkNewTexts(t, "ReadPage", textsOf(rows), []string{s})
	}
	rows, _ := impl.RowsFrom(pages, "", endOfKeys)
	checkNewTexts(t, "RowsFrom", textsOf(rows), append(slices.Clone(pages), endOfKeys))
	for _, x := range l {
		key := strings.Clone(x.Key)
		found, _, _ := impl.FindRow(pages, key)
		if found != x {
			t.Errorf("FindRow(%q) = %q, asked for %q", key, found, x)
		}
		checkNewTexts(t, "FindRow", textsOf([]impl.Row{found}), append(slices.Clone(pages), key))
		x.Value = strings.Repeat("w", 80)
		put, ok := impl.PutInPages(pages, x)
		if !ok {
			t.Error(x)
		}
		checkNewTexts(t, "PutInPages", put, append(slices.Clone(pages), textsOf([]impl.Row{x})...))
		left, ok := impl.DropFromPages(pages, key)
		if !ok {
			t.Error(x)
		}
		checkNewTexts(t, "DropFromPages", left, append(slices.Clone(pages), key))
	}
}

// What was asked ahead has no part in an answer.
func TestPagesKeepNothing(t *testing.T) {
	s := "PG\x02\x00\x02\x01\x01aax1\x01\x01\x01\x00by"
	for range 3 {
		checkReadPage(t, s, []impl.Row{row("aa", "x", "1"), row("ab", "y", "")})
		checkPageCode(t, s[:len(s)-1], impl.PageForm)
		checkPageCode(t, s+s, impl.PageForm)
		checkFindRow(t, []string{s}, "ab", row("ab", "y", ""), 2)
		refusedPages(t, []string{s, s})
		checkPut(t, []string{s}, row("b", "", ""), []impl.Row{row("aa", "x", "1"), row("ab", "y", ""), row("b", "", "")})
		checkFindRow(t, []string{s}, "b", impl.Row{}, 1)
		checkDrop(t, []string{s}, "aa", pagesOf(t, []impl.Row{row("ab", "y", "")}))
		checkFill(t, []string{s}, len(s))
	}
}
