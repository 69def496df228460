package tests

import (
	"slices"
	"strings"
	"testing"

	"loop.example/g00158/impl"
)

// checkPut asks for pages of these lists, and that the row is found in them with all others.
func checkPut(t *testing.T, pages []string, x impl.Row, want ...[]impl.Row) []string {
	t.Helper()
	var slow []string
	for _, l := range want {
		slow = append(slow, slowPage(l))
	}
	got, ok := impl.PutInPages(pages, x)
	if !ok || !slices.Equal(got, slow) {
		t.Errorf("PutInPages(%q, %q) = %q %v, asked for %q", pages, x, got, ok, slow)
		return nil
	}
	if y, looks, ok := impl.FindRow(got, x.Key); y != x || looks > 8 || !ok {
		t.Errorf("what was put into %q is found as %q %d %v", got, y, looks, ok)
	}
	before, _ := impl.RowsFrom(pages, "", endOfKeys)
	checkFrom(t, got, "", endOfKeys, slowWith(before, x))
	return got
}

// No Key is as great as this one.
var endOfKeys = strings.Repeat("\xff", 201)

func refusedPut(t *testing.T, pages []string, x impl.Row) {
	t.Helper()
	if got, ok := impl.PutInPages(pages, x); ok || len(got) != 0 {
		t.Errorf("PutInPages(%q, %q) = %q %v", pages, x, got, ok)
	}
}

func checkDrop(t *testing.T, pages []string, key string, want []string) {
	t.Helper()
	got, ok := impl.DropFromPages(pages, key)
	if !ok || !slices.Equal(got, want) {
		t.Errorf("DropFromPages(%q, %q) = %q %v, asked for %q", pages, key, got, ok, want)
		return
	}
	if y, _, ok := impl.FindRow(got, key); y != (impl.Row{}) || !ok {
		t.Errorf("what was dropped from %q is found as %q %v", got, y, ok)
	}
	left, _ := impl.RowsFrom(pages, "", endOfKeys)
	left = slices.DeleteFunc(left, func(x impl.Row) bool { return x.Key == key })
	checkFrom(t, got, "", endOfKeys, left)
}

func refusedDrop(t *testing.T, pages []string, key string) {
	t.Helper()
	if got, ok := impl.DropFromPages(pages, key); ok || len(got) != 0 {
		t.Errorf("DropFromPages(%q, %q) = %q %v", pages, key, got, ok)
	}
}

func checkFill(t *testing.T, pages []string, want int) {
	t.Helper()
	if n, ok := impl.LeastFill(pages); n != want || !ok {
		t.Errorf("LeastFill(%q) = %d %v, asked for %d", pages, n, ok, want)
	}
}

func TestPutInNoPages(t *testing.T) {
	for _, none := range [][]string{nil, {}} {
		for _, x := range []impl.Row{{}, row("a", "", ""), row("", "t", "v"), cell("a", 165), cell(strings.Repeat("k", 133), 297), row(strings.Repeat("k", 200), strings.Repeat("t", 80), strings.Repeat("v", 13))} {
			checkPut(t, none, x, []impl.Row{x})
		}
	}
}

// A row that is not good alone, or that fits into no page: also where one with its Key is there.
func TestPutOfRowsThatFitNowhere(t *testing.T) {
	k := strings.Repeat("k", 200)
	for _, x := range []impl.Row{
		row(k+"k", "", ""),
		row("a", strings.Repeat("t", 81), ""),
		row("a", "", strings.Repeat("v", 81)),
		row(strings.Repeat("k", 1<<16), "", ""),
		row(k, strings.Repeat("t", 80), strings.Repeat("v", 14)),
		row(k, strings.Repeat("t", 80), strings.Repeat("v", 80)),
		row(k[:134], strings.Repeat("t", 80), strings.Repeat("v", 80)),
	} {
		for _, pages := range [][]string{
			nil,
			pagesOf(t, []impl.Row{row("a", "x", "y")}),
			pagesOf(t, []impl.Row{row(k, "", "")}),
			pagesOf(t, []impl.Row{row(k[:133], "", "")}),
			pagesOf(t, []impl.Row{row(k[:134], "", "")}, []impl.Row{row(k, "", ""), row("l", "", "")}),
		} {
			refusedPut(t, pages, x)
		}
	}
	checkPut(t, nil, row(k[:133], strings.Repeat("t", 80), strings.Repeat("v", 80)), []impl.Row{row(k[:133], strings.Repeat("t", 80), strings.Repeat("v", 80))})
}

func TestPutIntoOnePage(t *testing.T) {
	b, d, f := row("b", "bt", "bv"), row("d", "dt", "dv"), row("f", "ft", "fv")
	pages := pagesOf(t, []impl.Row{b, d, f})
	for _, x := range []impl.Row{row("", "", ""), row("a", "x", "y"), row("a\xff", "", "")} {
		checkPut(t, pages, x, []impl.Row{x, b, d, f})
	}
	for _, x := range []impl.Row{row("b\x00", "", ""), row("c", "x", "y"), row("cc", "", "")} {
		checkPut(t, pages, x, []impl.Row{b, x, d, f})
	}
	for _, x := range []impl.Row{row("g", "", ""), row("f\x00", "x", "y"), row("\xff", "", "")} {
		checkPut(t, pages, x, []impl.Row{b, d, f, x})
	}
	// One with its Key is there: longer, shorter, the same and none of them at all.
	for _, p := range [][2]string{{"longer text", "longer value"}, {"x", "y"}, {"bt", "bv"}, {"", ""}, {"x", "longer value"}, {"longer text", ""}} {
		x, y, z := row("b", p[0], p[1]), row("d", p[0], p[1]), row("f", p[0], p[1])
		checkPut(t, pages, x, []impl.Row{x, d, f})
		checkPut(t, pages, y, []impl.Row{b, y, f})
		checkPut(t, pages, z, []impl.Row{b, d, z})
	}
}

func TestPutBetweenPages(t *testing.T) {
	b, d, f, h, j := row("b", "", ""), row("d", "", ""), row("f", "", ""), row("h", "", ""), row("j", "", "")
	pages := pagesOf(t, []impl.Row{b, d}, []impl.Row{f}, []impl.Row{h, j})
	for _, p := range []struct {
		key  string
		want [][]impl.Row
	}{
		{"a", [][]impl.Row{{row("a", "x", "y"), b, d}, {f}, {h, j}}},
		{"b", [][]impl.Row{{row("b", "x", "y"), d}, {f}, {h, j}}},
		{"c", [][]impl.Row{{b, row("c", "x", "y"), d}, {f}, {h, j}}},
		{"d", [][]impl.Row{{b, row("d", "x", "y")}, {f}, {h, j}}},
		// Between two pages it is the second one's.
		{"d\x00", [][]impl.Row{{b, d}, {row("d\x00", "x", "y"), f}, {h, j}}},
		{"e", [][]impl.Row{{b, d}, {row("e", "x", "y"), f}, {h, j}}},
		{"f", [][]impl.Row{{b, d}, {row("f", "x", "y")}, {h, j}}},
		{"g", [][]impl.Row{{b, d}, {f}, {row("g", "x", "y"), h, j}}},
		{"h", [][]impl.Row{{b, d}, {f}, {row("h", "x", "y"), j}}},
		{"i", [][]impl.Row{{b, d}, {f}, {h, row("i", "x", "y"), j}}},
		{"j", [][]impl.Row{{b, d}, {f}, {h, row("j", "x", "y")}}},
		{"k", [][]impl.Row{{b, d}, {f}, {h, j, row("k", "x", "y")}}},
	} {
		checkPut(t, pages, row(p.key, "x", "y"), p.want...)
	}
}

func TestPutWhereThePageIsFull(t *testing.T) {
	a, b, c, d := cell("a", 100), cell("b", 50), cell("c", 50), cell("d", 97)
	pages := pagesOf(t, []impl.Row{a, b, c})
	// Exactly 300 bytes, and one byte over it. The first two have 153 bytes, which is the half of 306 and of 307.
	checkPut(t, pages, d, []impl.Row{a, b, c, d})
	checkPut(t, pages, cell("d", 98), []impl.Row{a}, []impl.Row{b, c, cell("d", 98)})
	checkPut(t, pages, cell("d", 104), []impl.Row{a, b}, []impl.Row{c, cell("d", 104)})
	checkPut(t, pages, cell("d", 103), []impl.Row{a, b}, []impl.Row{c, cell("d", 103)})
	checkPut(t, pages, cell("d", 102), []impl.Row{a}, []impl.Row{b, c, cell("d", 102)})
	checkPut(t, pages, cell("d", 105), []impl.Row{a, b}, []impl.Row{c, cell("d", 105)})
	// Ahead of the others and between them.
	checkPut(t, pages, cell("Z", 98), []impl.Row{cell("Z", 98)}, []impl.Row{a, b, c})
	checkPut(t, pages, cell("aa", 99), []impl.Row{a}, []impl.Row{cell("aa", 99), b, c})
	checkPut(t, pages, cell("bb", 99), []impl.Row{a}, []impl.Row{b, cell("bb", 99), c})
	// In the place of one that is there.
	full := pagesOf(t, []impl.Row{a, b, c, d})
	checkPut(t, full, cell("b", 49), []impl.Row{a, cell("b", 49), c, d})
	checkPut(t, full, cell("b", 51), []impl.Row{a}, []impl.Row{cell("b", 51), c, d})
	checkPut(t, full, cell("d", 98), []impl.Row{a}, []impl.Row{b, c, cell("d", 98)})
	checkPut(t, full, cell("a", 101), []impl.Row{cell("a", 101)}, []impl.Row{b, c, d})
	checkPut(t, full, cell("a", 95), []impl.Row{cell("a", 95), b, c, d})
	checkPut(t, full, row("e", "", ""), []impl.Row{a}, []impl.Row{b, c, d, row("e", "", "")})
	checkPut(t, full, row("e", "t", ""), []impl.Row{a, b}, []impl.Row{c, d, row("e", "t", "")})
	// The pages beside it stay as they are, though there is room in them.
	y, z := row("Y", "", ""), row("x", "", "")
	three := pagesOf(t, []impl.Row{y}, []impl.Row{a, b, c, d}, []impl.Row{z})
	checkPut(t, three, row("bb", "", "v"), []impl.Row{y}, []impl.Row{a, b}, []impl.Row{row("bb", "", "v"), c, d}, []impl.Row{z})
	checkPut(t, three, row("Z", "", ""), []impl.Row{y}, []impl.Row{row("Z", "", ""), a}, []impl.Row{b, c, d}, []impl.Row{z})
	checkPut(t, three, row("e", "", ""), []impl.Row{y}, []impl.Row{a, b, c, d}, []impl.Row{row("e", "", ""), z})
}

// Small rows: the first part has as many as may be, not one alone.
func TestPutPartsByBytes(t *testing.T) {
	var l []impl.Row
	for i := range 29 {
		l = append(l, row(string([]byte{byte(65 + 2*i)}), "tttt", "v"))
	}
	// 3 + 29 * 10 bytes, and 10 more: of 303 the half is 151, and 14 rows have 143.
	x := row("B", "tttt", "v")
	checkPut(t, pagesOf(t, l), x, append([]impl.Row{l[0], x}, l[1:13]...), l[13:])
	y := row("~", "tttt", "v")
	checkPut(t, pagesOf(t, l), y, l[:14], append(slices.Clone(l[14:]), y))
	// What is shared counts, and at the front of the second part no more.
	k := strings.Repeat("k", 100)
	a, b, c := cell(k+"a", 110), cell(k+"b", 130), cell(k+"c", 180)
	pages := pagesOf(t, []impl.Row{a, b, c})
	if len(pages[0]) != 3+110+30+80 {
		t.Fatal(len(pages[0]))
	}
	checkPut(t, pages, cell(k+"d", 177), []impl.Row{a, b, c, cell(k+"d", 177)})
	checkPut(t, pages, cell(k+"d", 178), []impl.Row{a, b}, []impl.Row{c, cell(k+"d", 178)})
}

func TestPutWhereTheFirstPartIsOneRowAlone(t *testing.T) {
	a := cell(strings.Repeat("a", 100), 250)
	checkPut(t, pagesOf(t, []impl.Row{a}), cell("b", 48), []impl.Row{a}, []impl.Row{cell("b", 48)})
	checkPut(t, pagesOf(t, []impl.Row{a}), cell("b", 150), []impl.Row{a}, []impl.Row{cell("b", 150)})
	checkPut(t, pagesOf(t, []impl.Row{cell("b", 150)}), a, []impl.Row{a}, []impl.Row{cell("b", 150)})
	checkPut(t, pagesOf(t, []impl.Row{a, cell("b", 20), cell("c", 20)}), cell("d", 20), []impl.Row{a}, []impl.Row{cell("b", 20), cell("c", 20), cell("d", 20)})
	checkPut(t, pagesOf(t, []impl.Row{cell("b", 20), cell("c", 20)}), cell(strings.Repeat("a", 133), 297), []impl.Row{cell(strings.Repeat("a", 133), 297)}, []impl.Row{cell("b", 20), cell("c", 20)})
	// Two that fill a page each.
	b := cell(strings.Repeat("b", 133), 297)
	checkPut(t, pagesOf(t, []impl.Row{b}), cell(strings.Repeat("c", 133), 297), []impl.Row{b}, []impl.Row{cell(strings.Repeat("c", 133), 297)})
	checkPut(t, pagesOf(t, []impl.Row{b}), cell(strings.Repeat("a", 133), 297), []impl.Row{cell(strings.Repeat("a", 133), 297)}, []impl.Row{b})
}

func TestPutWhereWhatIsLeftIsPartedAgain(t *testing.T) {
	a, b, c := cell("a", 20), cell(strings.Repeat("b", 120), 270), cell(strings.Repeat("c", 130), 290)
	checkPut(t, pagesOf(t, []impl.Row{a, b}), c, []impl.Row{a}, []impl.Row{b}, []impl.Row{c})
	// The row that is put stands in the middle, alone in its page.
	d, e := cell("d", 140), cell("e", 150)
	checkPut(t, pagesOf(t, []impl.Row{a, d, cell("f", 130)}), cell(strings.Repeat("e", 130), 290), []impl.Row{a, d}, []impl.Row{cell(strings.Repeat("e", 130), 290)}, []impl.Row{cell("f", 130)})
	// What is left of 303 bytes is parted by its own half, which is 151.
	checkPut(t, pagesOf(t, []impl.Row{cell("a", 147), d}), cell("c", 160), []impl.Row{cell("a", 147)}, []impl.Row{cell("c", 160)}, []impl.Row{d})
	checkPut(t, pagesOf(t, []impl.Row{a, cell("b", 120), e}), cell("c", 147), []impl.Row{a, cell("b", 120)}, []impl.Row{cell("c", 147), e})
	// With the page ahead and the one behind.
	pages := pagesOf(t, []impl.Row{row("Z", "", "")}, []impl.Row{a, b}, []impl.Row{row("z", "", "")})
	checkPut(t, pages, cell(strings.Repeat("a", 130), 290), []impl.Row{row("Z", "", "")}, []impl.Row{a}, []impl.Row{cell(strings.Repeat("a", 130), 290)}, []impl.Row{b}, []impl.Row{row("z", "", "")})
}

func TestPutInto40PagesAnd41(t *testing.T) {
	l, parts := wanting(40, 0)
	pages := pagesOf(t, parts...)
	for i, x := range l {
		// There is room for 148 bytes ahead of the next row, and behind the last one, whose Key it shares, too.
		behind, at, size := x.Key+"x", i+1, 148
		if i == 39 {
			at, size = i, 149
		}
		fits := cell(behind, size)
		want := slices.Clone(parts)
		want[at] = slowWith(parts[at], fits)
		checkPut(t, pages, fits, want...)
		refusedPut(t, pages, cell(behind, size+1))
		want = slices.Clone(parts)
		want[i] = []impl.Row{row(x.Key, "", "")}
		checkPut(t, pages, row(x.Key, "", ""), want...)
	}
	for _, n := range []int{38, 39} {
		_, parts := wanting(n, 0)
		long := cell("\xff", 160)
		checkPut(t, pagesOf(t, parts...), long, append(slices.Clone(parts), []impl.Row{long})...)
	}
	// Of 39 pages one is parted into three.
	_, parts = wanting(38, 0)
	a, b, c := cell("\xf0", 20), cell(strings.Repeat("\xf1", 120), 270), cell(strings.Repeat("\xf2", 130), 290)
	both, apart := [][]impl.Row{{a, b}}, [][]impl.Row{{a}, {b}, {c}}
	checkPut(t, pagesOf(t, slices.Concat(parts[1:], both)...), c, slices.Concat(parts[1:], apart)...)
	refusedPut(t, pagesOf(t, slices.Concat(parts, both)...), c)
}

func TestPutOf60RowsAnd61(t *testing.T) {
	l := rowsOf(60)
	for _, parts := range [][][]impl.Row{{l[:30], l[30:]}, {l[:20], l[20:40], l[40:]}} {
		pages := pagesOf(t, parts...)
		for _, x := range l {
			refusedPut(t, pages, row(x.Key[:2], "", ""))
			refusedPut(t, pages, row(x.Key+"x", "", ""))
			// In the place of one that is there there are no more.
			other := row(x.Key, "x", "y")
			var want [][]impl.Row
			for _, part := range parts {
				if slices.ContainsFunc(part, func(y impl.Row) bool { return y.Key == x.Key }) {
					part = slowWith(part, other)
				}
				want = append(want, part)
			}
			checkPut(t, pages, other, want...)
		}
		refusedPut(t, pages, impl.Row{})
		refusedPut(t, pages, row("\xff", "", ""))
	}
	checkPut(t, pagesOf(t, l[:30], l[30:59]), l[59], l[:30], l[30:])
	// A page of 59 rows takes no more; parted they are 60.
	l, _ = grown(0, 61)
	checkPut(t, pagesOf(t, l[:59]), l[59], l[:29], l[29:60])
	refusedPut(t, pagesOf(t, l[:29], l[29:60]), l[60])
	// With more than 60 all is refused, also what would stand in the place of another.
	for _, x := range []impl.Row{row("m", "", ""), row("m", "x", ""), row("", "", ""), row("kk", "", ""), row("z", "", "")} {
		refusedPut(t, pagesOf(t, l[:59], []impl.Row{row("l", "", ""), row("m", "", "")}), x)
	}
	checkPut(t, pagesOf(t, l[:59], []impl.Row{row("l", "", "")}), row("l", "x", ""), l[:59], []impl.Row{row("l", "x", "")})
}

func TestDropTheOnlyRow(t *testing.T) {
	for _, x := range []impl.Row{{}, row("a", "x", "y"), cell(strings.Repeat("k", 133), 297)} {
		pages := pagesOf(t, []impl.Row{x})
		checkDrop(t, pages, x.Key, nil)
		refusedDrop(t, pages, x.Key+"x")
	}
}

func TestDropWhatIsNotThere(t *testing.T) {
	for _, key := range []string{"", "a", "b", endOfKeys} {
		refusedDrop(t, nil, key)
		refusedDrop(t, []string{}, key)
	}
	for _, n := range []int{1, 2, 3, 8, 40} {
		pages, lists := shelf(t, n)
		for _, x := range slices.Concat(lists...) {
			refusedDrop(t, pages, x.Key[:len(x.Key)-1])
			refusedDrop(t, pages, x.Key+"\x00")
			refusedDrop(t, pages, x.Text)
		}
		refusedDrop(t, pages, "")
		refusedDrop(t, pages, "k")
		refusedDrop(t, pages, "l")
		refusedDrop(t, pages, endOfKeys)
	}
}

// A page without rows goes, and those beside it stay as they are, though they would fit into one.
func TestDropTheLastRowOfAPage(t *testing.T) {
	a, b, c, d := row("a", "", ""), row("b", "", ""), row("c", "", ""), row("d", "", "")
	pages := pagesOf(t, []impl.Row{a}, []impl.Row{b}, []impl.Row{c}, []impl.Row{d})
	for i, key := range []string{"a", "b", "c", "d"} {
		checkDrop(t, pages, key, slices.Concat(pages[:i], pages[i+1:]))
	}
	pages, lists := shelf(t, 3)
	small := slices.Concat(pages[:1], pagesOf(t, []impl.Row{row("k01", "", "")}), pages[2:])
	checkDrop(t, small, "k01", slices.Concat(pages[:1], pages[2:]))
	checkDrop(t, pages, lists[1][2].Key, pagesOf(t, slices.Concat(lists[0], lists[1][:2]), lists[2]))
}

func TestDropDrawsTogether(t *testing.T) {
	a, c, e, g := cell("a", 100), cell("c", 100), cell("e", 100), cell("g", 97)
	for _, p := range []struct {
		name  string
		lists [][]impl.Row
		key   string
		want  [][]impl.Row
	}{
		{"with the page ahead, which is full then", [][]impl.Row{{a, c}, {g, row("x", "", "")}}, "x", [][]impl.Row{{a, c, g}}},
		{"with the page ahead there is one byte too many", [][]impl.Row{{a, c}, {cell("g", 98), row("x", "", "")}}, "x", [][]impl.Row{{a, c}, {cell("g", 98)}}},
		{"with the next page, which is full then", [][]impl.Row{{row("B", "", ""), cell("C", 97)}, {c, e}}, "B", [][]impl.Row{{cell("C", 97), c, e}}},
		{"with the next page there is one byte too many", [][]impl.Row{{row("B", "", ""), cell("C", 98)}, {c, e}}, "B", [][]impl.Row{{cell("C", 98)}, {c, e}}},
		{"with both it is the page ahead", [][]impl.Row{{a}, {c, row("d", "", "")}, {g}}, "d", [][]impl.Row{{a, c}, {g}}},
		{"the page ahead, though the next one is shorter", [][]impl.Row{{a, row("b", "", "")}, {c, row("d", "", "")}, {row("x", "", "")}}, "d", [][]impl.Row{{a, row("b", "", ""), c}, {row("x", "", "")}}},
		{"all three would fit, two are put together", [][]impl.Row{{row("a", "", "")}, {row("c", "", ""), row("d", "", "")}, {row("x", "", "")}}, "c", [][]impl.Row{{row("a", "", ""), row("d", "", "")}, {row("x", "", "")}}},
		{"with the next one only", [][]impl.Row{{a, cell("b", 150)}, {c, row("d", "", "")}, {e}}, "d", [][]impl.Row{{a, cell("b", 150)}, {c, e}}},
		{"with neither", [][]impl.Row{{a, cell("b", 150)}, {c, row("d", "", "")}, {e, cell("f", 150)}}, "d", [][]impl.Row{{a, cell("b", 150)}, {c}, {e, cell("f", 150)}}},
		{"the first page has none ahead", [][]impl.Row{{a, row("b", "", "")}, {c}, {e}}, "b", [][]impl.Row{{a, c}, {e}}},
		{"the last page has none behind", [][]impl.Row{{a}, {c}, {e, row("f", "", "")}}, "f", [][]impl.Row{{a}, {c, e}}},
		{"one page alone", [][]impl.Row{{a, c}}, "a", [][]impl.Row{{c}}},
		{"pages further off stay, though they would fit", [][]impl.Row{{row("a", "", "")}, {row("b", "", "")}, {c, cell("d", 150), row("dd", "", "")}, {e, cell("f", 150)}, {row("x", "", "")}, {row("y", "", "")}}, "dd", [][]impl.Row{{row("a", "", "")}, {row("b", "", ""), c, cell("d", 150)}, {e, cell("f", 150)}, {row("x", "", "")}, {row("y", "", "")}}},
	} {
		t.Run(p.name, func(t *testing.T) {
			checkDrop(t, pagesOf(t, p.lists...), p.key, pagesOf(t, p.want...))
		})
	}
}

// What is shared is left out where two pages go together, and told where the row ahead is gone.
func TestDropAndWhatIsShared(t *testing.T) {
	k := strings.Repeat("k", 100)
	a, b, c := cell(k+"a", 150), cell(k+"b", 150), cell(k+"c", 150)
	checkDrop(t, pagesOf(t, []impl.Row{a, b, c}), k+"a", pagesOf(t, []impl.Row{b, c}))
	checkDrop(t, pagesOf(t, []impl.Row{a, b, c}), k+"b", pagesOf(t, []impl.Row{a, c}))
	checkDrop(t, pagesOf(t, []impl.Row{row("a", "", ""), a, b}), k+"a", pagesOf(t, []impl.Row{row("a", "", ""), b}))
	long := cell(k+"d", 200)
	checkDrop(t, pagesOf(t, []impl.Row{a, b}, []impl.Row{row(k+"c", "", ""), cell(k+"d", 197)}), k+"c", pagesOf(t, []impl.Row{a, b, cell(k+"d", 197)}))
	checkDrop(t, pagesOf(t, []impl.Row{a, b}, []impl.Row{row(k+"c", "", ""), long}), k+"c", pagesOf(t, []impl.Row{a, b}, []impl.Row{long}))
}

func TestLeastFill(t *testing.T) {
	checkFill(t, nil, 0)
	checkFill(t, []string{}, 0)
	checkFill(t, pagesOf(t, []impl.Row{{}}), 7)
	checkFill(t, pagesOf(t, []impl.Row{cell(strings.Repeat("k", 133), 297)}), 300)
	for _, p := range []struct {
		sizes []int
		want  int
	}{
		{[]int{100}, 103},
		{[]int{100, 50}, 53},
		{[]int{50, 100}, 53},
		{[]int{100, 50, 100}, 53},
		{[]int{50, 50, 50}, 53},
		{[]int{90, 80, 70, 60, 5}, 8},
		{[]int{5, 60, 70, 80, 90}, 8},
		{[]int{160, 161, 159, 162}, 162},
	} {
		var lists [][]impl.Row
		for i, n := range p.sizes {
			lists = append(lists, []impl.Row{cell(string([]byte{byte(65 + i)}), n)})
		}
		checkFill(t, pagesOf(t, lists...), p.want)
	}
	for n := 1; n <= 40; n++ {
		pages, lists := shelf(t, n)
		lists[n*7%n] = lists[n*7%n][:1]
		checkFill(t, pagesOf(t, lists...), len(pagesOf(t, lists[n*7%n])[0]))
		checkFill(t, pages, len(pages[0]))
	}
}

// slowPut: the lists with x put in; and whether there are no more pages and rows than may be.
func slowPut(lists [][]impl.Row, x impl.Row) ([][]impl.Row, bool) {
	if !slowFits([]impl.Row{x}) {
		return nil, false
	}
	if len(lists) == 0 {
		return [][]impl.Row{{x}}, true
	}
	at := 0
	for at < len(lists)-1 && lists[at][len(lists[at])-1].Key < x.Key {
		at++
	}
	put := slices.Concat(lists[:at], slowPart(slowWith(lists[at], x)), lists[at+1:])
	return put, len(put) <= 40 && len(slices.Concat(put...)) <= 60
}

func slowPart(l []impl.Row) [][]impl.Row {
	if slowFits(l) {
		return [][]impl.Row{l}
	}
	half := len(slowPage(l)) / 2
	n := len(l) - 1
	for n > 1 && len(slowPage(l[:n])) > half {
		n--
	}
	return append([][]impl.Row{l[:n]}, slowPart(l[n:])...)
}

// slowDrop: the lists without the row of that Key; and whether it was there.
func slowDrop(lists [][]impl.Row, key string) ([][]impl.Row, bool) {
	for at, l := range lists {
		left := slices.DeleteFunc(slices.Clone(l), func(x impl.Row) bool { return x.Key == key })
		ahead, behind := lists[:at], lists[at+1:]
		switch {
		case len(left) == len(l):
			continue
		case len(left) == 0:
			return slices.Concat(ahead, behind), true
		case at > 0 && slowFits(slices.Concat(lists[at-1], left)):
			return slices.Concat(lists[:at-1], [][]impl.Row{slices.Concat(lists[at-1], left)}, behind), true
		case len(behind) > 0 && slowFits(slices.Concat(left, behind[0])):
			return slices.Concat(ahead, [][]impl.Row{slices.Concat(left, behind[0])}, behind[1:]), true
		}
		return slices.Concat(ahead, [][]impl.Row{left}, behind), true
	}
	return nil, false
}

// Puts and drops by a fixed rule, one behind the other, each held against the lists.
func TestManyPutsAndDrops(t *testing.T) {
	count := map[string]int{}
	for seed := uint32(1); seed <= 300; seed++ {
		next := numbers(seed)
		var lists [][]impl.Row
		var pages []string
		puts := 1 + next(9)
		for range 150 {
			x := manyRow(next)
			if next(3) == 0 && len(lists) > 0 {
				l := lists[next(len(lists))]
				x.Key = l[next(len(l))].Key
			}
			if next(10) < puts {
				want, ok := slowPut(lists, x)
				if !ok {
					count["refused"]++
					refusedPut(t, pages, x)
					continue
				}
				count["parted into "+string(rune('0'+len(want)-len(lists)))]++
				lists, pages = want, checkPut(t, pages, x, want...)
			} else {
				want, ok := slowDrop(lists, x.Key)
				if !ok {
					count["not there"]++
					refusedDrop(t, pages, x.Key)
					continue
				}
				count["drawn by "+string(rune('0'+len(lists)-len(want)))]++
				checkDrop(t, pages, x.Key, slowPages(want))
				lists, pages = want, slowPages(want)
			}
			checkFill(t, pages, slowFill(pages))
			if t.Failed() {
				return
			}
		}
	}
	for _, name := range []string{"refused", "not there", "parted into 0", "parted into 1", "parted into 2", "drawn by 0", "drawn by 1"} {
		if count[name] < 100 {
			t.Errorf("%s: only %d", name, count[name])
		}
	}
}

func slowPages(lists [][]impl.Row) []string {
	var pages []string
	for _, l := range lists {
		pages = append(pages, slowPage(l))
	}
	return pages
}

func slowFill(pages []string) int {
	if len(pages) == 0 {
		return 0
	}
	return len(slices.MinFunc(pages, func(a, b string) int { return len(a) - len(b) }))
}
