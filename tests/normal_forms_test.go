package tests

import (
	"slices"
	"testing"

	"loop.example/g00158/impl"
)

// formRows: what SortMarks, NormalD and NormalC of a list are, put down by hand.
var formRows = []struct {
	name   string
	l      []int
	sorted []int
	apart  []int
	whole  []int
}{
	{"nothing to do", []int{'a', 'x', 0xDF}, []int{'a', 'x', 0xDF}, []int{'a', 'x', 0xDF}, []int{'a', 'x', 0xDF}},
	{"in one step", []int{0xC7}, []int{0xC7}, []int{'C', 0x327}, []int{0xC7}},
	{"in two steps", []int{0x1EA4}, []int{0x1EA4}, []int{'A', 0x302, 0x301}, []int{0x1EA4}},
	{"in two steps, small", []int{0x1EA5}, []int{0x1EA5}, []int{'a', 0x302, 0x301}, []int{0x1EA5}},
	{"in two steps, two classes", []int{0x1E69}, []int{0x1E69}, []int{'s', 0x323, 0x307}, []int{0x1E69}},
	{"into one, then into two", []int{0x212B}, []int{0x212B}, []int{'A', 0x30A}, []int{0xC5}},
	{"into one, with a mark", []int{0x212B, 0x323}, []int{0x212B, 0x323}, []int{'A', 0x323, 0x30A}, []int{0xC5, 0x323}},
	{"two parts", []int{0xAC00}, []int{0xAC00}, []int{0x1100, 0x1161}, []int{0xAC00}},
	{"three parts", []int{0xAC01}, []int{0xAC01}, []int{0x1100, 0x1161, 0x11A8}, []int{0xAC01}},
	{"the last one", []int{0xD7A3}, []int{0xD7A3}, []int{0x1112, 0x1175, 0x11C2}, []int{0xD7A3}},
	{"two parts and one alone", []int{0xAC00, 0x11A8}, []int{0xAC00, 0x11A8}, []int{0x1100, 0x1161, 0x11A8}, []int{0xAC01}},
	{"three parts and one more", []int{0xAC01, 0x11A8}, []int{0xAC01, 0x11A8}, []int{0x1100, 0x1161, 0x11A8, 0x11A8}, []int{0xAC01, 0x11A8}},
	{"parts in a wrong order", []int{0x1161, 0x1100, 0x11A8}, []int{0x1161, 0x1100, 0x11A8}, []int{0x1161, 0x1100, 0x11A8}, []int{0x1161, 0x1100, 0x11A8}},
	{"a starter right behind a starter", []int{0x1100, 0x1161}, []int{0x1100, 0x1161}, []int{0x1100, 0x1161}, []int{0xAC00}},
	{"a starter with a mark between", []int{0x1100, 0x301, 0x1161}, []int{0x1100, 0x301, 0x1161}, []int{0x1100, 0x301, 0x1161}, []int{0x1100, 0x301, 0x1161}},
	{"a starter with the lowest mark between", []int{0x1100, 0x338, 0x1161}, []int{0x1100, 0x338, 0x1161}, []int{0x1100, 0x338, 0x1161}, []int{0x1100, 0x338, 0x1161}},
	{"a third part with a mark between", []int{0xAC00, 0x338, 0x11A8}, []int{0xAC00, 0x338, 0x11A8}, []int{0x1100, 0x1161, 0x338, 0x11A8}, []int{0xAC00, 0x338, 0x11A8}},
	{"unlike classes are sorted", []int{'x', 0x301, 0x323, 0x327, 0x338}, []int{'x', 0x338, 0x327, 0x323, 0x301}, []int{'x', 0x338, 0x327, 0x323, 0x301}, []int{'x', 0x338, 0x327, 0x323, 0x301}},
	{"one class stays in order", []int{'x', 0x308, 0x300, 0x30C, 0x301}, []int{'x', 0x308, 0x300, 0x30C, 0x301}, []int{'x', 0x308, 0x300, 0x30C, 0x301}, []int{'x', 0x308, 0x300, 0x30C, 0x301}},
	{"both", []int{'x', 0x30A, 0x331, 0x300, 0x323, 0x328, 0x327}, []int{'x', 0x328, 0x327, 0x331, 0x323, 0x30A, 0x300}, []int{'x', 0x328, 0x327, 0x331, 0x323, 0x30A, 0x300}, []int{'x', 0x328, 0x327, 0x331, 0x323, 0x30A, 0x300}},
	{"runs apart", []int{0x301, 0x323, 'x', 0x301, 0x338, 'x', 0x323, 0x327}, []int{0x323, 0x301, 'x', 0x338, 0x301, 'x', 0x327, 0x323}, []int{0x323, 0x301, 'x', 0x338, 0x301, 'x', 0x327, 0x323}, []int{0x323, 0x301, 'x', 0x338, 0x301, 'x', 0x327, 0x323}},
	{"marks alone", []int{0x301, 0x338}, []int{0x338, 0x301}, []int{0x338, 0x301}, []int{0x338, 0x301}},
	{"sorted as taken apart", []int{0xC1, 0x323}, []int{0xC1, 0x323}, []int{'A', 0x323, 0x301}, []int{0xC1, 0x323}},
	{"sorted, then put together", []int{'s', 0x307, 0x323}, []int{'s', 0x323, 0x307}, []int{'s', 0x323, 0x307}, []int{0x1E69}},
	{"blocked by its own class", []int{'A', 0x304, 0x301}, []int{'A', 0x304, 0x301}, []int{'A', 0x304, 0x301}, []int{'A', 0x304, 0x301}},
	{"blocked by its own class, lower", []int{'C', 0x328, 0x327}, []int{'C', 0x328, 0x327}, []int{'C', 0x328, 0x327}, []int{'C', 0x328, 0x327}},
	{"first of its class", []int{'C', 0x327, 0x328}, []int{'C', 0x327, 0x328}, []int{'C', 0x327, 0x328}, []int{0xC7, 0x328}},
	{"not blocked behind a lower class", []int{'A', 0x338, 0x301}, []int{'A', 0x338, 0x301}, []int{'A', 0x338, 0x301}, []int{0xC1, 0x338}},
	{"not blocked behind two lower ones", []int{'A', 0x327, 0x323, 0x301}, []int{'A', 0x327, 0x323, 0x301}, []int{'A', 0x327, 0x323, 0x301}, []int{0xC1, 0x327, 0x323}},
	{"goes in behind one that could not", []int{'e', 0x331, 0x302, 0x301}, []int{'e', 0x331, 0x302, 0x301}, []int{'e', 0x331, 0x302, 0x301}, []int{0xEA, 0x331, 0x301}},
	{"two go in behind one that could not", []int{'a', 0x331, 0x302, 0x301}, []int{'a', 0x331, 0x302, 0x301}, []int{'a', 0x331, 0x302, 0x301}, []int{0x1EA5, 0x331}},
	{"none between any more", []int{'A', 0x302, 0x301}, []int{'A', 0x302, 0x301}, []int{'A', 0x302, 0x301}, []int{0x1EA4}},
	{"of one class, the other way round", []int{'A', 0x301, 0x302}, []int{'A', 0x301, 0x302}, []int{'A', 0x301, 0x302}, []int{0xC1, 0x302}},
	{"the last starter alone", []int{'A', 'x', 0x301}, []int{'A', 'x', 0x301}, []int{'A', 'x', 0x301}, []int{'A', 'x', 0x301}},
	{"each its own starter", []int{'A', 0x301, 'e', 0x300}, []int{'A', 0x301, 'e', 0x300}, []int{'A', 0x301, 'e', 0x300}, []int{0xC1, 0xE8}},
	{"marks ahead of any starter", []int{0x301, 'A', 0x301}, []int{0x301, 'A', 0x301}, []int{0x301, 'A', 0x301}, []int{0x301, 0xC1}},
	{"a starter that is not listed", []int{0x10FFFF, 0x301, 0}, []int{0x10FFFF, 0x301, 0}, []int{0x10FFFF, 0x301, 0}, []int{0x10FFFF, 0x301, 0}},
	{"none at all", nil, nil, nil, nil},
}

// checkForms fails unless l's forms are these.
func checkForms(t *testing.T, l, sorted, apart, whole []int) {
	t.Helper()
	if got, ok := impl.SortMarks(l); !ok || !slices.Equal(got, sorted) {
		t.Errorf("SortMarks(%X) = %X %v, asked for %X", l, got, ok, sorted)
	}
	if got, ok := impl.NormalD(l); !ok || !slices.Equal(got, apart) {
		t.Errorf("NormalD(%X) = %X %v, asked for %X", l, got, ok, apart)
	}
	if got, ok := impl.NormalC(l); !ok || !slices.Equal(got, whole) {
		t.Errorf("NormalC(%X) = %X %v, asked for %X", l, got, ok, whole)
	}
	if is, ok := impl.IsNormalD(l); !ok || is != slices.Equal(l, apart) {
		t.Errorf("IsNormalD(%X) = %v %v", l, is, ok)
	}
}

// checkPromise fails unless taken apart twice is once, and put together it is the same text.
func checkPromise(t *testing.T, l []int) {
	t.Helper()
	apart, _ := impl.NormalD(l)
	whole, _ := impl.NormalC(l)
	if twice, ok := impl.NormalD(apart); !ok || !slices.Equal(twice, apart) {
		t.Errorf("NormalD of the NormalD %X = %X %v", apart, twice, ok)
	}
	if again, ok := impl.NormalD(whole); !ok || !slices.Equal(again, apart) {
		t.Errorf("NormalD of the NormalC %X = %X %v, asked for %X", whole, again, ok, apart)
	}
	if twice, ok := impl.NormalC(whole); !ok || !slices.Equal(twice, whole) {
		t.Errorf("NormalC of the NormalC %X = %X %v", whole, twice, ok)
	}
	if is, ok := impl.IsNormalD(apart); !ok || !is {
		t.Errorf("IsNormalD of the NormalD %X = %v %v", apart, is, ok)
	}
	for _, other := range [][]int{l, apart, whole} {
		if same, ok := impl.SameRunes(l, other); !ok || !same {
			t.Errorf("SameRunes(%X, %X) = %v %v", l, other, same, ok)
		}
		if same, ok := impl.SameRunes(other, l); !ok || !same {
			t.Errorf("SameRunes(%X, %X) = %v %v", other, l, same, ok)
		}
	}
}

func TestFormsByHand(t *testing.T) {
	for _, f := range formRows {
		t.Run(f.name, func(t *testing.T) {
			checkForms(t, f.l, f.sorted, f.apart, f.whole)
			checkPromise(t, f.l)
		})
	}
}

func TestFormsOfEachRuneThatIsTakenApart(t *testing.T) {
	for r := range slowApart {
		apart := slowNormalD([]int{r})
		whole := []int{r}
		if r == 0x212B {
			whole = []int{0xC5}
		}
		checkForms(t, []int{r}, []int{r}, apart, whole)
		checkForms(t, apart, apart, apart, whole)
		checkPromise(t, []int{'x', r, 0x338})
	}
}

// slowNormalD takes apart step by step, as long as a step changes something, and changes places of neighbours likewise.
func slowNormalD(l []int) []int {
	l = slices.Clone(l)
	for at := 0; at < len(l); {
		if parts := slowApart[l[at]]; parts != nil {
			l = slices.Replace(l, at, at+1, parts...)
		} else {
			at++
		}
	}
	return slowSort(l)
}

func slowSort(l []int) []int {
	l = slices.Clone(l)
	for changed := true; changed; {
		changed = false
		for i := 1; i < len(l); i++ {
			ahead, class := slowClass[l[i-1]], slowClass[l[i]]
			if class > 0 && ahead > class {
				l[i-1], l[i] = l[i], l[i-1]
				changed = true
			}
		}
	}
	return l
}

// slowNormalC looks from each rune back to its last starter, as the list is so far.
func slowNormalC(l []int) []int {
	l = slowNormalD(l)
	for at := 1; at < len(l); {
		starter, blocked := at-1, false
		for starter >= 0 && slowClass[l[starter]] > 0 {
			blocked = blocked || slowClass[l[starter]] >= slowClass[l[at]]
			starter--
		}
		if starter < 0 || blocked {
			at++
			continue
		}
		whole, ok := slowTogether[[2]int{l[starter], l[at]}]
		if !ok {
			at++
			continue
		}
		l[starter] = whole
		l = slices.Delete(l, at, at+1)
	}
	return l
}

// checkAllLists looks at all lists of up to n of these runes.
func checkAllLists(t *testing.T, runes []int, n int) {
	t.Helper()
	lists := [][]int{nil}
	for length := 0; length <= n; length++ {
		var longer [][]int
		for _, l := range lists {
			checkForms(t, l, slowSort(l), slowNormalD(l), slowNormalC(l))
			checkPromise(t, l)
			if t.Failed() {
				return
			}
			if length == n {
				continue
			}
			for _, r := range runes {
				longer = append(longer, append(slices.Clone(l), r))
			}
		}
		lists = longer
	}
}

func TestAllShortLists(t *testing.T) {
	checkAllLists(t, []int{
		'A', 'a', 's', 'C', 'x', 0x300, 0x301, 0x302, 0x307, 0x30A, 0x30C, 0x323, 0x331, 0x327, 0x328, 0x338,
		0xC1, 0xC2, 0xC7, 0x1E63, 0x1E69, 0x1EA4, 0x212B, 0x1100, 0x1161, 0x11A8, 0xAC00, 0xAC01,
	}, 3)
	checkAllLists(t, []int{'A', 's', 0x301, 0x302, 0x307, 0x323, 0x327, 0x338, 0x1EA4}, 5)
	checkAllLists(t, []int{0x1100, 0x1112, 0x1161, 0x11A8, 0x301, 0xAC00, 0xAC01}, 5)
}

func TestSameRunesOfUnlikeTexts(t *testing.T) {
	for _, p := range []struct {
		a, b []int
		same bool
	}{
		{nil, nil, true},
		{nil, []int{}, true},
		{nil, []int{'a'}, false},
		{[]int{'a'}, []int{'a', 'a'}, false},
		{[]int{'a'}, []int{'A'}, false},
		{[]int{0xC5}, []int{0x212B}, true},
		{[]int{0x212B}, []int{'A', 0x30A}, true},
		{[]int{0x212B}, []int{'a', 0x30A}, false},
		{[]int{0x1E69}, []int{'s', 0x307, 0x323}, true},
		{[]int{'x', 0x323, 0x301}, []int{'x', 0x301, 0x323}, true},
		{[]int{'x', 0x300, 0x301}, []int{'x', 0x301, 0x300}, false},
		{[]int{0x1EA4}, []int{0xC1, 0x302}, false},
		{[]int{0xAC01}, []int{0xAC00, 0x11A8}, true},
		{[]int{0xAC00}, []int{0xAC01}, false},
	} {
		for _, q := range [][2][]int{{p.a, p.b}, {p.b, p.a}} {
			if same, ok := impl.SameRunes(q[0], q[1]); !ok || same != p.same {
				t.Errorf("SameRunes(%X, %X) = %v %v", q[0], q[1], same, ok)
			}
		}
	}
}
