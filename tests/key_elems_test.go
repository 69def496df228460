package tests

import (
	"slices"
	"strings"
	"testing"

	"loop.example/g00158/impl"
)

// lists of runes, for short.
type lists = [][]int

// ranked: rules with an Entry of each of these runes, all of their weights unlike.
func ranked(l ...[]int) impl.Rules {
	r := impl.Rules{Levels: 3}
	for i, runes := range l {
		r.Entries = append(r.Entries, put(10001+i, 101+i, 11+i, runes...))
	}
	return r
}

// elemsOf: of each run the elem of its Entry, or the base's elems of its only rune.
func elemsOf(t *testing.T, r impl.Rules, runs lists) []impl.Elem {
	t.Helper()
	var l []impl.Elem
	for _, run := range runs {
		at := slices.IndexFunc(r.Entries, func(x impl.Entry) bool { return slices.Equal(x.Runes, run) })
		switch {
		case at >= 0:
			l = append(l, r.Entries[at].Elem)
		case len(run) == 1:
			l = append(l, slowElems(run[0])...)
		default:
			t.Fatalf("%X is no Entry", run)
		}
	}
	return l
}

func checkElems(t *testing.T, r impl.Rules, text string, want []impl.Elem) {
	t.Helper()
	if l, ok := impl.ElemsIn(r, text); !ok || !slices.Equal(l, want) {
		t.Errorf("ElemsIn(%v, %+q) = %v %v, asked for %v", r, text, l, ok, want)
	}
}

// runRows: the runs that a text is gone along by, put down by hand.
var runRows = []struct {
	name    string
	entries lists
	text    []int
	runs    lists
}{
	{"no Entries", nil, []int{'a', 'B'}, lists{{'a'}, {'B'}}},
	{"no runes", lists{{'a'}}, nil, nil},

	{"one of four", lists{{'a'}, {'a', 'b'}, {'a', 'b', 'c'}, {'a', 'b', 'c', 'd'}}, []int{'a', 'x', 'a'}, lists{{'a'}, {'x'}, {'a'}}},
	{"two of four", lists{{'a'}, {'a', 'b'}, {'a', 'b', 'c'}, {'a', 'b', 'c', 'd'}}, []int{'a', 'b', 'x', 'a', 'b'}, lists{{'a', 'b'}, {'x'}, {'a', 'b'}}},
	{"three of four", lists{{'a'}, {'a', 'b'}, {'a', 'b', 'c'}, {'a', 'b', 'c', 'd'}}, []int{'a', 'b', 'c', 'x', 'a', 'b', 'c'}, lists{{'a', 'b', 'c'}, {'x'}, {'a', 'b', 'c'}}},
	{"four of four", lists{{'a'}, {'a', 'b'}, {'a', 'b', 'c'}, {'a', 'b', 'c', 'd'}}, []int{'a', 'b', 'c', 'd', 'x', 'a', 'b', 'c', 'd'}, lists{{'a', 'b', 'c', 'd'}, {'x'}, {'a', 'b', 'c', 'd'}}},
	{"the longest one first among the Entries", lists{{'a', 'b', 'c', 'd'}, {'a', 'b', 'c'}, {'a', 'b'}, {'a'}}, []int{'a', 'b', 'c', 'a', 'b', 'c', 'd', 'a', 'b', 'a'}, lists{{'a', 'b', 'c'}, {'a', 'b', 'c', 'd'}, {'a', 'b'}, {'a'}}},
	{"without the middle ones, whole", lists{{'a'}, {'a', 'b', 'c', 'd'}}, []int{'a', 'b', 'c', 'd'}, lists{{'a', 'b', 'c', 'd'}}},
	{"without the middle ones, cut", lists{{'a'}, {'a', 'b', 'c', 'd'}}, []int{'a', 'b', 'c'}, lists{{'a'}, {'b'}, {'c'}}},
	{"without the middle ones, another", lists{{'a'}, {'a', 'b', 'c', 'd'}}, []int{'a', 'b', 'c', 'x'}, lists{{'a'}, {'b'}, {'c'}, {'x'}}},
	{"two and four, three there", lists{{'a', 'b'}, {'a', 'b', 'c', 'd'}}, []int{'a', 'b', 'c', 'c', 'd'}, lists{{'a', 'b'}, {'c'}, {'c'}, {'d'}}},
	{"one and three", lists{{'a'}, {'a', 'b', 'c'}}, []int{'a', 'b', 'c', 'd'}, lists{{'a', 'b', 'c'}, {'d'}}},
	{"one and three, two there", lists{{'a'}, {'a', 'b', 'c'}}, []int{'a', 'b'}, lists{{'a'}, {'b'}}},
	{"three alone, two there", lists{{'a', 'b', 'c'}}, []int{'a', 'b', 'a', 'b', 'c'}, lists{{'a'}, {'b'}, {'a', 'b', 'c'}}},
	{"four alone, twice", lists{{'a', 'b', 'c', 'd'}}, []int{'a', 'b', 'c', 'd', 'a', 'b', 'c', 'd'}, lists{{'a', 'b', 'c', 'd'}, {'a', 'b', 'c', 'd'}}},
	{"all of one rune", lists{{'a', 'a'}, {'a', 'a', 'a', 'a'}}, times(7, 'a'), lists{{'a', 'a', 'a', 'a'}, {'a', 'a'}, {'a'}}},
	{"the first one has it", lists{{'a', 'b'}, {'b', 'c'}}, []int{'a', 'b', 'c', 'b', 'c'}, lists{{'a', 'b'}, {'c'}, {'b', 'c'}}},
	{"not in another order", lists{{'a', 'b'}}, []int{'b', 'a', 'b', 'b'}, lists{{'b'}, {'a', 'b'}, {'b'}}},
	{"not with others between", lists{{'a', 'b'}}, []int{'a', 'x', 'b'}, lists{{'a'}, {'x'}, {'b'}}},
	{"not by small letters", lists{{'a', 'b'}}, []int{'A', 'b'}, lists{{'A'}, {'b'}}},

	{"a mark right behind", lists{{'a', 0x301}}, []int{'a', 0x301}, lists{{'a', 0x301}}},
	{"a mark from behind another", lists{{'a', 0x301}}, []int{'a', 0x323, 0x301}, lists{{'a', 0x301}, {0x323}}},
	{"a mark from behind three others", lists{{'a', 0x301}}, []int{'a', 0x338, 0x327, 0x323, 0x301}, lists{{'a', 0x301}, {0x338}, {0x327}, {0x323}}},
	{"a mark from behind several of one class", lists{{'a', 0x301}}, []int{'a', 0x323, 0x331, 0x323, 0x301, 'b'}, lists{{'a', 0x301}, {0x323}, {0x331}, {0x323}, {'b'}}},
	{"a mark between others", lists{{'a', 0x323}}, []int{'a', 0x338, 0x323, 0x301}, lists{{'a', 0x323}, {0x338}, {0x301}}},
	{"a mark into an Entry of one rune", lists{{'a'}, {'a', 0x301}}, []int{'a', 0x323, 0x301, 'a', 0x323}, lists{{'a', 0x301}, {0x323}, {'a'}, {0x323}}},
	{"a mark into a run of two", lists{{'c', 'h'}, {'c', 'h', 0x301}}, []int{'c', 'h', 0x323, 0x301}, lists{{'c', 'h', 0x301}, {0x323}}},
	{"a mark into a run of three", lists{{'a', 'b', 'c'}, {'a', 'b', 'c', 0x301}}, []int{'a', 'b', 'c', 0x323, 0x301}, lists{{'a', 'b', 'c', 0x301}, {0x323}}},
	{"no mark into a run of four", lists{{'a', 'b', 'c', 'd'}}, []int{'a', 'b', 'c', 'd', 0x323, 0x301}, lists{{'a', 'b', 'c', 'd'}, {0x323}, {0x301}}},
	{"a run of two that is no Entry is none", lists{{'c', 'h', 0x301}}, []int{'c', 'h', 0x323, 0x301}, lists{{'c'}, {'h'}, {0x323}, {0x301}}},
	{"the same without the mark between", lists{{'c', 'h', 0x301}}, []int{'c', 'h', 0x301}, lists{{'c', 'h', 0x301}}},
	{"a mark behind a run that has one", lists{{'a', 0x323}, {'a', 0x323, 0x301}}, []int{'a', 0x323, 0x331, 0x301}, lists{{'a', 0x323, 0x301}, {0x331}}},
	{"the longer run has no use for the mark", lists{{'c', 0x301}, {'c', 'h'}}, []int{'c', 'h', 0x323, 0x301}, lists{{'c', 'h'}, {0x323}, {0x301}}},
	{"a mark that another run had is not there again", lists{{'a', 0x301}, {0x323, 0x301}}, []int{'a', 0x323, 0x301}, lists{{'a', 0x301}, {0x323}}},
	{"a mark of the next letter stays with it", lists{{'a', 0x301}}, []int{'a', 'a', 0x323, 0x301}, lists{{'a'}, {'a', 0x301}, {0x323}}},

	{"two marks from behind another", lists{{'a', 0x323}, {'a', 0x323, 0x301}}, []int{'a', 0x338, 0x323, 0x301}, lists{{'a', 0x323, 0x301}, {0x338}}},
	{"two marks from behind two others", lists{{'a', 0x323}, {'a', 0x323, 0x301}}, []int{'a', 0x338, 0x323, 0x331, 0x301, 0x302}, lists{{'a', 0x323, 0x301}, {0x338}, {0x331}, {0x302}}},
	{"two marks, the middle one no Entry", lists{{'a', 0x323, 0x301}}, []int{'a', 0x338, 0x323, 0x301}, lists{{'a'}, {0x338}, {0x323}, {0x301}}},
	{"three marks from behind another", lists{{'a', 0x327}, {'a', 0x327, 0x323}, {'a', 0x327, 0x323, 0x301}}, []int{'a', 0x338, 0x327, 0x323, 0x301}, lists{{'a', 0x327, 0x323, 0x301}, {0x338}}},
	{"three marks, the second no Entry", lists{{'a', 0x327}, {'a', 0x327, 0x323, 0x301}}, []int{'a', 0x338, 0x327, 0x323, 0x301}, lists{{'a', 0x327}, {0x338}, {0x323}, {0x301}}},
	{"two marks into a run of two", lists{{'c', 'h'}, {'c', 'h', 0x323}, {'c', 'h', 0x323, 0x301}}, []int{'c', 'h', 0x338, 0x323, 0x301}, lists{{'c', 'h', 0x323, 0x301}, {0x338}}},
	{"of two that may the first one", lists{{'a', 0x301}, {'a', 0x323}}, []int{'a', 0x338, 0x323, 0x301}, lists{{'a', 0x323}, {0x338}, {0x301}}},
	{"of two that may the first one, two of the Entries", lists{{'a', 0x323}, {'a', 0x301}}, []int{'a', 0x338, 0x323, 0x301}, lists{{'a', 0x323}, {0x338}, {0x301}}},
	{"the longest run, then no other mark", lists{{'a', 0x323}, {'a', 0x301}}, []int{'a', 0x323, 0x301}, lists{{'a', 0x323}, {0x301}}},

	{"blocked by a starter", lists{{'a', 0x301}}, []int{'a', 'b', 0x301}, lists{{'a'}, {'b'}, {0x301}}},
	{"blocked by a starter behind a mark", lists{{'a', 0x301}}, []int{'a', 0x323, 'b', 0x301}, lists{{'a'}, {0x323}, {'b'}, {0x301}}},
	{"blocked by a control", lists{{'a', 0x301}}, []int{'a', 0, 0x301}, lists{{'a'}, {0x301}}},
	{"blocked by a starter that an Entry has", lists{{'a', 0x301}, {'b'}}, []int{'a', 'b', 0x301}, lists{{'a'}, {'b'}, {0x301}}},
	{"a starter does not go in", lists{{'a', 'b'}}, []int{'a', 0x301, 'b'}, lists{{'a'}, {0x301}, {'b'}}},
	{"blocked by its own class", lists{{'a', 0x301}}, []int{'a', 0x302, 0x301}, lists{{'a'}, {0x302}, {0x301}}},
	{"blocked by its own class, a lower one", lists{{'a', 0x331}}, []int{'a', 0x323, 0x331}, lists{{'a'}, {0x323}, {0x331}}},
	{"blocked by its own class behind a lower one", lists{{'a', 0x301}}, []int{'a', 0x323, 0x302, 0x301}, lists{{'a'}, {0x323}, {0x302}, {0x301}}},
	{"blocked by itself", lists{{'a', 0x301}, {'a', 0x301, 0x301}}, []int{'a', 0x302, 0x301, 0x301}, lists{{'a'}, {0x302}, {0x301}, {0x301}}},
	{"the blocked one does not block others", lists{{'a', 0x301}}, []int{'a', 0x323, 0x331, 0x301}, lists{{'a', 0x301}, {0x323}, {0x331}}},
	{"a greater class that is written ahead comes behind", lists{{'a', 0x323}}, []int{'a', 0x301, 0x323}, lists{{'a', 0x323}, {0x301}}},
	{"a greater class that is written ahead, the greater one goes in", lists{{'a', 0x301}}, []int{'a', 0x301, 0x323}, lists{{'a', 0x301}, {0x323}}},
	{"written ahead, of its own class too", lists{{'a', 0x301}}, []int{'a', 0x302, 0x323, 0x301}, lists{{'a'}, {0x323}, {0x302}, {0x301}}},

	{"not blocked any more", lists{{'a', 0x302}, {'a', 0x302, 0x301}}, []int{'a', 0x323, 0x302, 0x301}, lists{{'a', 0x302, 0x301}, {0x323}}},
	{"not blocked any more, twice", lists{{'a', 0x302}, {'a', 0x302, 0x301}, {'a', 0x302, 0x301, 0x302}}, []int{'a', 0x323, 0x302, 0x301, 0x302, 0x302}, lists{{'a', 0x302, 0x301, 0x302}, {0x323}, {0x302}}},
	{"not blocked any more, but none", lists{{'a', 0x302}}, []int{'a', 0x323, 0x302, 0x301}, lists{{'a', 0x302}, {0x323}, {0x301}}},
	{"still blocked by another one", lists{{'a', 0x302}, {'a', 0x302, 0x301}}, []int{'a', 0x323, 0x302, 0x300, 0x301}, lists{{'a', 0x302}, {0x323}, {0x300}, {0x301}}},
	{"what is left is a run", lists{{'a', 0x302}, {0x323, 0x301}}, []int{'a', 0x323, 0x302, 0x301}, lists{{'a', 0x302}, {0x323, 0x301}}},
	{"what is left is a run with the starter behind", lists{{'a', 0x301}, {0x323, 'b'}}, []int{'a', 0x323, 0x301, 'b'}, lists{{'a', 0x301}, {0x323, 'b'}}},
	{"what is left has marks from behind others", lists{{'a', 0x302}, {0x338, 0x301}}, []int{'a', 0x338, 0x323, 0x302, 0x301}, lists{{'a', 0x302}, {0x338, 0x301}, {0x323}}},

	{"a mark at the beginning", nil, []int{0x301, 'a'}, lists{{0x301}, {'a'}}},
	{"a mark at the beginning that is an Entry", lists{{0x301}}, []int{0x301, 'a', 0x301}, lists{{0x301}, {'a'}, {0x301}}},
	{"a mark at the beginning with a starter", lists{{0x301, 'a'}}, []int{0x301, 'a', 0x301}, lists{{0x301, 'a'}, {0x301}}},
	{"a mark at the beginning with a mark", lists{{0x323, 0x301}}, []int{0x323, 0x301, 'a'}, lists{{0x323, 0x301}, {'a'}}},
	{"a mark at the beginning with a mark from behind another", lists{{0x338, 0x301}}, []int{0x338, 0x323, 0x301}, lists{{0x338, 0x301}, {0x323}}},
	{"a mark at the beginning, the other blocked", lists{{0x323, 0x302}}, []int{0x323, 0x301, 0x302}, lists{{0x323}, {0x301}, {0x302}}},
	{"marks alone, sorted", lists{{0x323, 0x301}}, []int{0x301, 0x323}, lists{{0x323, 0x301}}},
	{"a run of marks in the middle", lists{{0x323, 0x301}}, []int{'x', 0x323, 0x301}, lists{{'x'}, {0x323, 0x301}}},
	{"the letter comes ahead of the marks' run", lists{{0x323, 0x301}, {'x', 0x301}}, []int{'x', 0x323, 0x301}, lists{{'x', 0x301}, {0x323}}},

	{"two elems", nil, []int{0x4E00, 0x10FFFF, '"'}, lists{{0x4E00}, {0x10FFFF}, {'"'}}},
	{"two elems become one", lists{{0x4E00}}, []int{0x4E00, 0x4E01}, lists{{0x4E00}, {0x4E01}}},
	{"two elems become one with a mark", lists{{0x4E00, 0x301}}, []int{0x4E00, 0x323, 0x301, 0x4E00}, lists{{0x4E00, 0x301}, {0x323}, {0x4E00}}},
	{"no elems", nil, []int{0, 7, 'a', 31, 127}, lists{{'a'}}},
	{"no elems become one", lists{{7}}, []int{0, 7, 'a'}, lists{{7}, {'a'}}},
	{"no elems become one with a mark", lists{{7, 0x301}}, []int{7, 0x323, 0x301, 7}, lists{{7, 0x301}, {0x323}, {7}}},
	{"those that vary", nil, []int{' ', '_', '-', '.', 'a'}, lists{{' '}, {'_'}, {'-'}, {'.'}, {'a'}}},
	{"one that varies is an Entry", lists{{'-'}, {' ', 'a'}}, []int{' ', '-', ' ', 'a'}, lists{{' '}, {'-'}, {' ', 'a'}}},
	{"one that varies with a mark", lists{{'-', 0x301}}, []int{'-', 0x323, 0x301}, lists{{'-', 0x301}, {0x323}}},

	{"a rune that is taken apart", lists{{'a', 0x301}}, []int{0xE1}, lists{{'a', 0x301}}},
	{"taken apart, no Entry", nil, []int{0xE1, 0x1E69, 0x212B}, lists{{'a'}, {0x301}, {'s'}, {0x323}, {0x307}, {'A'}, {0x30A}}},
	{"taken apart, its second mark goes in", lists{{'s', 0x307}}, []int{0x1E69}, lists{{'s', 0x307}, {0x323}}},
	{"taken apart, a mark behind goes in", lists{{'a', 0x323}}, []int{0xE1, 0x323}, lists{{'a', 0x323}, {0x301}}},
	{"taken apart, two marks", lists{{'A', 0x302}, {'A', 0x302, 0x301}}, []int{0x1EA4, 0x323}, lists{{'A', 0x302, 0x301}, {0x323}}},
	{"a syllable, two of its parts", lists{{0x1100, 0x1161}}, []int{0xAC01, 0xAC00}, lists{{0x1100, 0x1161}, {0x11A8}, {0x1100, 0x1161}}},
	{"a syllable, all its parts", lists{{0x1100, 0x1161, 0x11A8}}, []int{0xAC01, 0xAC00}, lists{{0x1100, 0x1161, 0x11A8}, {0x1100}, {0x1161}}},
	{"over two syllables", lists{{0x11A8, 0x1100}}, []int{0xAC01, 0xAC00}, lists{{0x1100}, {0x1161}, {0x11A8, 0x1100}, {0x1161}}},
}

func TestElemsInByHand(t *testing.T) {
	for _, p := range runRows {
		t.Run(p.name, func(t *testing.T) {
			r := ranked(p.entries...)
			if !impl.GoodRules(r) {
				t.Fatalf("%v are not good", r)
			}
			want := elemsOf(t, r, p.runs)
			checkElems(t, r, plainUTF8(p.text), want)
			checkElems(t, r, plainUTF8(slowNormalD(p.text)), want)
			checkElems(t, r, plainUTF8(slowNormalC(p.text)), want)
			if l := slowElemsIn(r, p.text); !slices.Equal(l, want) {
				t.Errorf("the tests' own way: %v, asked for %v", l, want)
			}
			// What is not gone by here has no part in it.
			r.Shifted, r.Levels = true, 1
			checkElems(t, r, plainUTF8(p.text), want)
			slices.Reverse(r.Entries)
			checkElems(t, r, plainUTF8(p.text), want)
		})
	}
}

// slowElemsIn leaves the runes where they are and crosses out those that a run has.
func slowElemsIn(r impl.Rules, runes []int) []impl.Elem {
	l := slowNormalD(runes)
	entries := map[string]impl.Elem{}
	for _, x := range r.Entries {
		entries[plainUTF8(x.Runes)] = x.Elem
	}
	crossed := make([]bool, len(l))
	var elems []impl.Elem
	for from := range l {
		if crossed[from] {
			continue
		}
		var left []int
		for at := from; at < len(l); at++ {
			if !crossed[at] {
				left = append(left, at)
			}
		}
		run, end := string(rune(l[from])), from
		text := ""
		for _, at := range left[:min(4, len(left))] {
			text += string(rune(l[at]))
			if _, ok := entries[text]; ok {
				run, end = text, at
			}
		}
		for at := from; at <= end; at++ {
			crossed[at] = true
		}
		for at := slowMark(entries, l, crossed, run, end); at >= 0; at = slowMark(entries, l, crossed, run, end) {
			run += string(rune(l[at]))
			crossed[at] = true
		}
		if e, ok := entries[run]; ok {
			elems = append(elems, e)
		} else {
			elems = append(elems, slowElems(l[from])...)
		}
	}
	return elems
}

// slowMark looks at each place behind the run's end, and back from there to the run's end; -1 where there is none.
func slowMark(entries map[string]impl.Elem, l []int, crossed []bool, run string, end int) int {
	for at := end + 1; at < len(l); at++ {
		class, blocked := slowClass[l[at]], false
		for back := at - 1; back > end; back-- {
			between := slowClass[l[back]]
			blocked = blocked || !crossed[back] && (between == 0 || between >= class)
		}
		_, is := entries[run+string(rune(l[at]))]
		if class > 0 && !crossed[at] && !blocked && is {
			return at
		}
	}
	return -1
}

// forAllLists calls look with each list of up to n of these runes.
func forAllLists(runes []int, n int, look func([]int)) {
	longest := lists{nil}
	for length := 0; length <= n; length++ {
		var longer lists
		for _, l := range longest {
			look(l)
			for _, r := range runes {
				if length < n {
					longer = append(longer, append(slices.Clone(l), r))
				}
			}
		}
		longest = longer
	}
}

func TestElemsInAllShortTexts(t *testing.T) {
	for _, p := range []struct {
		entries lists
		runes   []int
		n       int
	}{
		{lists{{'a', 'b'}, {'a', 'b', 'a', 'b'}, {'b', 'b', 'a'}, {'b'}}, []int{'a', 'b', 'x'}, 7},
		{lists{{'a', 'b', 'b'}, {'a', 0x301, 'b'}, {'b', 'a'}, {'b', 'a', 0x301}}, []int{'a', 'b', 0x301, 0x323}, 6},
		{lists{{'a', 0x301}, {'a', 0x301, 0x302}, {'a', 0x323, 0x302}, {0x323, 0x301}, {0x327, 0x302}}, []int{'a', 0x301, 0x302, 0x323, 0x327}, 6},
		{lists{{'a', 0x301}, {'a', 0x338, 0x331}, {'a', 0x338}, {'a', 'a'}, {'a', 'a', 0x331}, {'a', 'a', 0x331, 0x301}}, []int{'a', 0x338, 0x323, 0x331, 0x301}, 6},
		{lists{{0x301}, {0x301, 0x302}, {0x323, 0x323}, {0x323, 'x'}, {'x', 0x301, 0x301}, {'x', 0x301}}, []int{'x', 0x301, 0x302, 0x323}, 7},
		{lists{{'a', 0x302}, {'A', 0x30A}, {'A', 0x302, 0x301}, {'s', 0x307}, {0x1100, 0x1161}}, []int{'A', 0xC2, 0x1EA4, 0x1E69, 0x212B, 0x301, 0x323, 0xAC00, 0x11A8}, 4},
		{lists{{7, 0x301}, {0x4E00, 0x301}, {0x4E00, 7}, {'-', 0x302}, {'-', '-'}}, []int{7, 0x4E00, '-', 0x301, 0x302, 0x323}, 5},
	} {
		r := ranked(p.entries...)
		if !impl.GoodRules(r) {
			t.Fatalf("%v are not good", r)
		}
		forAllLists(p.runes, p.n, func(l []int) {
			if !t.Failed() {
				checkElems(t, r, plainUTF8(l), slowElemsIn(r, l))
			}
		})
	}
}

// numbers: a row of numbers by a fixed rule.
func numbers(seed uint32) func(int) int {
	state := seed * 2654435761
	return func(n int) int {
		state = state*1664525 + 1013904223
		return int(state>>16) % n
	}
}

// manyRules: rules by a fixed rule, with up to 40 Entries of these runes, not only such as are read.
func manyRules(seed uint32, runes []int) impl.Rules {
	next := numbers(seed)
	r := impl.Rules{Levels: 1 + next(4), Shifted: next(2) == 0}
	seen := map[string]bool{}
	for range next(120) {
		var l []int
		for range 1 + next(4) {
			l = append(l, runes[next(len(runes))])
		}
		l = slowNormalD(l)
		if len(l) > 4 || seen[plainUTF8(l)] || len(r.Entries) == 40 {
			continue
		}
		seen[plainUTF8(l)] = true
		r.Entries = append(r.Entries, put(1+next(65535), 32+next(968), 2+next(98), l...))
	}
	return r
}

// manyRunes: a list by a fixed rule, as long as its text is at most MaxBytes bytes.
func manyRunes(next func(int) int, runes []int, most int) []int {
	var l []int
	for range next(most + 1) {
		r := runes[next(len(runes))]
		if len(plainUTF8(l))+len(plainUTF8([]int{r})) > impl.MaxBytes {
			break
		}
		l = append(l, r)
	}
	return l
}

var someRunes = []int{
	'a', 'a', 'b', 'C', '0', '-', ' ', 7, '"', 0xDF, 0x4E00, 0x1F600,
	0x300, 0x301, 0x301, 0x302, 0x307, 0x30A, 0x323, 0x323, 0x331, 0x327, 0x328, 0x338,
	0xC1, 0xE2, 0x1EA5, 0x1E63, 0x1E69, 0x212B, 0xAC00, 0xAC01, 0x11A8,
}

func TestElemsInLongTexts(t *testing.T) {
	full := 0
	for seed := uint32(1); seed <= 600; seed++ {
		next := numbers(seed)
		runes := someRunes
		if seed%2 == 0 {
			runes = []int{'a', 'b', 0x301, 0x302, 0x323, 0x331, 0x338}
		}
		r := manyRules(seed, runes)
		if !impl.GoodRules(r) {
			t.Fatalf("%v are not good", r)
		}
		if len(r.Entries) == impl.MaxRules {
			full++
		}
		l := manyRunes(next, runes, 150)
		checkElems(t, r, plainUTF8(l), slowElemsIn(r, l))
		if t.Failed() {
			return
		}
	}
	if full == 0 {
		t.Error("no rules with as many Entries as may be")
	}
}

// A text that is no UTF-8 has BadRunes, which weigh as all others and may be Entries.
func TestElemsInBytesThatAreNoUTF8(t *testing.T) {
	other := []impl.Elem{elem(60001, 32, 2), elem(65533, 0, 0)}
	checkElems(t, impl.PlainRules(), "\xff", other)
	checkElems(t, impl.PlainRules(), "\ufffd", other)
	checkElems(t, impl.PlainRules(), "a\xe2\x82b", []impl.Elem{elem(4000, 32, 2), other[0], other[1], elem(4200, 32, 2)})
	r := ranked([]int{impl.BadRune, 0x301}, []int{'a', impl.BadRune})
	checkElems(t, r, "\xc3\u0323\u0301", []impl.Elem{r.Entries[0].Elem, elem(0, 43, 2)})
	checkElems(t, r, "a\xf0\x9f\x98", []impl.Elem{r.Entries[1].Elem})
	for _, s := range []string{"\x80", "\xc0\x80", "\xed\xa0\x80", "a\xff\u0301", "\xe2\x82\u0323\u0301", strings.Repeat("\xff", 200)} {
		runes, _ := impl.DecodeText(s)
		checkElems(t, r, s, slowElemsIn(r, runes))
	}
}
