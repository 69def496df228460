package tests

import (
	"slices"
	"testing"

	"loop.example/g00158/impl"
)

// baseRows: what each rune that the chapter lists weighs, put down one by one.
var baseRows = []struct {
	r    int
	elem impl.Elem
}{
	{' ', impl.Elem{First: 1, Second: 32, Third: 2, Varies: true}},
	{'_', impl.Elem{First: 2, Second: 32, Third: 2, Varies: true}},
	{'-', impl.Elem{First: 3, Second: 32, Third: 2, Varies: true}},
	{',', impl.Elem{First: 4, Second: 32, Third: 2, Varies: true}},
	{';', impl.Elem{First: 5, Second: 32, Third: 2, Varies: true}},
	{':', impl.Elem{First: 6, Second: 32, Third: 2, Varies: true}},
	{'!', impl.Elem{First: 7, Second: 32, Third: 2, Varies: true}},
	{'?', impl.Elem{First: 8, Second: 32, Third: 2, Varies: true}},
	{'.', impl.Elem{First: 9, Second: 32, Third: 2, Varies: true}},
	{'0', elem(2000, 32, 2)}, {'1', elem(2100, 32, 2)}, {'2', elem(2200, 32, 2)}, {'3', elem(2300, 32, 2)},
	{'4', elem(2400, 32, 2)}, {'5', elem(2500, 32, 2)}, {'6', elem(2600, 32, 2)}, {'7', elem(2700, 32, 2)},
	{'8', elem(2800, 32, 2)}, {'9', elem(2900, 32, 2)},
	{'a', elem(4000, 32, 2)}, {'b', elem(4200, 32, 2)}, {'c', elem(4400, 32, 2)}, {'d', elem(4600, 32, 2)},
	{'e', elem(4800, 32, 2)}, {'f', elem(5000, 32, 2)}, {'g', elem(5200, 32, 2)}, {'h', elem(5400, 32, 2)},
	{'i', elem(5600, 32, 2)}, {'j', elem(5800, 32, 2)}, {'k', elem(6000, 32, 2)}, {'l', elem(6200, 32, 2)},
	{'m', elem(6400, 32, 2)}, {'n', elem(6600, 32, 2)}, {'o', elem(6800, 32, 2)}, {'p', elem(7000, 32, 2)},
	{'q', elem(7200, 32, 2)}, {'r', elem(7400, 32, 2)}, {'s', elem(7600, 32, 2)}, {'t', elem(7800, 32, 2)},
	{'u', elem(8000, 32, 2)}, {'v', elem(8200, 32, 2)}, {'w', elem(8400, 32, 2)}, {'x', elem(8600, 32, 2)},
	{'y', elem(8800, 32, 2)}, {'z', elem(9000, 32, 2)},
	{'A', elem(4000, 32, 8)}, {'B', elem(4200, 32, 8)}, {'C', elem(4400, 32, 8)}, {'D', elem(4600, 32, 8)},
	{'E', elem(4800, 32, 8)}, {'F', elem(5000, 32, 8)}, {'G', elem(5200, 32, 8)}, {'H', elem(5400, 32, 8)},
	{'I', elem(5600, 32, 8)}, {'J', elem(5800, 32, 8)}, {'K', elem(6000, 32, 8)}, {'L', elem(6200, 32, 8)},
	{'M', elem(6400, 32, 8)}, {'N', elem(6600, 32, 8)}, {'O', elem(6800, 32, 8)}, {'P', elem(7000, 32, 8)},
	{'Q', elem(7200, 32, 8)}, {'R', elem(7400, 32, 8)}, {'S', elem(7600, 32, 8)}, {'T', elem(7800, 32, 8)},
	{'U', elem(8000, 32, 8)}, {'V', elem(8200, 32, 8)}, {'W', elem(8400, 32, 8)}, {'X', elem(8600, 32, 8)},
	{'Y', elem(8800, 32, 8)}, {'Z', elem(9000, 32, 8)},
	{0x338, elem(0, 40, 2)}, {0x327, elem(0, 41, 2)}, {0x328, elem(0, 42, 2)}, {0x323, elem(0, 43, 2)},
	{0x331, elem(0, 44, 2)}, {0x300, elem(0, 45, 2)}, {0x301, elem(0, 46, 2)}, {0x302, elem(0, 47, 2)},
	{0x303, elem(0, 48, 2)}, {0x304, elem(0, 49, 2)}, {0x306, elem(0, 50, 2)}, {0x307, elem(0, 51, 2)},
	{0x308, elem(0, 52, 2)}, {0x30A, elem(0, 53, 2)}, {0x30C, elem(0, 54, 2)},
}

// otherRows: the first weights of both elems of runes that the chapter doesn't list.
var otherRows = []struct {
	r         int
	high, low int
}{
	{'"', 60000, 32768 + '"'}, {'#', 60000, 32768 + '#'}, {'\'', 60000, 32768 + '\''}, {'(', 60000, 32768 + '('},
	{'+', 60000, 32768 + '+'}, {'/', 60000, 32768 + '/'}, {'<', 60000, 32768 + '<'}, {'>', 60000, 32768 + '>'},
	{'@', 60000, 32768 + '@'}, {'[', 60000, 32768 + '['}, {'^', 60000, 32768 + '^'}, {'`', 60000, 32768 + '`'},
	{'{', 60000, 32768 + '{'}, {'~', 60000, 32768 + '~'},
	{0x80, 60000, 32896}, {0x9F, 60000, 32768 + 0x9F}, {0xA0, 60000, 32768 + 0xA0}, {0xDF, 60000, 32768 + 0xDF},
	{0x2FF, 60000, 32768 + 0x2FF}, {0x305, 60000, 32768 + 0x305}, {0x309, 60000, 32768 + 0x309},
	{0x30B, 60000, 32768 + 0x30B}, {0x30D, 60000, 32768 + 0x30D}, {0x322, 60000, 32768 + 0x322},
	{0x324, 60000, 32768 + 0x324}, {0x326, 60000, 32768 + 0x326}, {0x329, 60000, 32768 + 0x329},
	{0x330, 60000, 32768 + 0x330}, {0x332, 60000, 32768 + 0x332}, {0x337, 60000, 32768 + 0x337},
	{0x339, 60000, 32768 + 0x339}, {0x1100, 60000, 32768 + 0x1100},
	{32766, 60000, 65534}, {32767, 60000, 65535}, {32768, 60001, 32768}, {32769, 60001, 32769},
	{55295, 60001, 55295}, {57344, 60001, 57344}, {impl.BadRune, 60001, 65533},
	{65535, 60001, 65535}, {65536, 60002, 32768}, {0x10FFFE, 60033, 65534}, {0x10FFFF, 60033, 65535},
}

func elem(first, second, third int) impl.Elem {
	return impl.Elem{First: first, Second: second, Third: third}
}

// slowBase: the chapter's list as a map; runes without elems have an empty list.
var slowBase = baseMap()

func baseMap() map[int][]impl.Elem {
	m := map[int][]impl.Elem{127: {}}
	for r := 0; r <= 31; r++ {
		m[r] = []impl.Elem{}
	}
	for _, row := range baseRows {
		m[row.r] = []impl.Elem{row.elem}
	}
	return m
}

// slowElems: the elems of any rune; none of one that is not good.
func slowElems(r int) []impl.Elem {
	if l, ok := slowBase[r]; ok {
		return l
	}
	if r < 0 || r > 0x10FFFF || r >= 0xD800 && r <= 0xDFFF {
		return nil
	}
	high, low := 60000, r
	for low >= 32768 {
		high, low = high+1, low-32768
	}
	return []impl.Elem{elem(high, 32, 2), elem(32768+low, 0, 0)}
}

func checkBase(t *testing.T, r int, want []impl.Elem, good bool) {
	t.Helper()
	if l, ok := impl.BaseElems(r); ok != good || !slices.Equal(l, want) {
		t.Errorf("BaseElems(%d) = %v %v, asked for %v %v", r, l, ok, want, good)
	}
}

func TestConstantsOfRules(t *testing.T) {
	if impl.MaxRules != 40 || impl.MaxJoined != 4 || impl.MaxRuleText != 300 {
		t.Error(impl.MaxRules, impl.MaxJoined, impl.MaxRuleText)
	}
	codes := []int{impl.RuleOk, impl.RuleLong, impl.RuleWord, impl.RuleReset, impl.RuleTwice, impl.RuleFull}
	if !slices.Equal(codes, []int{0, 1, 2, 3, 4, 5}) {
		t.Error(codes)
	}
}

func TestBaseElemsOfEachListedRune(t *testing.T) {
	for r := 0; r <= 31; r++ {
		checkBase(t, r, nil, true)
	}
	checkBase(t, 127, nil, true)
	for _, row := range baseRows {
		checkBase(t, row.r, []impl.Elem{row.elem}, true)
	}
}

func TestBaseElemsOfOthers(t *testing.T) {
	for _, row := range otherRows {
		checkBase(t, row.r, []impl.Elem{elem(row.high, 32, 2), elem(row.low, 0, 0)}, true)
	}
}

// With the neighbours of all that is listed, what is not good, and some beyond.
func TestBaseElemsOfAllRunes(t *testing.T) {
	if len(slowBase) != 33+9+10+52+15 {
		t.Error(len(slowBase))
	}
	for r := -1000; r <= 1114111+1000; r++ {
		checkBase(t, r, slowElems(r), impl.GoodRune(r))
	}
}

func TestPlainRules(t *testing.T) {
	r := impl.PlainRules()
	if len(r.Entries) != 0 || r.Shifted || r.Levels != 3 || !impl.GoodRules(r) {
		t.Error(r)
	}
}

// entry: one with weights that are good.
func entry(runes ...int) impl.Entry {
	return impl.Entry{Runes: runes, Elem: elem(4001, 32, 2)}
}

// weighing: rules with one Entry of this elem.
func weighing(e impl.Elem) impl.Rules {
	return impl.Rules{Entries: []impl.Entry{{Runes: []int{'a'}, Elem: e}}, Levels: 3}
}

func joining(l ...impl.Entry) impl.Rules {
	return impl.Rules{Entries: l, Levels: 3}
}

// entries: n of them, of runes that are all unlike.
func entries(n int) []impl.Entry {
	var l []impl.Entry
	for i := range n {
		l = append(l, entry(0x4E00+i))
	}
	return l
}

var goodRuleRows = []struct {
	name string
	r    impl.Rules
	good bool
}{
	{"none", impl.Rules{Levels: 3}, true},
	{"the zero rules", impl.Rules{}, false},
	{"shifted", impl.Rules{Levels: 3, Shifted: true}, true},
	{"shifted without levels", impl.Rules{Shifted: true}, false},
	{"levels -1", impl.Rules{Levels: -1}, false},
	{"levels 1", impl.Rules{Levels: 1}, true},
	{"levels 2", impl.Rules{Levels: 2}, true},
	{"levels 4", impl.Rules{Levels: 4}, true},
	{"levels 5", impl.Rules{Levels: 5}, false},
	{"first 0", weighing(elem(0, 32, 2)), false},
	{"first 1", weighing(elem(1, 32, 2)), true},
	{"first 65535", weighing(elem(65535, 32, 2)), true},
	{"first 65536", weighing(elem(65536, 32, 2)), false},
	{"first -1", weighing(elem(-1, 32, 2)), false},
	{"first of a letter", weighing(elem(4000, 32, 2)), true},
	{"second 31", weighing(elem(4001, 31, 2)), false},
	{"second 0", weighing(elem(4001, 0, 2)), false},
	{"second 33", weighing(elem(4001, 33, 2)), true},
	{"second 999", weighing(elem(4001, 999, 2)), true},
	{"second 1000", weighing(elem(4001, 1000, 2)), false},
	{"second -32", weighing(elem(4001, -32, 2)), false},
	{"third 1", weighing(elem(4001, 32, 1)), false},
	{"third 0", weighing(elem(4001, 32, 0)), false},
	{"third 2", weighing(elem(4001, 32, 2)), true},
	{"third 8", weighing(elem(4001, 32, 8)), true},
	{"third 99", weighing(elem(4001, 32, 99)), true},
	{"third 100", weighing(elem(4001, 32, 100)), false},
	{"third -2", weighing(elem(4001, 32, -2)), false},
	{"all at their greatest", weighing(elem(65535, 999, 99)), true},
	{"varies", weighing(impl.Elem{First: 4001, Second: 32, Third: 2, Varies: true}), false},
	{"no runes", joining(entry()), false},
	{"one rune", joining(entry('c')), true},
	{"four runes", joining(entry('a', 'b', 'c', 'd')), true},
	{"five runes", joining(entry('a', 'b', 'c', 'd', 'e')), false},
	{"a rune that is not good", joining(entry('a', 0xD800)), false},
	{"a rune below 0", joining(entry(-1)), false},
	{"a rune beyond", joining(entry(0x110000)), false},
	{"the last rune", joining(entry(0x10FFFF)), true},
	{"a control", joining(entry(0)), true},
	{"a blank", joining(entry(' ')), true},
	{"a mark", joining(entry(0x301)), true},
	{"taken apart", joining(entry('a', 0x301)), true},
	{"put together", joining(entry(0xE1)), false},
	{"put together behind others", joining(entry('a', 'b', 0xE1)), false},
	{"taken apart into one", joining(entry(0x212B)), false},
	{"a syllable", joining(entry(0xAC00)), false},
	{"a syllable's parts", joining(entry(0x1100, 0x1161)), true},
	{"marks sorted", joining(entry('s', 0x323, 0x307)), true},
	{"marks not sorted", joining(entry('s', 0x307, 0x323)), false},
	{"put together, five when taken apart", joining(entry(0x1EA4, 'b', 'c')), false},
	{"two alike", joining(entry('a'), entry('a')), false},
	{"two alike, weights unlike", joining(entry('a'), impl.Entry{Runes: []int{'a'}, Elem: elem(5, 50, 5)}), false},
	{"two alike, others between", joining(entry('a', 'b'), entry('c'), entry('d'), entry('a', 'b')), false},
	{"two unlike with one weight", joining(entry('a'), entry('b')), true},
	{"one begins with the other", joining(entry('a', 'b'), entry('a')), true},
	{"one begins with the other, longer", joining(entry('a'), entry('a', 'b')), true},
	{"the other way round", joining(entry('a', 'b'), entry('b', 'a')), true},
	{"the last one bad", joining(entry('a'), entry('b'), entry()), false},
	{"the first one bad", joining(entry(), entry('b')), false},
	{"39", joining(entries(39)...), true},
	{"40", joining(entries(40)...), true},
	{"41", joining(entries(41)...), false},
	{"40 but levels 0", impl.Rules{Entries: entries(40)}, false},
	{"40, the first and the last alike", joining(append(entries(39), entry(0x4E00))...), false},
}

func TestGoodRulesAtEachBound(t *testing.T) {
	for _, p := range goodRuleRows {
		t.Run(p.name, func(t *testing.T) {
			if good := impl.GoodRules(p.r); good != p.good {
				t.Errorf("GoodRules(%v) = %v", p.r, good)
			}
			if e, ok := impl.ElemOf(p.r, []int{'z'}); ok != p.good || p.good && e != elem(9000, 32, 2) || !p.good && e != (impl.Elem{}) {
				t.Errorf("ElemOf(%v, z) = %v %v", p.r, e, ok)
			}
		})
	}
}

func checkElem(t *testing.T, r impl.Rules, l []int, want impl.Elem, good bool) {
	t.Helper()
	if e, ok := impl.ElemOf(r, l); e != want || ok != good {
		t.Errorf("ElemOf(%v, %X) = %v %v, asked for %v %v", r, l, e, ok, want, good)
	}
}

func TestElemOfEntries(t *testing.T) {
	r := joining(
		impl.Entry{Runes: []int{'c', 'h'}, Elem: elem(4401, 33, 3)},
		impl.Entry{Runes: []int{'b'}, Elem: elem(4402, 34, 4)},
		impl.Entry{Runes: []int{'-'}, Elem: elem(4403, 35, 5)},
		impl.Entry{Runes: []int{0x301}, Elem: elem(4404, 36, 6)},
		impl.Entry{Runes: []int{0xDF}, Elem: elem(4405, 37, 7)},
		impl.Entry{Runes: []int{7}, Elem: elem(4406, 38, 8)},
		impl.Entry{Runes: []int{'s', 0x323, 0x307}, Elem: elem(4407, 39, 9)},
		impl.Entry{Runes: []int{'a', 'b', 'c', 'd'}, Elem: elem(65535, 999, 99)},
	)
	for _, x := range r.Entries {
		checkElem(t, r, x.Runes, x.Elem, true)
	}
	for _, l := range [][]int{
		{'c', 'H'}, {'h', 'c'}, {'c', 'h', 'c'}, {'a', 'b', 'c'}, {'a', 'b', 'c', 'e'}, {'b', 'b'}, {'s', 0x323}, {'s', 0x307},
		{'a', 0x301}, {'-', '-'}, {7, 7}, {0xDF, 0xDF}, {'a', 'b', 'c', 'd', 'e'}, {},
		{0x1E69}, {0x1E63, 0x307}, {'s', 0x307, 0x323},
	} {
		checkElem(t, r, l, impl.Elem{}, false)
	}
	checkElem(t, r, []int{'c'}, elem(4400, 32, 2), true)
	checkElem(t, r, []int{'B'}, elem(4200, 32, 8), true)
	checkElem(t, r, []int{'_'}, impl.Elem{First: 2, Second: 32, Third: 2, Varies: true}, true)
}

// Of one rune alone, that is no Entry, all that have one elem with a first weight.
func TestElemOfEachRuneThatIsNoEntry(t *testing.T) {
	for _, r := range []impl.Rules{impl.PlainRules(), joining(entry('c', 'h')), {Levels: 1, Shifted: true}} {
		for one := -300; one <= 0x3000; one++ {
			base := slowElems(one)
			if len(base) == 1 && base[0].First > 0 {
				checkElem(t, r, []int{one}, base[0], true)
			} else {
				checkElem(t, r, []int{one}, impl.Elem{}, false)
			}
		}
		for _, l := range [][]int{{0xAC00}, {0xD7FF}, {0xD800}, {0xFFFD}, {0x10FFFF}, {0x110000}, {'a', 'b'}, {'a', 'a'}, {'a', 0x301}, {' ', ' '}, {'1', '2', '3', '4'}} {
			checkElem(t, r, l, impl.Elem{}, false)
		}
	}
}
