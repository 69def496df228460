package tests

import (
	"slices"
	"strings"
	"testing"

	"loop.example/g00158/impl"
)

var manyDiskRules = []string{
	"", "[levels 1]", "[levels 2]", "[levels 4]", "[shifted]", "[shifted] [levels 4]",
	"& c < ch <<< CH", "& a << \u00e4 < b", "[levels 1] & z < \u00e5 < \u00e9", "& a < s\u0307 < e\u0301 [shifted]",
}

// manyText: a text by a fixed rule, often one that readers take for another, at times too long.
func manyText(next func(int) int) string {
	pieces := []string{"a", "a", "b", "ch", "C", "H", "\u00e9", "e\u0301", "e", "\u1e69", "s\u0307\u0323", "-", " ", "\x07", "\xff", "\xe2\x82", "\ufffd", "\u00e5", "\u212b", "\"", "0", "."}
	n := next(4)
	switch next(12) {
	case 0:
		n = next(40)
	case 1:
		n = 25 + next(50)
	}
	text := ""
	for range n {
		text += pieces[next(len(pieces))]
	}
	return text
}

// manyDos: puts, drops, syncs and checkpoints by a fixed rule, few of them bad.
func manyDos(next func(int) int, n int) []impl.Do {
	var l []impl.Do
	for range n {
		o := impl.Do{Kind: impl.DoPut, Text: manyText(next)}
		switch next(16) {
		case 0:
			o = impl.Do{Kind: impl.DoSync}
		case 1:
			o = impl.Do{Kind: impl.DoCheckpoint}
		case 2, 3, 4, 5:
			o.Kind = impl.DoDrop
		default:
			o.Value = strings.Repeat("v", next(64))
		}
		if next(200) == 0 {
			o.Kind = next(7) - 1
		}
		l = append(l, o)
	}
	return l
}

// Long runs, each step held against the words of the chapter.
func TestManyDisks(t *testing.T) {
	count := map[int]int{}
	crashes := 0
	for seed := uint32(1); seed <= 120; seed++ {
		next := numbers(seed)
		d := impl.Disk{Rules: manyDiskRules[seed%uint32(len(manyDiskRules))]}
		for range 6 {
			l := manyDos(next, 20+next(20))
			for _, o := range l {
				want, code := slowDo(d, o)
				count[code]++
				checkDo(t, d, o, want, code)
				if code != impl.IndexBad {
					d = want
				}
			}
			rows, ok := slowOpen(d)
			if !ok {
				t.Fatalf("%#v", d)
			}
			checkRows(t, d, rows)
			checkTells(t, d, rows, manyText(next), manyText(next))
			checkPlay(t, d, manyDos(next, next(61)))
			if keep := next(300); next(2) == 0 {
				want := slowCrash(d, keep)
				checkCrash(t, d, keep, len(want.Log))
				d = want
				crashes++
			}
			if t.Failed() {
				return
			}
		}
	}
	for code, least := range []int{5000, 20, 300, 20, 1000} {
		if count[code] < least {
			t.Errorf("only %d with the code %d", count[code], code)
		}
	}
	if crashes < 200 {
		t.Errorf("only %d crashes", crashes)
	}
}

// checkTells fails unless all that tell rows of the disk tell of these, by two texts.
func checkTells(t *testing.T, d impl.Disk, rows []impl.Row, a, b string) {
	t.Helper()
	r, _ := slowRead(d.Rules)
	low, high := slowTextKey(d.Rules, clip(a)), slowTextKey(d.Rules, clip(b))
	var between, begin []impl.Row
	front := slowLevels(r, first(impl.DecodeText(clip(a))))[0]
	for i, x := range rows {
		if x.Key >= low && x.Key < high {
			between = append(between, x)
		}
		firsts := slowLevels(r, first(impl.DecodeText(x.Text)))[0]
		if len(firsts) >= len(front) && slices.Equal(firsts[:len(front)], front) {
			begin = append(begin, x)
		}
		if i%5 == len(a)%5 {
			checkGet(t, d, x.Text, x)
			for _, s := range spellings(first(impl.DecodeText(x.Text))) {
				if text := plainUTF8(s); len(text) <= 60 {
					checkGet(t, d, text, x)
				}
			}
		}
	}
	checkRange(t, d, clip(a), clip(b), between)
	checkPrefix(t, d, clip(a), begin)
	at := slices.IndexFunc(rows, func(x impl.Row) bool { return x.Key == slowTextKey(d.Rules, a) })
	switch {
	case len(a) > 60:
		refusedRange(t, d, a, clip(b))
		refusedRange(t, d, clip(b), a)
		refusedPrefix(t, d, a)
		refusedGet(t, d, a, impl.IndexLong)
	case len(low) > 200:
		refusedGet(t, d, a, impl.IndexLong)
	case at < 0:
		refusedGet(t, d, a, impl.IndexNone)
	default:
		checkGet(t, d, a, rows[at])
	}
}

// clip: as much of a text as may be asked for.
func clip(s string) string {
	return s[:min(60, len(s))]
}
