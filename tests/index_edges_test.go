package tests

import (
	"slices"
	"strings"
	"testing"

	"loop.example/g00158/impl"
)

// The zero disk is the disk of the empty rules, and a good one.
func TestTheZeroDisk(t *testing.T) {
	for _, d := range []impl.Disk{{}, {Pages: []string{}}, {Pages: make([]string, 3)[:0]}} {
		checkOpen(t, d, nil)
		checkCrash(t, d, 0, 0)
		refusedGet(t, d, "", impl.IndexNone)
		refusedGet(t, d, strings.Repeat("a", 61), impl.IndexLong)
		checkRange(t, d, "", "", nil)
		checkPrefix(t, d, "", nil)
		checkPlay(t, d, nil)
		checkPlay(t, d, []impl.Do{})
		checkPlay(t, d, []impl.Do{{}})
		checkDo(t, d, impl.Do{}, impl.Disk{}, impl.IndexBad)
	}
	if d, ok := impl.NewDisk(""); !ok || !sameDisk(d, impl.Disk{}) {
		t.Errorf("NewDisk of the empty rules = %#v %v", d, ok)
	}
}

// Any numbers, where numbers are taken.
func TestIndexOfAnyNumbers(t *testing.T) {
	d := someDisk(t)
	for _, n := range []int{least, least + 1, -1 << 32, -256, -5, -1, 0, 1, 2, 3, 4, 5, 46, 255, 256, 257, 1 << 31, 1 << 32, 1<<32 + 1, most - 1, most} {
		for _, o := range []impl.Do{{Kind: n}, {Kind: n, Text: "a"}, {Kind: n, Text: "y", Value: "v"}, {Kind: n, Value: "v"}} {
			want, code := slowDo(d, o)
			checkDo(t, d, o, want, code)
			checkPlay(t, d, []impl.Do{o})
		}
		if c, ok := impl.CrashIndex(d, n); ok != (n >= 0) || n < 0 && !sameDisk(c, impl.Disk{}) || n >= 0 && !sameDisk(c, slowCrash(d, n)) {
			t.Errorf("CrashIndex(%#v, %d) = %#v %v", d, n, c, ok)
		}
		c := d
		c.Synced = n
		if impl.GoodDisk(c) != slowGood(c) {
			t.Errorf("GoodDisk(%#v) = %v", c, !slowGood(c))
		}
		if !slowGood(c) {
			refusedAll(t, c)
		}
	}
}

// All short logs of these bytes, with any Synced near.
func TestAllShortLogs(t *testing.T) {
	good := 0
	for _, pages := range [][]string{nil, pagesOf(t, keyed(t, "", "=v"))} {
		forAllLists([]int{0, 1, 46, 'a', 'd', 'p'}, 7, func(l []int) {
			var log []byte
			for _, b := range l {
				log = append(log, byte(b))
			}
			d := impl.Disk{Pages: pages, Log: string(log)}
			want, ok := slowOpen(d)
			if rows, told := impl.OpenRows(d); told != ok || !slices.Equal(rows, want) {
				t.Errorf("OpenRows(%#v) = %#v %v, asked for %#v %v", d, rows, told, want, ok)
			}
			if !ok {
				return
			}
			good++
			for n := -1; n <= len(log)+1; n++ {
				d.Synced = n
				if impl.GoodDisk(d) != (n >= 0 && n <= len(log)) {
					t.Errorf("GoodDisk(%#v) = %v", d, n < 0 || n > len(log))
				}
			}
		})
	}
	if good < 50 {
		t.Error(good)
	}
}

// indexArguments: disks, good and not, as they are handed to all functions here.
func indexArguments(t *testing.T) []impl.Disk {
	words := wordsOf(60)
	paged := slowPages(first(slowCut(keyedAll(t, "", words))))
	spoiled := slices.Clone(paged)
	spoiled[1] = spoiled[1][:20]
	return []impl.Disk{
		{}, someDisk(t), {Pages: paged}, {Pages: spoiled}, {Pages: paged, Log: logOf(done("drop a1", "put zz=1")...), Synced: 4},
		{Pages: paged, Synced: 1}, {Pages: paged, Rules: "[levels 1]"}, {Pages: paged, Log: "p"}, {Pages: paged, Log: "d\x02a1.x", Synced: 5},
		{Log: logOf(putAll(words)...), Synced: 7},
	}
}

// Lists with other things behind their length: nothing of these is read or written.
func TestIndexWritesIntoNoArgument(t *testing.T) {
	does := done("put q=1", "drop a1", "drop a", "sync", "checkpoint", "put \u00e9=2", "drop e\u0301")
	for _, d := range indexArguments(t) {
		memory := append(slices.Clone(d.Pages), "PG", "behind", "")
		before := slices.Clone(memory)
		part := d
		part.Pages = memory[:len(d.Pages)]
		list := append(slices.Clone(does), impl.Do{Kind: 9, Text: "behind"}, impl.Do{Kind: 1, Text: "behind"})
		told := slices.Clone(list)

		rows, ok := impl.OpenRows(part)
		if want, good := impl.OpenRows(d); !slices.Equal(rows, want) || ok != good || impl.GoodDisk(part) != impl.GoodDisk(d) {
			t.Errorf("OpenRows(%#v) = %#v %v with memory behind, asked for %#v %v", d, rows, ok, want, good)
		}
		spoilRows(rows)
		for _, o := range does {
			got, code := impl.DoIndex(part, o)
			if want, is := impl.DoIndex(d, o); !sameDisk(got, want) || code != is {
				t.Errorf("DoIndex(%#v, %#v) = %#v %d with memory behind, asked for %#v %d", d, o, got, code, want, is)
			}
			spoilTexts(got.Pages)
		}
		for n := range len(does) + 1 {
			got, codes, ok := impl.PlayIndex(part, list[:n])
			if want, is, good := impl.PlayIndex(d, slices.Clone(does[:n])); !sameDisk(got, want) || !slices.Equal(codes, is) || ok != good {
				t.Errorf("PlayIndex(%#v) of %d = %#v %v %v with memory behind, asked for %#v %v %v", d, n, got, codes, ok, want, is, good)
			}
			spoilTexts(got.Pages)
			spoil(codes)
		}
		for _, keep := range []int{0, 5, most} {
			got, ok := impl.CrashIndex(part, keep)
			if want, good := impl.CrashIndex(d, keep); !sameDisk(got, want) || ok != good {
				t.Errorf("CrashIndex(%#v, %d) = %#v %v with memory behind, asked for %#v %v", d, keep, got, ok, want, good)
			}
			spoilTexts(got.Pages)
		}
		impl.GetText(part, "a1")
		rows, _ = impl.RangeTexts(part, "", "zz")
		spoilRows(rows)
		rows, _ = impl.PrefixTexts(part, "a")
		spoilRows(rows)
		if !slices.Equal(memory, before) || !slices.Equal(list, told) {
			t.Errorf("an argument was written into: %#v %#v, before %#v %#v", memory, list, before, told)
		}
	}
}

func textsOfDisk(d impl.Disk) []string {
	return append(slices.Clone(d.Pages), d.Rules, d.Log)
}

func textsOfDos(l ...impl.Do) []string {
	var texts []string
	for _, o := range l {
		texts = append(texts, o.Text, o.Value)
	}
	return texts
}

// An answer is new memory, its texts too.
func TestIndexAnswersAreNewMemory(t *testing.T) {
	rules := strings.Clone("& c < ch")
	if d, ok := impl.NewDisk(rules); ok {
		checkNewTexts(t, "NewDisk", textsOfDisk(d), []string{rules})
	}
	for _, d := range indexArguments(t) {
		if !impl.GoodDisk(d) {
			continue
		}
		arguments := textsOfDisk(d)
		rows, _ := impl.OpenRows(d)
		checkNewTexts(t, "OpenRows", textsOf(rows), arguments)
		lo, hi := strings.Clone("a"), strings.Clone("zz")
		between, _ := impl.RangeTexts(d, lo, hi)
		checkNewTexts(t, "RangeTexts", textsOf(between), append(slices.Clone(arguments), lo, hi))
		begin, _ := impl.PrefixTexts(d, lo)
		checkNewTexts(t, "PrefixTexts", textsOf(begin), append(slices.Clone(arguments), lo))
		for _, x := range rows {
			text := strings.Clone(x.Text)
			got, _ := impl.GetText(d, text)
			checkNewTexts(t, "GetText", textsOf([]impl.Row{got}), append(slices.Clone(arguments), text))
		}
		for _, keep := range []int{0, 5, most} {
			c, _ := impl.CrashIndex(d, keep)
			checkNewTexts(t, "CrashIndex", textsOfDisk(c), arguments)
		}
		does := append(done("put q=value", "put a1=value", "drop a1", "drop none", "put "+strings.Repeat("a", 61), "sync", "checkpoint"), impl.Do{Kind: 7, Text: "kind"})
		for i, o := range does {
			got, _ := impl.DoIndex(d, o)
			checkNewTexts(t, "DoIndex", textsOfDisk(got), append(slices.Clone(arguments), textsOfDos(o)...))
			for _, l := range [][]impl.Do{nil, does[:i], {o}, {o, does[6]}, {does[6], o}} {
				got, _, _ := impl.PlayIndex(d, l)
				checkNewTexts(t, "PlayIndex", textsOfDisk(got), append(slices.Clone(arguments), textsOfDos(l...)...))
			}
		}
	}
}

// The lists of an answer written over do not change what is told next; nothing is kept from call to call.
func TestIndexKeepsNothing(t *testing.T) {
	d := someDisk(t)
	want := keyed(t, d.Rules, "a=1", "cz=4", "ch=3", "d=5", "x=6")
	for range 3 {
		for _, answer := range []func() []impl.Row{
			func() []impl.Row { return first(impl.OpenRows(d)) },
			func() []impl.Row { return first(impl.RangeTexts(d, "", "zz")) },
			func() []impl.Row { return first(impl.PrefixTexts(d, "")) },
		} {
			rows := answer()
			if !slices.Equal(rows, want) {
				t.Errorf("%#v, asked for %#v", rows, want)
			}
			spoilRows(rows)
		}
		c, codes, _ := impl.PlayIndex(d, done("checkpoint", "drop x", "put a=9"))
		spoilTexts(c.Pages)
		spoil(codes)
		refusedDisk(t, c)
		checkGet(t, d, "a", want[0])
		refusedDisk(t, logged("& c <", "put a"))
		checkGet(t, logged("", "put ch=1"), "c\x07h", keyed(t, "", "ch=1")[0])
		refusedGet(t, d, "c\x07h", impl.IndexNone)
	}
}
