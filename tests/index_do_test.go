package tests

import (
	"fmt"
	"slices"
	"strings"
	"testing"

	"loop.example/g00158/impl"
)

func checkDo(t *testing.T, d impl.Disk, o impl.Do, want impl.Disk, code int) {
	t.Helper()
	if got, is := impl.DoIndex(d, o); !sameDisk(got, want) || is != code {
		t.Errorf("DoIndex(%#v, %#v) = %#v %d, asked for %#v %d", d, o, got, is, want, code)
	}
}

// checkNoDo fails unless the Do is refused with this code, and the disk is as it was.
func checkNoDo(t *testing.T, d impl.Disk, o impl.Do, code int) {
	t.Helper()
	checkDo(t, d, o, d, code)
}

// someDisk: a disk with pages and a log, in part synced, whose rows are a, cz, ch, d and x.
func someDisk(t *testing.T) impl.Disk {
	t.Helper()
	rules := "& c < ch"
	l := keyed(t, rules, "a=1", "b=2", "ch=3")
	d := logged(rules, "drop b", "put cz=4", "put d=5", "put x=6")
	d.Pages = pagesOf(t, l[:2], l[2:])
	d.Synced = 4
	checkOpen(t, d, keyed(t, rules, "a=1", "cz=4", "ch=3", "d=5", "x=6"))
	return d
}

func TestDoIndexOfEachKind(t *testing.T) {
	d := someDisk(t)
	want := d
	want.Log = d.Log + "p\x01\x02yvw."
	checkDo(t, d, done("put y=vw")[0], want, impl.IndexOk)
	want.Log = d.Log + "d\x02ch."
	checkDo(t, d, done("drop ch")[0], want, impl.IndexOk)
	want = d
	want.Synced = len(d.Log)
	checkDo(t, d, done("sync")[0], want, impl.IndexOk)
	checkDo(t, d, done("checkpoint")[0], impl.Disk{Rules: d.Rules, Pages: pagesOf(t, keyed(t, d.Rules, "a=1", "cz=4", "ch=3", "d=5", "x=6"))}, impl.IndexOk)
}

func TestDoIndexOfTheZeroDisk(t *testing.T) {
	checkDo(t, impl.Disk{}, done("put ")[0], impl.Disk{Log: "p\x00\x00."}, impl.IndexOk)
	checkDo(t, impl.Disk{}, done("put a=1")[0], impl.Disk{Log: "p\x01\x01a1."}, impl.IndexOk)
	checkDo(t, impl.Disk{}, done("put \u00e9=\xff\x00")[0], impl.Disk{Log: "p\x02\x02\xc3\xa9\xff\x00\x2e"}, impl.IndexOk)
	checkDo(t, impl.Disk{}, done("drop a")[0], impl.Disk{}, impl.IndexNone)
	checkDo(t, impl.Disk{}, done("drop ")[0], impl.Disk{}, impl.IndexNone)
	checkDo(t, impl.Disk{}, done("sync")[0], impl.Disk{}, impl.IndexOk)
	checkDo(t, impl.Disk{}, done("checkpoint")[0], impl.Disk{}, impl.IndexOk)
	checkDo(t, impl.Disk{}, impl.Do{}, impl.Disk{}, impl.IndexBad)
}

// Each Kind that is none, and Texts and Values where there may be none: the zero disk, and IndexBad ahead of
// all other codes.
func TestDoIndexThatIsBad(t *testing.T) {
	long := strings.Repeat("a", 61)
	full := impl.Disk{Rules: "[levels 1]", Log: fullLog(6000)}
	for _, d := range []impl.Disk{{}, someDisk(t), full} {
		for _, kind := range []int{least, -4, -3, -2, -1, 0, 5, 6, 7, 8, 100, 256 + 1, 1<<32 + 1, most} {
			for _, text := range []string{"", "a", "none", long} {
				for _, value := range []string{"", "v", long} {
					checkDo(t, d, impl.Do{Kind: kind, Text: text, Value: value}, impl.Disk{}, impl.IndexBad)
				}
			}
		}
		for _, kind := range []int{impl.DoSync, impl.DoCheckpoint} {
			for _, s := range []string{"a", " ", "\x00", "none", long} {
				checkDo(t, d, impl.Do{Kind: kind, Text: s}, impl.Disk{}, impl.IndexBad)
				checkDo(t, d, impl.Do{Kind: kind, Value: s}, impl.Disk{}, impl.IndexBad)
				checkDo(t, d, impl.Do{Kind: kind, Text: s, Value: s}, impl.Disk{}, impl.IndexBad)
			}
		}
		for _, text := range []string{"", "a", "none", long} {
			for _, value := range []string{"v", " ", "\x00", long} {
				checkDo(t, d, impl.Do{Kind: impl.DoDrop, Text: text, Value: value}, impl.Disk{}, impl.IndexBad)
			}
		}
	}
}

func TestDoIndexThatIsLong(t *testing.T) {
	for _, d := range []impl.Disk{{}, someDisk(t)} {
		for _, text := range []int{0, 1, 59, 60, 61, 62, 200, 255, 256, 257, 316, 1 << 16} {
			for _, value := range []int{0, 1, 59, 60, 61, 62, 200, 255, 256, 257, 316, 1 << 16} {
				o := impl.Do{Kind: impl.DoPut, Text: strings.Repeat("\x01", text), Value: strings.Repeat("v", value)}
				if text > 60 || value > 60 {
					checkNoDo(t, d, o, impl.IndexLong)
					continue
				}
				want := d
				want.Log += logOf(o)
				checkDo(t, d, o, want, impl.IndexOk)
			}
		}
	}
	d := logged("", "put =1")
	for _, text := range []int{0, 1, 59, 60, 61, 62, 200, 255, 256, 257, 1 << 16} {
		o := impl.Do{Kind: impl.DoDrop, Text: strings.Repeat("\x01", text)}
		if text > 60 {
			checkNoDo(t, d, o, impl.IndexLong)
			continue
		}
		want := d
		want.Log += logOf(o)
		checkDo(t, d, o, want, impl.IndexOk)
	}
	for _, p := range longKeys {
		d := logged(p.rules, "put a=1")
		o := done("put " + p.fits + "=1")[0]
		want := d
		want.Log += logOf(o)
		checkDo(t, d, o, want, impl.IndexOk)
		checkNoDo(t, d, done("drop " + p.fits)[0], impl.IndexNone)
		for _, s := range p.more {
			checkNoDo(t, d, done("put " + s + "=1")[0], impl.IndexLong)
			checkNoDo(t, d, done("drop " + s)[0], impl.IndexLong)
		}
	}
}

func TestDropsThatAreThereOrNot(t *testing.T) {
	d := someDisk(t)
	for _, s := range []string{"", "b", "c", "A", "cy", "CH", "y", "ch\u0301", "c\x07h", "ax"} {
		checkNoDo(t, d, done("drop " + s)[0], impl.IndexNone)
	}
	for _, s := range []string{"a", "cz", "ch", "d", "x", "a\x07", "c\x07z", "\x00ch"} {
		o := done("drop " + s)[0]
		want := d
		want.Log += logOf(o)
		checkDo(t, d, o, want, impl.IndexOk)
		checkNoDo(t, want, o, impl.IndexNone)
	}
}

// The log met exactly, and one byte more.
func TestDoIndexWithAFullLog(t *testing.T) {
	rules := "[levels 1]"
	long := strings.Repeat("a", 61)
	a, b := strings.Repeat("a", 60), strings.Repeat("b", 60)
	for length := 5860; length <= 6000; length++ {
		d := impl.Disk{Rules: rules, Log: fullLog(length), Synced: 1}
		for _, o := range []impl.Do{
			{Kind: impl.DoPut}, {Kind: impl.DoPut, Text: "c"}, {Kind: impl.DoPut, Value: "w"}, {Kind: impl.DoPut, Text: a, Value: "w"},
			{Kind: impl.DoPut, Text: b, Value: b}, {Kind: impl.DoDrop, Text: a}, {Kind: impl.DoDrop, Text: strings.ToUpper(a)},
		} {
			want := d
			if want.Log += logOf(o); len(want.Log) > 6000 {
				checkNoDo(t, d, o, impl.IndexFull)
			} else {
				checkDo(t, d, o, want, impl.IndexOk)
			}
		}
		// Long is ahead of full, and so is none.
		for _, o := range []impl.Do{{Kind: impl.DoPut, Text: long}, {Kind: impl.DoPut, Value: long}, {Kind: impl.DoDrop, Text: long}, {Kind: impl.DoPut, Text: strings.Repeat("\xff", 51)}} {
			checkNoDo(t, d, o, impl.IndexLong)
		}
		checkNoDo(t, d, impl.Do{Kind: impl.DoDrop, Text: "none"}, impl.IndexNone)
		want := d
		want.Synced = length
		checkDo(t, d, impl.Do{Kind: impl.DoSync}, want, impl.IndexOk)
		if t.Failed() {
			return
		}
	}
	checkpointed(t, impl.Disk{Rules: rules, Log: fullLog(6000), Synced: 6000})
}

func TestDoIndexWith60Rows(t *testing.T) {
	words := wordsOf(61)
	full := impl.Disk{Log: logOf(putAll(words[:60])...)}
	paged := impl.Disk{Pages: slowPages(first(slowCut(keyedAll(t, "", words[:60]))))}
	for _, d := range []impl.Disk{full, paged} {
		for _, o := range append(putAll(words[60:]), done("put ", "put a0=1", "put A1=1", "put zz")...) {
			checkNoDo(t, d, o, impl.IndexFull)
		}
		checkNoDo(t, d, impl.Do{Kind: impl.DoPut, Text: strings.Repeat("z", 61)}, impl.IndexLong)
		checkNoDo(t, d, impl.Do{Kind: impl.DoPut, Text: strings.Repeat("z", 33)}, impl.IndexLong)
		checkNoDo(t, d, impl.Do{Kind: impl.DoDrop, Text: words[60]}, impl.IndexNone)
		for _, s := range words[:60] {
			for _, o := range []impl.Do{{Kind: impl.DoPut, Text: s + "\x07", Value: "w"}, {Kind: impl.DoDrop, Text: "\x07" + s}} {
				want := d
				want.Log += logOf(o)
				checkDo(t, d, o, want, impl.IndexOk)
			}
		}
		// A row less, and there is room for one.
		d, _ = impl.DoIndex(d, done("drop a1")[0])
		d, code := impl.DoIndex(d, putAll(words[60:])[0])
		if code != impl.IndexOk {
			t.Error(code)
		}
		checkOpen(t, d, keyedAll(t, "", words[1:]))
		checkNoDo(t, d, done("put a1=1")[0], impl.IndexFull)
	}
	d := impl.Disk{Log: logOf(putAll(words[:59])...)}
	want := d
	want.Log += logOf(putAll(words[59:60])...)
	checkDo(t, d, putAll(words[59:60])[0], want, impl.IndexOk)
}

func TestSyncTwice(t *testing.T) {
	d := someDisk(t)
	want := d
	want.Synced = len(d.Log)
	for _, n := range []int{0, 1, 4, 5, len(d.Log) - 1, len(d.Log)} {
		d.Synced = n
		checkDo(t, d, impl.Do{Kind: impl.DoSync}, want, impl.IndexOk)
	}
	checkDo(t, want, impl.Do{Kind: impl.DoSync}, want, impl.IndexOk)
	// A put behind it does not count as synced.
	put := want
	put.Log += "p\x01\x00y."
	checkDo(t, want, done("put y")[0], put, impl.IndexOk)
	synced := put
	synced.Synced = len(put.Log)
	checkDo(t, put, impl.Do{Kind: impl.DoSync}, synced, impl.IndexOk)
}

func checkpointed(t *testing.T, d impl.Disk) impl.Disk {
	t.Helper()
	rows, _ := impl.OpenRows(d)
	c, code := impl.DoIndex(d, impl.Do{Kind: impl.DoCheckpoint})
	pages, ok := impl.PagesOf(rows)
	if code != impl.IndexOk || !ok || !sameDisk(c, impl.Disk{Rules: d.Rules, Pages: pages}) {
		t.Errorf("the checkpoint of %#v = %#v %d, asked for %#v %v", d, c, code, pages, ok)
	}
	checkOpen(t, c, rows)
	return c
}

func TestCheckpoints(t *testing.T) {
	words := wordsOf(60)
	for _, d := range []impl.Disk{
		{}, {Rules: "& c < ch"}, someDisk(t),
		logged("", "put a=1", "drop a"),
		logged("[levels 1]", "put \u00e9=1", "put e=2", "put f"),
		{Log: logOf(putAll(words)...)},
		{Log: logOf(putAll(words[:59])...), Synced: 7},
	} {
		for _, n := range []int{0, len(d.Log) / 2, len(d.Log)} {
			d.Synced = n
			c := checkpointed(t, d)
			checkDo(t, c, impl.Do{Kind: impl.DoCheckpoint}, c, impl.IndexOk)
		}
	}
	// All rows of the pages dropped: no pages.
	c := checkpointed(t, impl.Disk{Log: logOf(putAll(words)...)})
	if len(c.Pages) < 3 {
		t.Error(c)
	}
	for _, s := range words {
		c, _ = impl.DoIndex(c, impl.Do{Kind: impl.DoDrop, Text: s})
	}
	if c = checkpointed(t, c); !sameDisk(c, impl.Disk{}) {
		t.Errorf("%#v", c)
	}
}

func TestCheckpointsThatAreFull(t *testing.T) {
	// A row that fills a page alone, and one that has a byte more.
	fits := impl.Do{Kind: impl.DoPut, Text: strings.Repeat("a", 32) + "\u0301", Value: strings.Repeat("v", 59)}
	more := fits
	more.Value += "v"
	if n := len(slowPage(keyed(t, "", fits.Text+"="+fits.Value))); n != 300 {
		t.Fatal(n)
	}
	checkpointed(t, impl.Disk{Log: logOf(fits)})
	for _, d := range []impl.Disk{{Log: logOf(more)}, {Log: logOf(more) + logOf(done("put b")...), Synced: 3}, {Log: logOf(done("put a")...) + logOf(more)}} {
		checkNoDo(t, d, impl.Do{Kind: impl.DoCheckpoint}, impl.IndexFull)
	}
	// 40 rows that have a page each, and 41.
	var l []impl.Do
	for i := range 41 {
		l = append(l, impl.Do{Kind: impl.DoPut, Text: fmt.Sprintf("%02d", i) + strings.Repeat("a", 20), Value: strings.Repeat("v", 60)})
	}
	if c := checkpointed(t, impl.Disk{Log: logOf(l[:40]...)}); len(c.Pages) != 40 {
		t.Error(len(c.Pages))
	}
	d := impl.Disk{Log: logOf(l...), Synced: 99}
	checkNoDo(t, d, impl.Do{Kind: impl.DoCheckpoint}, impl.IndexFull)
	// It is not full when one is dropped again.
	d, _ = impl.DoIndex(d, impl.Do{Kind: impl.DoDrop, Text: l[7].Text})
	checkpointed(t, d)
}

// checkPlay fails unless a play is its Dos done one by one, each on what the last one that was not refused left.
func checkPlay(t *testing.T, d impl.Disk, l []impl.Do) {
	t.Helper()
	want := d
	var codes []int
	for _, o := range l {
		next, code := slowDo(want, o)
		if code == impl.IndexOk {
			want = next
		}
		codes = append(codes, code)
	}
	if got, is, ok := impl.PlayIndex(d, l); !ok || !sameDisk(got, want) || !slices.Equal(is, codes) {
		t.Errorf("PlayIndex(%#v, %#v) = %#v %v %v, asked for %#v %v", d, l, got, is, ok, want, codes)
	}
}

func TestPlayIndexByHand(t *testing.T) {
	d, codes, ok := impl.PlayIndex(impl.Disk{}, done("put b=1", "drop x", "put a=2", "sync", "drop b", "drop b", "put c="+strings.Repeat("v", 61), "put a\x07"))
	if !ok || !slices.Equal(codes, []int{0, 4, 0, 0, 0, 4, 2, 0}) || !sameDisk(d, impl.Disk{Log: "p\x01\x01b1.p\x01\x01a2.d\x01b.p\x02\x00a\x07.", Synced: 12}) {
		t.Errorf("%#v %v %v", d, codes, ok)
	}
	checkRows(t, d, keyed(t, "", "a\x07"))
	d, codes, ok = impl.PlayIndex(d, done("checkpoint", "put b=3", "checkpoint", "drop a", "sync"))
	if !ok || !slices.Equal(codes, []int{0, 0, 0, 0, 0}) || !sameDisk(d, impl.Disk{Pages: pagesOf(t, keyed(t, "", "a\x07", "b=3")), Log: "d\x01a.", Synced: 4}) {
		t.Errorf("%#v %v %v", d, codes, ok)
	}
}

func TestPlayIndexOfNone(t *testing.T) {
	for _, d := range []impl.Disk{{}, someDisk(t)} {
		for _, l := range [][]impl.Do{nil, {}, done("put a")[:0]} {
			if got, codes, ok := impl.PlayIndex(d, l); !ok || len(codes) != 0 || !sameDisk(got, d) {
				t.Errorf("PlayIndex(%#v, none) = %#v %v %v", d, got, codes, ok)
			}
		}
	}
}

func TestPlayIndexOf60And61(t *testing.T) {
	l := putAll(wordsOf(62))
	for _, d := range []impl.Disk{{}, {Rules: "[levels 1]"}, someDisk(t)} {
		checkPlay(t, d, l[:59])
		checkPlay(t, d, l[:60])
		checkPlay(t, d, l[2:62])
		checkPlay(t, d, make([]impl.Do, 60))
		for _, more := range [][]impl.Do{l[:61], l, make([]impl.Do, 61), slices.Repeat(done("sync"), 61), slices.Repeat(done("sync"), 1<<12)} {
			if got, codes, ok := impl.PlayIndex(d, more); ok || len(codes) != 0 || !sameDisk(got, impl.Disk{}) {
				t.Errorf("PlayIndex of %d = %#v %v %v", len(more), got, codes, ok)
			}
		}
	}
}

func TestPlayIndexWithCodesBetween(t *testing.T) {
	long := strings.Repeat("a", 61)
	words := putAll(wordsOf(61))
	for _, d := range []impl.Disk{{}, someDisk(t), {Log: logOf(words[:58]...)}, {Rules: "[levels 1]", Log: fullLog(5990)}} {
		checkPlay(t, d, done("put q=1", "drop none", "put "+long, "put q="+long, "drop "+long, "put r=2", "drop q", "drop q", "sync", "put "+strings.Repeat("\xff", 55), "checkpoint", "drop q", "put q=3", "checkpoint"))
		checkPlay(t, d, append(slices.Clone(words[55:61]), done("checkpoint", "drop a1", "put zz", "sync")...))
		checkPlay(t, d, slices.Repeat(done("put a=1", "drop a"), 30))
		checkPlay(t, d, done("checkpoint", "checkpoint", "sync", "drop a", "checkpoint"))
	}
}

// Dos that are bad of themselves, at any disk.
var badDos = []impl.Do{
	{}, {Kind: 5}, {Kind: -1}, {Kind: least}, {Kind: most}, {Kind: 0, Text: "a"}, {Kind: 5, Text: "a", Value: "v"},
	{Kind: impl.DoDrop, Text: "a", Value: "v"}, {Kind: impl.DoDrop, Value: "v"},
	{Kind: impl.DoSync, Text: "a"}, {Kind: impl.DoSync, Value: "v"}, {Kind: impl.DoSync, Text: "a", Value: "v"},
	{Kind: impl.DoCheckpoint, Text: "a"}, {Kind: impl.DoCheckpoint, Value: "v"}, {Kind: impl.DoCheckpoint, Text: "\x00"},
}

// A Do that is bad is refused, and what is refused changes nothing: the play goes on with the disk as it was.
func TestPlayIndexWithABadDo(t *testing.T) {
	for _, bad := range badDos {
		d := impl.Disk{Log: "p\x01\x01a1."}
		got, codes, ok := impl.PlayIndex(d, []impl.Do{bad})
		if !ok || !slices.Equal(codes, []int{1}) || !sameDisk(got, d) {
			t.Errorf("PlayIndex of %#v alone = %#v %v %v", bad, got, codes, ok)
		}
		got, codes, ok = impl.PlayIndex(d, append([]impl.Do{bad}, done("put b=2")...))
		if !ok || !slices.Equal(codes, []int{1, 0}) || !sameDisk(got, impl.Disk{Log: "p\x01\x01a1.p\x01\x01b2."}) {
			t.Errorf("PlayIndex of %#v and a put = %#v %v %v", bad, got, codes, ok)
		}
		got, codes, ok = impl.PlayIndex(d, slices.Concat(done("sync", "drop a"), []impl.Do{bad}, done("drop a")))
		if !ok || !slices.Equal(codes, []int{0, 0, 1, 4}) || !sameDisk(got, impl.Disk{Log: "p\x01\x01a1.d\x01a.", Synced: 6}) {
			t.Errorf("PlayIndex of drops around %#v = %#v %v %v", bad, got, codes, ok)
		}
		// Beside DoIndex's own code stands the zero disk none the less.
		checkDo(t, d, bad, impl.Disk{}, impl.IndexBad)
	}
}

// Rules, pages and what is synced stay too, and keys are made by these rules behind it.
func TestPlayIndexWithBadDosBetween(t *testing.T) {
	for _, bad := range badDos {
		one := []impl.Do{bad}
		for _, d := range []impl.Disk{{}, {Rules: "[levels 1]"}, someDisk(t)} {
			checkPlay(t, d, one)
			checkPlay(t, d, slices.Concat(one, done("put q=1", "sync"), one, done("put ch=2", "drop a", "put cz=3"), one))
			checkPlay(t, d, slices.Concat(done("put q=1", "checkpoint"), one, one, done("drop Q", "drop q", "put c\x07h"), one, done("sync"), one, done("checkpoint")))
			checkPlay(t, d, slices.Repeat(one, 60))
		}
		d, codes, ok := impl.PlayIndex(impl.Disk{Rules: "& c < ch"}, slices.Concat(done("put ch=1", "checkpoint", "put cz=2", "sync"), one, done("put d=3")))
		want := impl.Disk{Rules: "& c < ch", Pages: pagesOf(t, keyed(t, "& c < ch", "ch=1")), Log: "p\x02\x01cz2.p\x01\x01d3.", Synced: 7}
		if !ok || !slices.Equal(codes, []int{0, 0, 0, 0, 1, 0}) || !sameDisk(d, want) {
			t.Errorf("PlayIndex with %#v = %#v %v %v, asked for %#v", bad, d, codes, ok, want)
		}
		checkRows(t, d, keyed(t, "& c < ch", "cz=2", "ch=1", "d=3"))
	}
}
