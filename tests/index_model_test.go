package tests

import (
	"slices"
	"strings"
	"testing"

	"loop.example/g00158/impl"
)

// done: what is to be done, told by words: "put T=V", "drop T", "sync", "checkpoint".
func done(told ...string) []impl.Do {
	var l []impl.Do
	for _, s := range told {
		word, rest, _ := strings.Cut(s, " ")
		text, value, _ := strings.Cut(rest, "=")
		kind := slices.Index([]string{"", "put", "drop", "sync", "checkpoint"}, word)
		l = append(l, impl.Do{Kind: kind, Text: text, Value: value})
	}
	return l
}

// logOf: the records of puts and drops, each written as a whole.
func logOf(l ...impl.Do) string {
	log := ""
	for _, o := range l {
		if o.Kind == impl.DoDrop {
			log += "d" + string([]byte{byte(len(o.Text))}) + o.Text + "\x2e"
		} else {
			log += "p" + string([]byte{byte(len(o.Text)), byte(len(o.Value))}) + o.Text + o.Value + "\x2e"
		}
	}
	return log
}

// logged: a disk of these rules with nothing but a log, none of it synced.
func logged(rules string, told ...string) impl.Disk {
	return impl.Disk{Rules: rules, Log: logOf(done(told...)...)}
}

// keysTold: what slowTextKey has told, by the rules and the text, as long runs ask for the same ones again.
var keysTold = map[[2]string]string{}

// slowTextKey: the Key of a text by rules that are read.
func slowTextKey(rules, text string) string {
	told := [2]string{rules, text}
	if _, ok := keysTold[told]; !ok {
		r, _ := slowRead(rules)
		keysTold[told] = slowKey(r, first(impl.DecodeText(text)))
	}
	return keysTold[told]
}

func first[T any](x T, _ bool) T {
	return x
}

// keyed: the rows of these texts and values ("T=V"), in this order, with their Keys by the rules.
func keyed(t *testing.T, rules string, told ...string) []impl.Row {
	t.Helper()
	rulesOf(t, rules)
	var l []impl.Row
	for _, s := range told {
		text, value, _ := strings.Cut(s, "=")
		l = append(l, row(slowTextKey(rules, text), text, value))
	}
	return l
}

// slowBehindDo: the rows behind a put or a drop, and the code with which it is refused.
func slowBehindDo(rules string, l []impl.Row, o impl.Do) ([]impl.Row, int) {
	if len(o.Text) > 60 || len(o.Value) > 60 {
		return nil, 2
	}
	x := row(slowTextKey(rules, o.Text), o.Text, o.Value)
	if len(x.Key) > 200 {
		return nil, 2
	}
	behind := slowWith(l, x)
	if o.Kind == impl.DoDrop {
		behind = slices.DeleteFunc(slices.Clone(l), func(y impl.Row) bool { return y.Key == x.Key })
		if len(behind) == len(l) {
			return nil, 4
		}
	}
	if len(behind) > 60 {
		return nil, 3
	}
	return behind, 0
}

// slowRecord: what the record at the front of a log is, and what is left; it is held against that record
// written anew.
func slowRecord(s string) (impl.Do, string, bool) {
	head := map[byte]int{'p': 3, 'd': 2}[s[0]]
	if head == 0 || len(s) < head {
		return impl.Do{}, "", false
	}
	o := impl.Do{Kind: impl.DoDrop}
	text, value := int(s[1]), 0
	if head == 3 {
		o.Kind, value = impl.DoPut, int(s[2])
	}
	if len(s) < head+text+value {
		return impl.Do{}, "", false
	}
	o.Text, o.Value = s[head:head+text], s[head+text:head+text+value]
	left, ok := strings.CutPrefix(s, logOf(o))
	return o, left, ok
}

// slowOpen: the rows of a disk, by the words of the chapter.
func slowOpen(d impl.Disk) ([]impl.Row, bool) {
	_, code := slowRead(d.Rules)
	if code != 0 || len(d.Pages) > 40 || len(d.Log) > 6000 {
		return nil, false
	}
	var l []impl.Row
	for _, s := range d.Pages {
		rows, code := slowReadPage(s)
		if code != 0 {
			return nil, false
		}
		l = append(l, rows...)
	}
	for i, x := range l {
		if x.Key != slowTextKey(d.Rules, x.Text) || i > 0 && l[i-1].Key >= x.Key {
			return nil, false
		}
	}
	for left := d.Log; left != ""; {
		o, rest, ok := slowRecord(left)
		if !ok {
			return nil, false
		}
		if l, code = slowBehindDo(d.Rules, l, o); code != 0 {
			return nil, false
		}
		left = rest
	}
	return l, true
}

func slowGood(d impl.Disk) bool {
	_, ok := slowOpen(d)
	return ok && d.Synced >= 0 && d.Synced <= len(d.Log)
}

// slowDo: the disk behind a Do, and the code.
func slowDo(d impl.Disk, o impl.Do) (impl.Disk, int) {
	texts := map[int]bool{1: true, 2: true}
	l, ok := slowOpen(d)
	if !ok || d.Synced < 0 || d.Synced > len(d.Log) || o.Kind < 1 || o.Kind > 4 || o.Text != "" && !texts[o.Kind] || o.Value != "" && o.Kind != 1 {
		return impl.Disk{}, 1
	}
	switch o.Kind {
	case 3:
		d.Synced = len(d.Log)
	case 4:
		cut, ok := slowCut(l)
		if !ok || len(l) > 60 {
			return d, 3
		}
		return impl.Disk{Rules: d.Rules, Pages: slowPages(cut)}, 0
	default:
		if _, code := slowBehindDo(d.Rules, l, o); code != 0 {
			return d, code
		}
		if len(d.Log)+len(logOf(o)) > 6000 {
			return d, 3
		}
		d.Log += logOf(o)
	}
	return d, 0
}

// slowCrash: the disk behind a crash; the log is cut byte by byte till it is one again.
func slowCrash(d impl.Disk, keep int) impl.Disk {
	left := len(d.Log)
	if keep < left-d.Synced {
		left = d.Synced + keep
	}
	for {
		c := impl.Disk{Rules: d.Rules, Pages: d.Pages, Log: d.Log[:left], Synced: left}
		if slowGood(c) {
			return c
		}
		left--
	}
}

func sameDisk(a, b impl.Disk) bool {
	return a.Rules == b.Rules && slices.Equal(a.Pages, b.Pages) && a.Log == b.Log && a.Synced == b.Synced
}

// checkOpen fails unless the disk has these rows, and is good, whatever of its log is synced.
func checkOpen(t *testing.T, d impl.Disk, want []impl.Row) {
	t.Helper()
	checkRows(t, d, want)
	for _, n := range []int{0, 1, len(d.Log) / 2, len(d.Log) - 1, len(d.Log)} {
		if d.Synced = n; n >= 0 && n <= len(d.Log) && !impl.GoodDisk(d) {
			t.Errorf("GoodDisk(%#v) = false", d)
		}
	}
	refusedSynced(t, d)
}

func checkRows(t *testing.T, d impl.Disk, want []impl.Row) {
	t.Helper()
	if l, ok := impl.OpenRows(d); !ok || !slices.Equal(l, want) {
		t.Errorf("OpenRows(%#v) = %#v %v, asked for %#v", d, l, ok, want)
	}
}

// refusedSynced fails unless the disk is not good with Synced out of its bounds.
func refusedSynced(t *testing.T, d impl.Disk) {
	t.Helper()
	for _, n := range []int{-1, -len(d.Log) - 1, least, len(d.Log) + 1, 6001, most} {
		d.Synced = n
		if n < 0 || n > len(d.Log) {
			refusedAll(t, d)
		}
	}
}

const least, most = -1 << 63, 1<<63 - 1

// refusedDisk fails unless nothing is told of the disk.
func refusedDisk(t *testing.T, d impl.Disk) {
	t.Helper()
	if l, ok := impl.OpenRows(d); len(l) != 0 || ok {
		t.Errorf("OpenRows(%#v) = %#v %v", d, l, ok)
	}
	refusedAll(t, d)
}

// refusedAll fails unless all that ask for a good disk give the answer for one that is not.
func refusedAll(t *testing.T, d impl.Disk) {
	t.Helper()
	if impl.GoodDisk(d) {
		t.Errorf("GoodDisk(%#v) = true", d)
	}
	long := strings.Repeat("a", 61)
	for _, o := range append(done("put a=1", "drop a", "sync", "checkpoint", "put "+long), impl.Do{}, impl.Do{Kind: 5, Text: long, Value: long}) {
		if got, code := impl.DoIndex(d, o); !sameDisk(got, impl.Disk{}) || code != impl.IndexBad {
			t.Errorf("DoIndex(%#v, %#v) = %#v %d", d, o, got, code)
		}
	}
	for _, keep := range []int{-1, 0, 1, most} {
		if got, ok := impl.CrashIndex(d, keep); !sameDisk(got, impl.Disk{}) || ok {
			t.Errorf("CrashIndex(%#v, %d) = %#v %v", d, keep, got, ok)
		}
	}
	for _, l := range [][]impl.Do{nil, done("sync"), done("put a=1", "drop a"), make([]impl.Do, 61)} {
		if got, codes, ok := impl.PlayIndex(d, l); !sameDisk(got, impl.Disk{}) || len(codes) != 0 || ok {
			t.Errorf("PlayIndex(%#v, %#v) = %#v %v %v", d, l, got, codes, ok)
		}
	}
	for _, s := range []string{"", "a", long} {
		if x, code := impl.GetText(d, s); x != (impl.Row{}) || code != impl.IndexBad {
			t.Errorf("GetText(%#v, %#v) = %#v %d", d, s, x, code)
		}
		refusedRange(t, d, s, "b")
		refusedRange(t, d, "", s)
		refusedPrefix(t, d, s)
	}
}

func refusedRange(t *testing.T, d impl.Disk, lo, hi string) {
	t.Helper()
	if l, ok := impl.RangeTexts(d, lo, hi); len(l) != 0 || ok {
		t.Errorf("RangeTexts(%#v, %#v, %#v) = %#v %v", d, lo, hi, l, ok)
	}
}

func refusedPrefix(t *testing.T, d impl.Disk, text string) {
	t.Helper()
	if l, ok := impl.PrefixTexts(d, text); len(l) != 0 || ok {
		t.Errorf("PrefixTexts(%#v, %#v) = %#v %v", d, text, l, ok)
	}
}
