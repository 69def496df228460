package tests

import (
	"fmt"
	"slices"
	"strings"
	"testing"

	"loop.example/g00158/impl"
)

func TestGetByLines(t *testing.T) {
	long := strings.Repeat("\x01", 60)
	checkTold(t,
		"get a", "no 4", "get ", "no 4", "put a=1", "ok", "get a", "row a=1", "get b", "no 4", "get A", "no 4", "get \u00e1", "no 4", "get aa", "no 4", "get ", "no 4",
		"get a\x07", "row a=1", "get a"+long[:59], "row a=1", "get a"+long, "no 2", "get "+long, "no 4", "get "+long+"\x01", "no 2",
		"put a=2", "ok", "get a", "row a=2", "put a\x07=3", "ok", "get a", "row a\x07=3", "checkpoint", "ok", "get a", "row a\x07=3", "drop a", "ok", "get a", "no 4", "crash 0", "rows 1", "get a", "row a\x07=3",
	)
	// Third weights tell capital letters apart, by as many levels as there are.
	checkTold(t, "put d=1", "ok", "get D", "no 4", "rules [levels 2]", "ok", "put d=1", "ok", "get D", "row d=1", "get d\u0301", "no 4", "rules [levels 1]", "ok", "put d=1", "ok", "get D\u0301", "row d=1")
	// What is got may be in a page or in the log.
	checkTold(t, "put a=1", "ok", "put b=2", "ok", "checkpoint", "ok", "put b=3", "ok", "put c=4", "ok", "get a", "row a=1", "get b", "row b=3", "get c", "row c=4")
}

// rangeLines: lines that put these, in this order: a, B, cz, ch, d.
var rangeLines = []string{"rules & c < ch", "ok", "put d=5", "ok", "put ch=4", "ok", "put a=1", "ok", "put cz=3", "ok", "put B=2", "ok"}

func TestRangeByLines(t *testing.T) {
	for _, p := range [][2]string{
		{"range =z", "rows a=1 B=2 cz=3 ch=4 d=5"}, {"range a=z", "rows a=1 B=2 cz=3 ch=4 d=5"}, {"range a=d", "rows a=1 B=2 cz=3 ch=4"}, {"range a=ch", "rows a=1 B=2 cz=3"}, {"range ch=d", "rows ch=4"}, {"range cz=ch", "rows cz=3"},
		{"range a\u0301=b", "rows"}, {"range b=c", "rows B=2"}, {"range B=c", "rows B=2"}, {"range B\u0301=c", "rows"}, {"range A=b", "rows"}, {"range d=D", "rows d=5"}, {"range e=z", "rows"},
		// A at and above B.
		{"range a=a", "rows"}, {"range =", "rows"}, {"range ch=ch", "rows"}, {"range ch=cz", "rows"}, {"range z=a", "rows"}, {"range z=", "rows"}, {"range a=", "rows"},
		// A is up to the first equals sign, B all behind it.
		{"range a=b=", "rows a=1 B=2"}, {"range a=b", "rows a=1"}, {"range ==a", "rows a=1 B=2 cz=3 ch=4 d=5"}, {"range a==", "rows a=1 B=2 cz=3 ch=4 d=5"}, {"range a=b=c", "rows a=1 B=2"}, {"range a=a=b", "rows a=1"}, {"range ===", "rows a=1 B=2 cz=3 ch=4 d=5"},
		{"range ", "what"}, {"range a", "what"}, {"range", "what"}, {"range a b", "what"},
	} {
		checkTold(t, append(slices.Clone(rangeLines), p[0], p[1])...)
		checkTold(t, append(slices.Clone(rangeLines), "checkpoint", "ok", p[0], p[1])...)
	}
	checkTold(t, "range =z", "rows", "range =", "rows", "put =1", "ok", "range =a", "rows =1", "range =", "rows", "put a=", "ok", "range =b", "rows =1 a=")
}

func TestPrefixAndAllByLines(t *testing.T) {
	for _, p := range [][2]string{
		{"prefix ", "rows a=1 B=2 cz=3 ch=4 d=5"}, {"all", "rows a=1 B=2 cz=3 ch=4 d=5"}, {"prefix \u0301", "rows a=1 B=2 cz=3 ch=4 d=5"}, {"prefix \x07", "rows a=1 B=2 cz=3 ch=4 d=5"},
		{"prefix a", "rows a=1"}, {"prefix A", "rows a=1"}, {"prefix \u00e1", "rows a=1"}, {"prefix b", "rows B=2"}, {"prefix c", "rows cz=3"}, {"prefix C", "rows cz=3"}, {"prefix cz", "rows cz=3"}, {"prefix ch", "rows ch=4"}, {"prefix c\x07h", "rows"},
		{"prefix aa", "rows"}, {"prefix e", "rows"}, {"prefix =", "rows"}, {"prefix a=", "rows"}, {"prefix \xff", "rows"}, {"prefix  ", "rows"}, {"prefix", "what"}, {"all ", "what"},
	} {
		checkTold(t, append(slices.Clone(rangeLines), p[0], p[1])...)
		checkTold(t, append(slices.Clone(rangeLines), "checkpoint", "ok", p[0], p[1])...)
	}
	checkTold(t, "all", "rows", "prefix ", "rows", "prefix a", "rows")
	checkTold(t, "put = ", "ok", "all", "rows = ", "prefix ", "rows = ", "prefix a", "rows")
	checkTold(t, "rules [shifted]", "ok", "put a-b=1", "ok", "put abc=2", "ok", "prefix ab", "rows a-b=1 abc=2", "prefix -", "rows a-b=1 abc=2", "prefix a.b-c", "rows abc=2")
}

// All rows are told anew in the order of readers, whatever was put and dropped.
func TestAllOfManyByLines(t *testing.T) {
	texts := []string{"a", "A", "b", "\u00e1", "ab", "a-b", "a b", "aB", "ch", "CH", "cz", "c", "d", "z", "\u00e5", "0", "10", "\u4e00", "\xff", "-", "\u0301"}
	for _, rules := range []string{"", "[levels 1]", "[levels 4]", "[shifted]", "[shifted] [levels 4]", "& c < ch <<< CH", "& z < \u00e5", "& b < a << \u00e1 <<< A"} {
		lines := []string{"rules " + rules}
		for i := range texts {
			lines = append(lines, fmt.Sprint("put ", texts[i*8%len(texts)], "=", i))
		}
		for _, s := range []string{"a", "\u00c5", "z", "-"} {
			lines = append(lines, "all", "drop "+s)
		}
		checkSlow(t, script(append(lines, "all", "prefix a", "range a=b", "checkpoint", "all", "put \u00e5=1", "all")...))
	}
}

func TestRangeAndPrefixThatAreLongByLines(t *testing.T) {
	for _, n := range []int{59, 60, 61, 62, 200, 201, 255, 256, 257, 1000} {
		s := strings.Repeat("\x01", n)
		a := strings.Repeat("a", n)
		for _, p := range [][2]string{
			{"range " + s + "=z", "rows a=1 b=2"}, {"range =" + s, "rows"}, {"range " + s + "=" + s, "rows"}, {"prefix " + s, "rows a=1 b=2"},
			{"range " + a + "=z", "rows b=2"}, {"range =" + a, "rows a=1"}, {"range z=" + a, "rows"}, {"prefix " + a, "rows"},
		} {
			if n > 60 {
				p[1] = "no"
			}
			checkTold(t, "put a=1", "ok", "put b=2", "ok", p[0], p[1], "all", "rows a=1 b=2")
		}
	}
	// Keys longer than a row may have are held against the rows' all the same.
	for _, p := range longKeys {
		for _, s := range p.more {
			checkTold(t, "rules "+p.rules, "ok", "put =1", "ok", "range ="+s, "rows =1", "range "+s+"="+s, "rows", "prefix "+s, slowTell(p.rules, keyed(t, p.rules, "=1"), []string{"prefix", s, ""}))
		}
	}
}

func TestCompareByLines(t *testing.T) {
	checkTold(t,
		"compare a=b", "less", "compare b=a", "more", "compare a=a", "same", "compare =", "same", "compare a=", "more", "compare =a", "less", "compare \u00e9=e\u0301", "same", "compare a=A", "less", "compare A=a", "more",
		"compare a=\u00e1", "less", "compare ==", "less", "compare a==", "less", "compare ===", "less", "compare z==", "less", "compare a=b=c", "less", "compare b=b=", "less", "compare b=a=", "more",
		"compare a\x07=a", "same", "compare \xff=\ufffd", "same", "compare ch=cz", "less", "compare a b=ab", "less", "compare a", "what", "compare ", "what", "compare", "what",
	)
	checkTold(t, "rules & c < ch", "ok", "compare ch=cz", "more", "compare cz=ch", "less", "compare c\x07h=cz", "less", "compare CH=cz", "less", "compare ch=\x07ch", "same")
	checkTold(t, "rules [levels 1]", "ok", "compare a=A", "same", "compare a=\u00c1", "same", "compare a=b", "less")
	checkTold(t, "rules [shifted]", "ok", "compare a-b=ab", "same", "rules [shifted] [levels 4]", "ok", "compare a-b=ab", "less", "compare ab=a-b", "more")
	// Texts are of up to 200 bytes here.
	for _, n := range []int{60, 61, 199, 200} {
		s := strings.Repeat("a", n)
		checkTold(t, "compare "+s+"="+s, "same", "compare "+s+"=", "more", "compare ="+s, "less", "compare "+s+"="+s[1:], "more", "compare "+s[1:]+"="+s, "less")
	}
	for _, n := range []int{201, 202, 255, 256, 257, 1000} {
		s, low := strings.Repeat("a", n), strings.Repeat("\x01", n)
		for _, texts := range []string{s + "=" + s, s + "=", "=" + s, low + "=", "=" + low, "a=" + low} {
			checkTold(t, "put a=1", "ok", "compare "+texts, "no", "compare a=b", "less", "all", "rows a=1")
		}
	}
}

// The disks in the end of scripts, told by hand.
func TestDiskOfTextByHand(t *testing.T) {
	for _, p := range []struct {
		lines []string
		want  impl.Disk
	}{
		{nil, impl.Disk{}},
		{[]string{"all", "get a", "prefix ", "range a=b", "compare a=b", "fly", ""}, impl.Disk{}},
		{[]string{"put a=1"}, impl.Disk{Log: "p\x01\x01a1."}},
		{[]string{"put a=1", "drop a"}, impl.Disk{Log: "p\x01\x01a1.d\x01a."}},
		{[]string{"put a=1", "drop b", "put a=" + strings.Repeat("v", 61), "rules <", "crash", "sync "}, impl.Disk{Log: "p\x01\x01a1."}},
		{[]string{"put a=1", "sync", "drop a"}, impl.Disk{Log: "p\x01\x01a1.d\x01a.", Synced: 6}},
		{[]string{"put a=1", "sync", "drop a", "crash 3"}, impl.Disk{Log: "p\x01\x01a1.", Synced: 6}},
		{[]string{"put a=1", "sync", "drop a", "crash 4"}, impl.Disk{Log: "p\x01\x01a1.d\x01a.", Synced: 10}},
		{[]string{"put a=1", "crash 5"}, impl.Disk{}},
		{[]string{"put a=1", "crash 6"}, impl.Disk{Log: "p\x01\x01a1.", Synced: 6}},
		{[]string{"put a=1", "checkpoint", "put a=2", "get a", "all"}, impl.Disk{Pages: []string{"PG\x01\x00\x0a\x01\x01\x0f\xa0\x00\x00\x00\x20\x00\x00\x00\x02a1"}, Log: "p\x01\x01a2."}},
		{[]string{"rules [levels 1]", "put \u00e1=1", "put A=", "checkpoint"}, impl.Disk{Rules: "[levels 1]", Pages: []string{"PG\x01\x00\x02\x01\x00\x0f\xa0A"}}},
		{[]string{"rules & c < ch", "put a=1", "sync", "rules [levels 1]", "put b=2"}, impl.Disk{Rules: "[levels 1]", Log: "p\x01\x01b2."}},
		{[]string{"put a=1", "sync", "rules "}, impl.Disk{}},
	} {
		checkDisk(t, script(p.lines...), p.want)
		checkSlow(t, script(p.lines...))
		refusedScript(t, script(p.lines...)+"x")
	}
}
