package tests

import (
	"fmt"
	"strings"
	"testing"

	"loop.example/g00158/impl"
)

func TestPutByLines(t *testing.T) {
	checkTold(t,
		"put b=2", "ok", "put a=1", "ok", "all", "rows a=1 b=2", "put b=3", "ok", "all", "rows a=1 b=3", "put c", "what", "put ", "what", "all", "rows a=1 b=3",
	)
	// T is up to the first equals sign, V all behind it.
	checkTold(t,
		"put a=b=c", "ok", "get a", "row a=b=c", "put a==", "ok", "get a", "row a==", "put a=b==", "ok", "all", "rows a=b==", "get a=b", "no 4", "drop a=b", "no 4", "drop a=", "no 4",
	)
	checkDisk(t, script("put a=b=c"), impl.Disk{Log: "p\x01\x03ab=c."})
	checkTold(t, "put a=", "ok", "get a", "row a=", "all", "rows a=")
	checkTold(t, "put =v", "ok", "get ", "row =v", "all", "rows =v", "put a=1", "ok", "all", "rows =v a=1", "drop ", "ok", "all", "rows a=1")
	checkTold(t, "put =", "ok", "get ", "row =", "all", "rows =", "put ==", "ok", "get ", "row ==", "put ===", "ok", "all", "rows ===", "get =", "no 4")
	checkDisk(t, script("put ="), impl.Disk{Log: "p\x00\x00."})
	checkDisk(t, script("put =="), impl.Disk{Log: "p\x00\x01=."})
	// Only a line of its own can have an equals sign in a Text that it asks for.
	checkTold(t, "put a=1", "ok", "prefix =", "rows", "get a=1", "no 4", "compare a=a=", "less", "compare =a=", "less")
}

// A Text is told as it was put at last, in whichever spelling.
func TestPutsOfOneTextBySpellings(t *testing.T) {
	checkTold(t,
		"put \u00e9=1", "ok", "put e\u0301=2", "ok", "all", "rows e\u0301=2", "put \u00e9=3", "ok", "all", "rows \u00e9=3", "put E\u0301=4", "ok", "all", "rows \u00e9=3 E\u0301=4",
		"get \u00c9", "row E\u0301=4", "drop e\u0301", "ok", "all", "rows E\u0301=4",
	)
	checkTold(t, "rules [levels 1]", "ok", "put a=1", "ok", "put A=2", "ok", "put \u00e1=3", "ok", "all", "rows \u00e1=3", "get a", "row \u00e1=3", "drop A\u0301", "ok", "all", "rows")
	checkTold(t, "rules [shifted]", "ok", "put ab=1", "ok", "put a-b=2", "ok", "put a b=3", "ok", "all", "rows a b=3", "get -ab", "row a b=3")
	checkDisk(t, script("rules [levels 1]", "put a=1", "put A=2", "drop \u00e1"), impl.Disk{Rules: "[levels 1]", Log: "p\x01\x01a1.p\x01\x01A2.d\x02\u00e1."})
}

func TestBytesThatAreNoUTF8ByLines(t *testing.T) {
	checkTold(t,
		"put \xff=\xfe", "ok", "get \xff", "row \xff=\xfe", "get \ufffd", "row \xff=\xfe", "get \xe2\x82", "row \xff=\xfe", "put \xe2\x82=\xc3", "ok", "all", "rows \xe2\x82=\xc3",
		"put \xc3=\x80\x80", "ok", "put a\xffb=1", "ok", "prefix \xfe", "rows \xc3=\x80\x80", "all", "rows a\xffb=1 \xc3=\x80\x80", "compare \xff=\xfe", "same", "drop \x80", "ok", "all", "rows a\xffb=1",
	)
	checkTold(t, "put \x00=\x00", "ok", "put \x01=\r", "ok", "get ", "row \x01=\r", "get \x7f", "row \x01=\r", "all", "rows \x01=\r", "drop ", "ok", "all", "rows")
	for b := range 256 {
		if b == '\n' {
			continue
		}
		s := string([]byte{byte(b)})
		checkSlow(t, script("put a=1", "put "+s+"="+s, "put b="+s, "all"))
		if b != '=' {
			checkTold(t, "put b=1", "ok", "put "+s+"="+s, "ok", "get "+s, "row "+s+"="+s, "drop "+s, "ok", "get "+s, "no 4")
		}
	}
}

func TestTextsAndValuesOf60BytesByLines(t *testing.T) {
	for _, text := range []int{0, 59, 60, 61, 62, 255, 256, 257, 316} {
		for _, value := range []int{0, 59, 60, 61, 62, 255, 256, 257, 316} {
			s, v := strings.Repeat("\x01", text), strings.Repeat("v", value)
			ahead := []string{"put a=1", "ok"}
			switch {
			case text > 60:
				checkTold(t, append(ahead, "put "+s+"="+v, "no 2", "drop "+s, "no 2", "get "+s, "no 2", "all", "rows a=1", "crash 9999", "rows 1")...)
			case value > 60:
				checkTold(t, append(ahead, "put "+s+"="+v, "no 2", "get "+s, "no 4", "all", "rows a=1", "crash 9999", "rows 1")...)
			default:
				checkTold(t, append(ahead, "put "+s+"="+v, "ok", "get "+s, "row "+s+"="+v, "all", "rows "+s+"="+v+" a=1", "crash 9999", "rows 2", "drop "+s, "ok", "drop "+s, "no 4")...)
			}
		}
	}
}

// A Key of 200 bytes and longer ones, by every number of levels.
func TestKeysOf200BytesByLines(t *testing.T) {
	for _, p := range longKeys {
		checkTold(t, "rules "+p.rules, "ok", "drop "+p.fits, "no 4", "get "+p.fits, "no 4", "put "+p.fits+"=1", "ok", "get "+p.fits, "row "+p.fits+"=1", "crash 9999", "rows 1", "drop "+p.fits, "ok", "all", "rows")
		for _, s := range p.more {
			checkTold(t, "rules "+p.rules, "ok", "put "+p.fits+"=1", "ok", "put "+s+"=2", "no 2", "drop "+s, "no 2", "get "+s, "no 2", "all", "rows "+p.fits+"=1", "crash 9999", "rows 1", "sync", "ok", "put "+s+"=3", "no 2", "crash 0", "rows 1")
		}
	}
}

func TestDropByLines(t *testing.T) {
	checkTold(t,
		"drop a", "no 4", "drop ", "no 4", "put a=1", "ok", "drop b", "no 4", "drop A", "no 4", "drop a", "ok", "drop a", "no 4", "all", "rows", "put a=2", "ok", "all", "rows a=2",
		"sync", "ok", "drop a", "ok", "crash 0", "rows 1", "drop a", "ok", "crash 3", "rows 1", "drop a", "ok", "crash 4", "rows 0", "drop a", "no 4",
	)
	checkTold(t, "put a=1", "ok", "checkpoint", "ok", "drop a", "ok", "drop a", "no 4", "checkpoint", "ok", "drop a", "no 4")
	// Rules that put letters elsewhere: ch is one letter, that c and what is between h and it are not.
	checkTold(t, "rules & c < ch", "ok", "put ch=1", "ok", "drop c\x07h", "no 4", "drop \x07ch", "ok")
}

// What is put is got and dropped by every spelling.
func TestEverySpellingByLines(t *testing.T) {
	forAllLists([]int{'s', 'c', 'h', 0x301, 0x307, 0x323, 0x1E69, 0x212B, 0xAC01}, 2, func(l []int) {
		for _, rules := range []string{"", "[levels 4] & c < ch <<< s\u0323"} {
			all := spellings(l)
			for _, s := range all {
				for _, other := range all {
					a, b := plainUTF8(s), plainUTF8(other)
					text := script("rules "+rules, "put other=2", "put "+a+"=1", "get "+b, "sync", "put "+b+"=3", "get "+a, "crash 0", "drop "+b, "get "+a, "checkpoint", "drop "+a, "compare "+a+"="+b)
					want := script("ok", "ok", "ok", "row "+a+"=1", "ok", "ok", "row "+b+"=3", "rows 2", "ok", "no 4", "ok", "no 4", "same")
					checkScript(t, text, want, want)
				}
			}
		}
	})
}

func TestSyncAndCheckpointByLines(t *testing.T) {
	checkTold(t, "sync", "ok", "sync", "ok", "all", "rows", "crash 0", "rows 0")
	checkTold(t, "checkpoint", "ok", "checkpoint", "ok", "all", "rows", "crash 0", "rows 0")
	checkDisk(t, script("sync", "sync", "checkpoint", "checkpoint", "crash 0"), impl.Disk{})
	checkTold(t,
		"put a=1", "ok", "sync", "ok", "sync", "ok", "all", "rows a=1", "put b=2", "ok", "crash 0", "rows 1", "all", "rows a=1",
		"put b=3", "ok", "checkpoint", "ok", "checkpoint", "ok", "all", "rows a=1 b=3", "put c=4", "ok", "crash 0", "rows 2", "all", "rows a=1 b=3", "crash 0", "rows 2",
		"drop a", "ok", "drop b", "ok", "checkpoint", "ok", "all", "rows", "crash 0", "rows 0",
	)
	checkDisk(t, script("put a=1", "sync", "put b=2"), impl.Disk{Log: "p\x01\x01a1.p\x01\x01b2.", Synced: 6})
	checkDisk(t, script("put a=1", "put b=2", "sync"), impl.Disk{Log: "p\x01\x01a1.p\x01\x01b2.", Synced: 12})
	checkDisk(t, script("put a=1", "sync", "checkpoint"), impl.Disk{Pages: pagesOf(t, keyed(t, "", "a=1"))})
	checkDisk(t, script("put b=2", "put a=1", "checkpoint", "drop a", "sync", "put c=3"), impl.Disk{Pages: pagesOf(t, keyed(t, "", "a=1", "b=2")), Log: "d\x01a.p\x01\x01c3.", Synced: 4})
	checkDisk(t, script("put a=1", "checkpoint", "drop a", "checkpoint"), impl.Disk{})
}

// What may stand behind the word, and what may not: 1 to 4 digits, none of them a needless nought.
func TestNumbersOfCrashByLines(t *testing.T) {
	for _, s := range []string{"0", "1", "5", "9", "10", "99", "100", "999", "1000", "9999"} {
		checkTold(t, "crash "+s, "rows 0", "put a=1", "ok", "sync", "ok", "crash "+s, "rows 1", "all", "rows a=1")
	}
	for _, s := range []string{
		"", " ", "10000", "12345", "99999", "100000", "4294967296", "18446744073709551616", "99999999999999999999", strings.Repeat("9", 100),
		"00", "000", "0000", "00000", "01", "06", "007", "0006", "00006", "0999", "09999",
		"-1", "-0", "+0", "+1", "+6", "-6", "- 6", " 6", "6 ", "  6", "6\t", "\t6", "6\r", "6\x00", "6 6", "6=", "=6", "6=6",
		"a", "6a", "a6", "0x6", "6.", "6.0", ".6", "6e0", "1e1", "1_0", "6,0", "\u0666", "\uff16", "\u00b2", "\xff", "six", "x",
	} {
		checkTold(t, "crash "+s, "what", "put a=1", "ok", "crash "+s, "what", "all", "rows a=1", "sync", "ok", "put b=2", "ok", "crash "+s, "what", "all", "rows a=1 b=2", "crash 5", "rows 1")
	}
}

// At every byte of what is behind the last sync or checkpoint, and beyond its end.
func TestCrashAtEveryByteByLines(t *testing.T) {
	for _, ahead := range []struct{ lines, answers string }{
		{"", ""}, {"sync\n", "ok\n"}, {"checkpoint\n", "ok\n"}, {"crash 0\n", "rows 0\n"},
		{"put c=0\ndrop c\nsync\n", "ok\nok\nok\n"}, {"put c=0\ncheckpoint\ndrop c\nsync\n", "ok\nok\nok\nok\n"}, {"put c=0\ncrash 6\ndrop c\ncheckpoint\n", "ok\nrows 1\nok\nok\n"},
		{"rules & c < ch\n", "ok\n"}, {"put d=1\nsync\nrules & c < ch\n", "ok\nok\nok\n"}, {"put a=7\nput b=8\ncrash 0\n", "ok\nok\nrows 0\n"},
	} {
		for keep := range 30 {
			// Records of 6, 5, 4 and 8 bytes.
			n, rows := 0, "rows"
			switch {
			case keep >= 23:
				n, rows = 2, "rows b= ch=12"
			case keep >= 15:
				n, rows = 1, "rows b="
			case keep >= 11:
				n, rows = 2, "rows a=1 b="
			case keep >= 6:
				n, rows = 1, "rows a=1"
			}
			left, more := fmt.Sprint("rows ", n), fmt.Sprint("rows ", n+1)
			text := ahead.lines + script("put a=1", "put b=", "drop a", "put ch=12", fmt.Sprint("crash ", keep), "all", "crash 0", "all", "put d=5", "crash 5", "all", "put d=6", "crash 6", "get d")
			want := ahead.answers + script("ok", "ok", "ok", "ok", left, rows, left, rows, "ok", left, rows, "ok", more, "row d=6")
			checkScript(t, text, want, want)
		}
	}
}

// What was marked stays, with the first bytes of what is behind it.
func TestWhatWasMarkedStaysByLines(t *testing.T) {
	for _, mark := range []string{"sync", "checkpoint"} {
		checkTold(t,
			"put a=1", "ok", "put b=2", "ok", mark, "ok", "put a=3", "ok", "drop b", "ok", "put c=4", "ok", "all", "rows a=3 c=4",
			"crash 0", "rows 2", "all", "rows a=1 b=2", "get a", "row a=1", "get c", "no 4",
			"put a=3", "ok", "drop b", "ok", "put c=4", "ok", "crash 9", "rows 2", "all", "rows a=3 b=2",
			// What is left behind a crash stays in the next one.
			"crash 0", "rows 2", "all", "rows a=3 b=2", "drop b", "ok", "put c=4", "ok", "crash 4", "rows 1", "all", "rows a=3", "put c=4", "ok", "crash 9999", "rows 2", "crash 0", "rows 2", "all", "rows a=3 c=4",
		)
	}
	// Nothing was marked: all goes.
	checkTold(t, "put a=1", "ok", "put b=2", "ok", "crash 0", "rows 0", "all", "rows", "crash 9999", "rows 0", "put c=3", "ok", "all", "rows c=3", "crash 1", "rows 0")
	// What is refused is no record.
	long := strings.Repeat("a", 61)
	checkTold(t, "put "+long+"=1", "no 2", "put a="+long, "no 2", "drop a", "no 4", "get a", "no 4", "all", "rows", "compare a=b", "less", "put a=1", "ok", "crash 6", "rows 1")
	checkTold(t, "put a=1", "ok", "drop b", "no 4", "put b=2", "ok", "crash 12", "rows 2", "drop b", "ok", "drop b", "no 4", "put c=3", "ok", "crash 10", "rows 2", "all", "rows a=1 c=3")
	// The bytes of a record are those of its texts, not the runes.
	checkTold(t, "put \u00e9=\u20ac", "ok", "crash 8", "rows 0", "put \u00e9=\u20ac", "ok", "crash 9", "rows 1", "drop e\u0301", "ok", "crash 5", "rows 1", "drop e\u0301", "ok", "crash 6", "rows 0")
}

// fullText: a Text whose Key has 198 bytes, and which has itself as many as are asked for, at least 24.
func fullText(bytes int) string {
	return strings.Repeat("a", 24) + strings.Repeat("\x01", bytes-24)
}

// A checkpoint of rows that PagesOf does not take: behind it all is as it was; the list takes them all the
// same.
func TestCheckpointsThatAreFullByLines(t *testing.T) {
	for _, p := range []struct{ text, value int }{{60, 60}, {60, 36}, {36, 60}, {50, 46}, {60, 35}, {35, 60}, {50, 45}} {
		s, v := fullText(p.text), strings.Repeat("v", p.value)
		if n := len(slowTextKey("[levels 4]", s)); n != 198 {
			t.Fatal(n)
		}
		lines := []string{"rules [levels 4]", "put b=1", "sync", "put " + s + "=" + v, "checkpoint", "all", "crash 0", "all", "checkpoint"}
		rows := "rows " + s + "=" + v + " b=1"
		list := script("ok", "ok", "ok", "ok", "ok", rows, "rows 2", rows, "ok")
		if p.text+p.value+198+7 <= 300 {
			checkScript(t, script(lines...), list, list)
			continue
		}
		checkScript(t, script(lines...), script("ok", "ok", "ok", "ok", "no 3", rows, "rows 1", "rows b=1", "ok"), list)
		disk := impl.Disk{Rules: "[levels 4]", Log: logOf(done("put b=1", "put "+s+"="+v)...), Synced: 6}
		checkDisk(t, script(lines[:4]...), disk)
		checkDisk(t, script(lines[:5]...), disk)
		checkDisk(t, script(lines...), impl.Disk{Rules: "[levels 4]", Pages: pagesOf(t, keyed(t, "[levels 4]", "b=1"))})
		// It is taken as soon as the row is gone or shorter, and refused each time till then.
		checkScript(t,
			script("rules [levels 4]", "put "+s+"="+v, "checkpoint", "checkpoint", "sync", "checkpoint", "put a=1", "get "+s, "put "+s+"=", "checkpoint", "crash 0"),
			script("ok", "ok", "no 3", "no 3", "ok", "no 3", "ok", "row "+s+"="+v, "ok", "ok", "rows 2"),
			script("ok", "ok", "ok", "ok", "ok", "ok", "ok", "row "+s+"="+v, "ok", "ok", "rows 2"))
	}
}

// More pages than there may be: 41 rows, each of which fills one.
func TestCheckpointsOfTooManyPagesByLines(t *testing.T) {
	var lines, texts []string
	for _, s := range wordsOf(41) {
		texts = append(texts, s+strings.Repeat("q", 22))
		lines = append(lines, "put "+s+strings.Repeat("q", 22)+"=")
	}
	rows := "rows"
	for _, s := range texts {
		rows += " " + s + "="
	}
	puts := func(n int) string { return "rules [levels 4]\n" + script(lines[:n]...) }
	ok := func(n int) string { return strings.Repeat("ok\n", n+1) }
	for _, n := range []int{39, 40} {
		checkScript(t, puts(n)+"checkpoint\ncrash 0\n", ok(n)+fmt.Sprintf("ok\nrows %d\n", n), ok(n)+fmt.Sprintf("ok\nrows %d\n", n))
		if d, _ := impl.DiskOfText(puts(n) + "checkpoint\n"); len(d.Pages) != n {
			t.Errorf("%d pages of %d rows", len(d.Pages), n)
		}
	}
	checkScript(t, puts(41)+"checkpoint\nall\ncrash 0\n", ok(41)+"no 3\n"+rows+"\nrows 0\n", ok(41)+"ok\n"+rows+"\nrows 41\n")
	checkScript(t, puts(41)+"checkpoint\ndrop "+texts[40]+"\ncheckpoint\ncrash 0\n", ok(41)+"no 3\nok\nok\nrows 40\n", ok(41)+"ok\nok\nok\nrows 40\n")
	checkScript(t, puts(41)+"sync\ncheckpoint\nput b=\ncrash 4\ncheckpoint\n", ok(41)+"ok\nno 3\nok\nrows 41\nno 3\n", ok(41)+"ok\nok\nok\nrows 41\nok\n")
}
