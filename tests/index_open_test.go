package tests

import (
	"slices"
	"strings"
	"testing"

	"loop.example/g00158/impl"
)

func TestConstantsOfTheIndex(t *testing.T) {
	limits := []int{impl.MaxLog, impl.MaxTextBytes, impl.MaxValueBytes}
	kinds := []int{impl.DoPut, impl.DoDrop, impl.DoSync, impl.DoCheckpoint}
	codes := []int{impl.IndexOk, impl.IndexBad, impl.IndexLong, impl.IndexFull, impl.IndexNone}
	if !slices.Equal(limits, []int{6000, 60, 60}) || !slices.Equal(kinds, []int{1, 2, 3, 4}) || !slices.Equal(codes, []int{0, 1, 2, 3, 4}) {
		t.Error(limits, kinds, codes)
	}
}

// fullRules: rules with as many Entries as there may be, and one more.
func fullRules() (string, string) {
	text := "& a"
	for i := range 40 {
		text += " < " + string(rune(0x4E00+i))
	}
	return text, text + " < x"
}

func TestNewDisk(t *testing.T) {
	full, _ := fullRules()
	for _, s := range []string{
		"", " ", "   ", "[shifted]", " [levels 1]  [shifted] ", "[levels 4]", "& c < ch <<< CH", "& z < \u00e5 << a\u0308", "& a < \xff",
		full, "& a < b" + strings.Repeat(" ", 293),
	} {
		d, ok := impl.NewDisk(s)
		if !ok || !sameDisk(d, impl.Disk{Rules: s}) {
			t.Errorf("NewDisk(%#v) = %#v %v", s, d, ok)
		}
		checkOpen(t, d, nil)
	}
}

func TestDisksOfRulesThatAreNotRead(t *testing.T) {
	_, more := fullRules()
	for _, p := range []struct {
		rules string
		code  int
	}{
		{strings.Repeat(" ", 301), impl.RuleLong},
		{"& a < b" + strings.Repeat(" ", 294), impl.RuleLong},
		{strings.Repeat("x", 1<<16), impl.RuleLong},
		{"x", impl.RuleWord},
		{"&", impl.RuleWord},
		{"[levels 5]", impl.RuleWord},
		{"[levels 0]", impl.RuleWord},
		{"[shifted", impl.RuleWord},
		{"& a < b x", impl.RuleWord},
		{"\x00", impl.RuleWord},
		{"& ch", impl.RuleReset},
		{"& -", impl.RuleReset},
		{"< a", impl.RuleReset},
		{"& c < ch < ch", impl.RuleTwice},
		{more, impl.RuleFull},
	} {
		if _, code := impl.ReadRules(p.rules); code != p.code {
			t.Errorf("ReadRules(%#v): %d, asked for %d", p.rules, code, p.code)
		}
		if d, ok := impl.NewDisk(p.rules); !sameDisk(d, impl.Disk{}) || ok {
			t.Errorf("NewDisk(%#v) = %#v %v", p.rules, d, ok)
		}
		refusedDisk(t, impl.Disk{Rules: p.rules})
		refusedDisk(t, logged(p.rules, "put a=1"))
		refusedDisk(t, impl.Disk{Rules: p.rules, Pages: pagesOf(t, keyed(t, "", "a=1"))})
	}
}

// openRows: what the records of a log make, by hand.
var openRows = []struct {
	name  string
	rules string
	log   string
	rows  [][3]string
}{
	{"nothing", "", "", nil},
	{"a put", "", "p\x01\x01a1.", [][3]string{{"0FA0|0020|0002", "a", "1"}}},
	{"no Value", "", "p\x01\x00a.", [][3]string{{"0FA0|0020|0002", "a", ""}}},
	{"no Text", "", "p\x00\x01v.", [][3]string{{"||", "", "v"}}},
	{"nothing at all", "", "p\x00\x00.", [][3]string{{"||", "", ""}}},
	{"two puts in order", "", "p\x01\x01a1.p\x01\x01b2.", [][3]string{{"0FA0|0020|0002", "a", "1"}, {"1068|0020|0002", "b", "2"}}},
	{"two puts the other way round", "", "p\x01\x01b2.p\x01\x01a1.", [][3]string{{"0FA0|0020|0002", "a", "1"}, {"1068|0020|0002", "b", "2"}}},
	{"not in the order of bytes", "", "p\x01\x01B2.p\x01\x01a1.p\x01\x01A3.", [][3]string{{"0FA0|0020|0002", "a", "1"}, {"0FA0|0020|0008", "A", "3"}, {"1068|0020|0008", "B", "2"}}},
	{"put twice", "", "p\x01\x01a1.p\x01\x01a2.", [][3]string{{"0FA0|0020|0002", "a", "2"}}},
	{"put twice, the last one without a Value", "", "p\x01\x01a1.p\x01\x00a.", [][3]string{{"0FA0|0020|0002", "a", ""}}},
	{"put and dropped", "", "p\x01\x01a1.d\x01a.", nil},
	{"dropped and put again", "", "p\x01\x01a1.d\x01a.p\x01\x01a2.", [][3]string{{"0FA0|0020|0002", "a", "2"}}},
	{"one of two dropped", "", "p\x01\x01a1.p\x01\x01b2.d\x01a.", [][3]string{{"1068|0020|0002", "b", "2"}}},
	{"the other one dropped", "", "p\x01\x01a1.p\x01\x01b2.d\x01b.", [][3]string{{"0FA0|0020|0002", "a", "1"}}},
	{"the one between dropped", "", "p\x01\x01a1.p\x01\x01c3.p\x01\x01b2.d\x01b.", [][3]string{{"0FA0|0020|0002", "a", "1"}, {"1130|0020|0002", "c", "3"}}},
	{"no Text, dropped", "", "p\x00\x01v.d\x00.", nil},
	{"together and then apart", "", "p\x02\x01\xc3\xa91.p\x03\x01e\xcc\x812.", [][3]string{{"12C0|0020 002E|0002 0002", "e\u0301", "2"}}},
	{"apart and then together", "", "p\x03\x01e\xcc\x812.p\x02\x01\xc3\xa91.", [][3]string{{"12C0|0020 002E|0002 0002", "\u00e9", "1"}}},
	{"put apart, dropped together", "", "p\x03\x01e\xcc\x812.d\x02\xc3\xa9.", nil},
	{"bad bytes of one kind and another", "", "p\x01\x01\xff1.p\x02\x01\xe2\x822.", [][3]string{{"EA61 FFFD|0020|0002", "\xe2\x82", "2"}}},
	{"a bad byte, then the rune that stands for it", "", "p\x01\x01\xff1.p\x03\x01\xef\xbf\xbd2.", [][3]string{{"EA61 FFFD|0020|0002", "\ufffd", "2"}}},
	{"with and without a control", "", "p\x01\x01a1.p\x02\x01a\x072.", [][3]string{{"0FA0|0020|0002", "a\x07", "2"}}},
	{"a Text and a Value like records", "", "p\x04\x03p\x01a.d\x00..", [][3]string{{"1B58 0FA0 0009|0020 0020 0020|0002 0002 0002", "p\x01a.", "d\x00."}}},
	{"a Value of any bytes", "", "p\x01\x04a\x00\xff.p.", [][3]string{{"0FA0|0020|0002", "a", "\x00\xff.p"}}},
	{"one level", "[levels 1]", "p\x01\x01a1.p\x01\x01A2.", [][3]string{{"0FA0", "A", "2"}}},
	{"two levels", "[levels 2]", "p\x01\x01a1.p\x01\x01A2.p\x02\x01\xc3\x813.", [][3]string{{"0FA0|0020", "A", "2"}, {"0FA0|0020 002E", "\u00c1", "3"}}},
	{"shifted", "[shifted]", "p\x03\x01a-b1.p\x02\x01ab2.", [][3]string{{"0FA0 1068|0020 0020|0002 0002", "ab", "2"}}},
	{"shifted, four levels", "[shifted] [levels 4]", "p\x03\x01a-b1.p\x02\x01ab2.", [][3]string{{"0FA0 1068|0020 0020|0002 0002|FFFF 0003 FFFF", "a-b", "1"}, {"0FA0 1068|0020 0020|0002 0002|FFFF FFFF", "ab", "2"}}},
	{"by rules", "& c < ch", "p\x02\x01ch1.p\x02\x01cz2.p\x01\x01d3.", [][3]string{{"1130 2328|0020 0020|0002 0002", "cz", "2"}, {"1131|0020|0002", "ch", "1"}, {"11F8|0020|0002", "d", "3"}}},
	{"the same without them", "", "p\x02\x01ch1.p\x02\x01cz2.p\x01\x01d3.", [][3]string{{"1130 1518|0020 0020|0002 0002", "ch", "1"}, {"1130 2328|0020 0020|0002 0002", "cz", "2"}, {"11F8|0020|0002", "d", "3"}}},
}

func TestOpenRowsByHand(t *testing.T) {
	for _, p := range openRows {
		t.Run(p.name, func(t *testing.T) {
			var want []impl.Row
			for _, x := range p.rows {
				want = append(want, row(key(t, x[0]), x[1], x[2]))
			}
			d := impl.Disk{Rules: p.rules, Log: p.log}
			checkOpen(t, d, want)
			if l, ok := slowOpen(d); !ok || !slices.Equal(l, want) {
				t.Errorf("the tests' own way: %#v %v", l, ok)
			}
		})
	}
}

func TestPagesBeneathTheLog(t *testing.T) {
	rules := "& c < ch"
	l := keyed(t, rules, "a=1", "cz=2", "ch=3", "d=4")
	for _, pages := range [][]string{pagesOf(t, l), pagesOf(t, l[:1], l[1:]), pagesOf(t, l[:1], l[1:2], l[2:3], l[3:])} {
		checkOpen(t, impl.Disk{Rules: rules, Pages: pages}, l)
		for _, p := range []struct {
			told []string
			want []string
		}{
			{[]string{"put b=5"}, []string{"a=1", "b=5", "cz=2", "ch=3", "d=4"}},
			{[]string{"put =5"}, []string{"=5", "a=1", "cz=2", "ch=3", "d=4"}},
			{[]string{"put e=5"}, []string{"a=1", "cz=2", "ch=3", "d=4", "e=5"}},
			{[]string{"put c\x07h=5"}, []string{"a=1", "c\x07h=5", "cz=2", "ch=3", "d=4"}},
			{[]string{"put ch\x07=5"}, []string{"a=1", "cz=2", "ch\x07=5", "d=4"}},
			{[]string{"put a"}, []string{"a", "cz=2", "ch=3", "d=4"}},
			{[]string{"drop ch"}, []string{"a=1", "cz=2", "d=4"}},
			{[]string{"drop ch", "put ch=5"}, []string{"a=1", "cz=2", "ch=5", "d=4"}},
			{[]string{"drop a", "drop d", "drop ch", "drop cz"}, nil},
			{[]string{"drop a", "drop d", "drop ch", "drop cz", "put d=5", "put a=6"}, []string{"a=6", "d=5"}},
		} {
			d := logged(rules, p.told...)
			d.Pages = pages
			checkOpen(t, d, keyed(t, rules, p.want...))
		}
		for _, told := range [][]string{{"drop b"}, {"drop a", "drop a"}, {"put a=2", "drop c"}, {"drop d", "drop d\x07"}} {
			d := logged(rules, told...)
			d.Pages = pages
			refusedDisk(t, d)
		}
	}
}

func TestDisksOfPagesThatAreNone(t *testing.T) {
	a, b := keyed(t, "", "a=1")[0], keyed(t, "", "b=2")[0]
	good := pagesOf(t, []impl.Row{a}, []impl.Row{b})
	for _, pages := range [][]string{
		{""},
		{"PG"},
		{"PG\x00"},
		{"PH" + good[0][2:]},
		{good[0] + "."},
		{good[0][:len(good[0])-1]},
		{good[0], ""},
		{"", good[0]},
		{good[1], good[0]},
		{good[0], good[0]},
		{good[0], good[1], good[1]},
		slices.Repeat(good[:1], 40),
		slices.Repeat(good[:1], 41),
		make([]string, 41),
		make([]string, 1<<12),
	} {
		refusedDisk(t, impl.Disk{Pages: pages})
		refusedDisk(t, impl.Disk{Pages: pages, Log: logOf(done("put a=1")...)})
	}
	checkOpen(t, impl.Disk{Pages: good}, []impl.Row{a, b})
}

// As many pages as there may be, and one more.
func TestDisksOf40And41Pages(t *testing.T) {
	var lists [][]impl.Row
	for i := range 41 {
		lists = append(lists, keyed(t, "", string([]byte{'a' + byte(i/10), '0' + byte(i%10)})))
	}
	pages := pagesOf(t, lists...)
	checkOpen(t, impl.Disk{Pages: pages[:40]}, slices.Concat(lists[:40]...))
	refusedDisk(t, impl.Disk{Pages: pages})
}

func TestPagesWhoseKeyIsNotOfItsText(t *testing.T) {
	good := keyed(t, "", "a=1", "b=2", "c=3")
	for at, x := range good {
		for _, key := range []string{x.Key + "\x00", x.Key[:len(x.Key)-1], x.Key[:len(x.Key)-1] + "\x03", slowTextKey("[levels 2]", x.Text), slowTextKey("[levels 4]", x.Text)} {
			for cut := range 3 {
				l := slices.Clone(good)
				l[at].Key = key
				pages := pagesOf(t, l[:cut+1])
				if cut < 2 {
					pages = append(pages, pagesOf(t, l[cut+1:])...)
				}
				refusedDisk(t, impl.Disk{Pages: pages})
				d := logged("", "put "+x.Text+"=1")
				d.Pages = pages
				refusedDisk(t, d)
			}
		}
		l := slices.Clone(good)
		l[at].Text = "z"
		refusedDisk(t, impl.Disk{Pages: pagesOf(t, l)})
		// Another spelling has the same Key.
		l[at].Text = x.Text + "\x07"
		checkOpen(t, impl.Disk{Pages: pagesOf(t, l)}, l)
	}
	for _, rules := range []string{"[levels 1]", "[levels 2]", "[levels 4]", "& a < b", "& a << c"} {
		refusedDisk(t, impl.Disk{Rules: rules, Pages: pagesOf(t, good)})
	}
	for _, rules := range []string{" ", "[shifted]", "[levels 3]", "& c < ch"} {
		checkOpen(t, impl.Disk{Rules: rules, Pages: pagesOf(t, good)}, good)
	}
	refusedDisk(t, impl.Disk{Pages: pagesOf(t, []impl.Row{{}})})
	checkOpen(t, impl.Disk{Pages: pagesOf(t, keyed(t, "", "=v"))}, keyed(t, "", "=v"))
}

// What bounds a record does not bound a page, which has its own bounds.
func TestPagesWithLongTexts(t *testing.T) {
	text, value := strings.Repeat("a", 80), strings.Repeat("v", 60)
	l := keyed(t, "[levels 1]", text[:60]+"="+value)
	checkOpen(t, impl.Disk{Rules: "[levels 1]", Pages: pagesOf(t, l)}, l)
	l = keyed(t, "", strings.Repeat("\x01", 80)+"="+strings.Repeat("v", 80))
	checkOpen(t, impl.Disk{Pages: pagesOf(t, l)}, l)
	d := logged("", "drop ")
	d.Pages = pagesOf(t, l)
	checkOpen(t, d, nil)
	for n, ok := range map[int]bool{0: true, 60: true, 61: false, 80: false} {
		d := logged("", "drop "+l[0].Text[:n])
		d.Pages = pagesOf(t, l)
		if ok {
			checkOpen(t, d, nil)
		} else {
			refusedDisk(t, d)
		}
	}
	l = keyed(t, "[levels 1]", text[:75]+"=v")
	checkOpen(t, impl.Disk{Rules: "[levels 1]", Pages: pagesOf(t, l)}, l)
}

// fullLog: a log of that many bytes, 4 or 8 at least, that puts one Text again and again, and two others at last.
func fullLog(length int) string {
	sized := func(letter string, size int) string {
		n := size - 4
		return logOf(impl.Do{Kind: impl.DoPut, Text: strings.Repeat(letter, min(60, n)), Value: strings.Repeat("v", max(0, n-60))})
	}
	log := strings.Repeat(sized("a", 124), max(0, length-8)/124)
	if rest := length - len(log); rest >= 8 {
		log += sized("b", min(124, rest-4))
	}
	return log + sized("c", length-len(log))
}

func TestLogsOf6000And6001Bytes(t *testing.T) {
	for _, n := range []int{4, 8, 123, 124, 127, 128, 131, 132, 5999, 6000, 6001, 6002, 6124, 12000} {
		d := impl.Disk{Rules: "[levels 1]", Log: fullLog(n)}
		if len(d.Log) != n {
			t.Fatal(n, len(d.Log))
		}
		if n > 6000 {
			refusedDisk(t, d)
			continue
		}
		l, ok := slowOpen(d)
		if !ok {
			t.Fatal(n)
		}
		checkOpen(t, d, l)
	}
	for _, log := range []string{strings.Repeat("p\x00\x00.", 1500), strings.Repeat("p\x00\x00.d\x00.", 857)} {
		if _, ok := impl.OpenRows(impl.Disk{Log: log}); !ok {
			t.Errorf("a log of %d bytes is refused", len(log))
		}
	}
	refusedDisk(t, impl.Disk{Log: strings.Repeat("p\x00\x00.", 1501)})
	refusedDisk(t, impl.Disk{Log: strings.Repeat("p\x00\x00.", 1<<18)})
	refusedDisk(t, impl.Disk{Log: strings.Repeat("\x00", 1<<20)})
}

// someLog: records of each kind, and where they end.
func someLog() (string, map[int]bool) {
	log, ends := "", map[int]bool{0: true}
	for _, o := range done("put a=1", "put b", "put =v", "drop b", "put \u00e9.=.", "put a\x07=p\x00\x00.", "drop ", "put .d\x00.=", "drop e\u0301.", "put pp=dd") {
		log += logOf(o)
		ends[len(log)] = true
	}
	return log, ends
}

func TestLogsCutAtEveryPlace(t *testing.T) {
	log, ends := someLog()
	good := 0
	for n := range len(log) + 1 {
		d := impl.Disk{Log: log[:n]}
		if !ends[n] {
			refusedDisk(t, d)
			continue
		}
		good++
		l, ok := slowOpen(d)
		if !ok {
			t.Fatal(n)
		}
		checkOpen(t, d, l)
	}
	if good != 11 {
		t.Error(good)
	}
	checkOpen(t, impl.Disk{Log: log}, keyed(t, "", ".d\x00.=", "a\x07=p\x00\x00.", "pp=dd"))
}

func TestLogsWithOtherBytesBetween(t *testing.T) {
	log, ends := someLog()
	for _, other := range []string{"\x00", ".", "\n", " ", "p", "d", "x", "P", "D", "\xff", "p\x00", "d\x01", "..", "p\x00\x00", "d\x00"} {
		for n := range ends {
			refusedDisk(t, impl.Disk{Log: log[:n] + other + log[n:]})
		}
	}
}

// Each byte of a log turned into each other one: the log is told as the tests' own way tells it.
func TestLogsWithOneByteTurned(t *testing.T) {
	log, _ := someLog()
	good := 0
	for at := range len(log) {
		for b := range 256 {
			turned := []byte(log)
			turned[at] = byte(b)
			d := impl.Disk{Log: string(turned)}
			want, ok := slowOpen(d)
			if ok {
				good++
				checkRows(t, d, want)
			} else if l, told := impl.OpenRows(d); told || len(l) != 0 {
				t.Errorf("OpenRows(%#v) = %#v %v", d, l, told)
			}
			if impl.GoodDisk(d) != ok {
				t.Errorf("GoodDisk(%#v) = %v", d, !ok)
			}
		}
		if t.Failed() {
			return
		}
	}
	if good < 1000 {
		t.Error(good)
	}
}

func TestRecordsOfAnotherLetterOrEnd(t *testing.T) {
	for b := range 256 {
		one := string([]byte{byte(b)})
		if b != 'p' {
			refusedDisk(t, impl.Disk{Log: one + "\x01\x01a1."})
			refusedDisk(t, impl.Disk{Log: "p\x01\x01a1." + one + "\x01\x01a1."})
		}
		if b != 'p' && b != 'd' {
			refusedDisk(t, impl.Disk{Log: "p\x01\x01a1." + one + "\x01a."})
		}
		if b != 46 {
			refusedDisk(t, impl.Disk{Log: "p\x01\x01a1" + one})
			refusedDisk(t, impl.Disk{Log: "p\x01\x01a1.d\x01a" + one})
			refusedDisk(t, impl.Disk{Log: "p\x01\x01a1" + one + "p\x01\x01a1."})
		}
	}
	checkOpen(t, impl.Disk{Log: "p\x01\x01a1.p\x01\x01a1."}, keyed(t, "", "a=1"))
	checkOpen(t, impl.Disk{Log: "p\x01\x01a1.d\x01a."}, nil)
}

func TestRecordsOf60And61Bytes(t *testing.T) {
	for text := range 256 {
		for _, value := range []int{0, 1, 59, 60, 61, 62, 80, 255} {
			// Controls: a Key that is short whatever the Text.
			o := impl.Do{Kind: impl.DoPut, Text: strings.Repeat("\x01", text), Value: strings.Repeat("v", value)}
			d := impl.Disk{Log: logOf(o)}
			if text <= 60 && value <= 60 {
				checkOpen(t, d, keyed(t, "", o.Text+"="+o.Value))
			} else {
				refusedDisk(t, d)
			}
		}
		d := logged("", "put =1", "drop "+strings.Repeat("\x01", text))
		if text <= 60 {
			checkOpen(t, d, nil)
		} else {
			refusedDisk(t, d)
		}
	}
	l := keyed(t, "[levels 1]", strings.Repeat("b", 60)+"="+strings.Repeat("v", 60))
	checkOpen(t, impl.Disk{Rules: "[levels 1]", Log: logOf(impl.Do{Kind: impl.DoPut, Text: l[0].Text, Value: l[0].Value})}, l)
}

func TestDropsOfRowsThatAreNotThere(t *testing.T) {
	for _, told := range [][]string{
		{"drop a"},
		{"drop "},
		{"put a=1", "drop b"},
		{"put a=1", "drop A"},
		{"put a=1", "drop "},
		{"put a=1", "drop a", "drop a"},
		{"put a=1", "drop a\x07", "drop a"},
		{"put \u00e9=1", "drop e"},
		{"put \u00e9=1", "drop \u00e9", "drop e\u0301"},
		{"drop a", "put a=1"},
		{"put a=1", "drop a", "put a=1", "drop a", "drop a", "put a=1"},
	} {
		refusedDisk(t, logged("", told...))
	}
	checkOpen(t, logged("", "put a=1", "drop a", "put a=2", "drop a\x07", "put \x07a=3"), keyed(t, "", "\x07a=3"))
	checkOpen(t, logged("[levels 1]", "put a=1", "drop A"), nil)
	checkOpen(t, logged("[levels 1]", "put \u00e9=1", "drop e"), nil)
}

// wordsOf: n texts in rising order.
func wordsOf(n int) []string {
	var l []string
	for i := range n {
		l = append(l, string([]byte{'a' + byte(i/8), '1' + byte(i%8)}))
	}
	return l
}

func putAll(texts []string) []impl.Do {
	var l []impl.Do
	for _, s := range texts {
		l = append(l, impl.Do{Kind: impl.DoPut, Text: s, Value: "v" + s})
	}
	return l
}

func keyedAll(t *testing.T, rules string, texts []string) []impl.Row {
	t.Helper()
	var told []string
	for _, s := range texts {
		told = append(told, s+"=v"+s)
	}
	return keyed(t, rules, told...)
}

func TestLogsOf60And61Rows(t *testing.T) {
	words := wordsOf(62)
	log := logOf(putAll(words[:60])...)
	checkOpen(t, impl.Disk{Log: log}, keyedAll(t, "", words[:60]))
	other := logOf(putAll(words[60:61])...)
	refusedDisk(t, impl.Disk{Log: log + other})
	refusedDisk(t, impl.Disk{Log: log + other + logOf(done("drop a1")...)})
	refusedDisk(t, impl.Disk{Log: log + other + logOf(impl.Do{Kind: impl.DoDrop, Text: words[60]})})
	checkOpen(t, impl.Disk{Log: log + logOf(done("drop a1")...) + other}, keyedAll(t, "", words[1:61]))
	// In the place of one that is there.
	checkOpen(t, impl.Disk{Log: log + logOf(putAll(words[:60])...)}, keyedAll(t, "", words[:60]))
	for _, n := range []int{0, 1, 30, 59, 60} {
		l := keyedAll(t, "", words[:n])
		pages := slowPages(first(slowCut(l)))
		rest := logOf(putAll(words[n:60])...)
		checkOpen(t, impl.Disk{Pages: pages, Log: rest}, keyedAll(t, "", words[:60]))
		refusedDisk(t, impl.Disk{Pages: pages, Log: rest + other})
	}
}

// Pages may have more rows than a log may make of them: the rows are counted at each record.
func TestPagesOfMoreThan60Rows(t *testing.T) {
	words := wordsOf(62)
	for _, n := range []int{61, 62} {
		l := keyedAll(t, "", words[:n])
		pages := append(slowPages(first(slowCut(l[:30]))), slowPages(first(slowCut(l[30:])))...)
		checkOpen(t, impl.Disk{Pages: pages}, l)
		refusedDisk(t, impl.Disk{Pages: pages, Log: logOf(putAll(words[:1])...)})
		d := impl.Disk{Pages: pages, Log: logOf(done("drop a1")...)}
		if n == 61 {
			checkOpen(t, d, l[1:])
		} else {
			refusedDisk(t, d)
		}
		checkDo(t, impl.Disk{Pages: pages}, impl.Do{Kind: impl.DoCheckpoint}, impl.Disk{Pages: pages}, impl.IndexFull)
		checkDo(t, impl.Disk{Pages: pages}, putAll(words[:1])[0], impl.Disk{Pages: pages}, impl.IndexFull)
	}
}

// longKeys: for each number of levels a text with a Key of exactly 200 bytes, and some with longer ones. (A
// Key has no odd number of bytes.)
var longKeys = []struct {
	rules string
	fits  string
	more  []string
}{
	{"[levels 1]", strings.Repeat("\"", 50), []string{strings.Repeat("\"", 50) + "a", strings.Repeat("\"", 51), strings.Repeat("\"", 60), strings.Repeat("\xff", 60)}},
	{"[levels 2]", strings.Repeat("a", 49) + "\u0301", []string{strings.Repeat("a", 50), strings.Repeat("a", 49) + "\u0301\u0302", strings.Repeat("z", 60)}},
	{"", strings.Repeat("a", 32) + "\u0301", []string{strings.Repeat("a", 33), strings.Repeat("a", 32) + "\u0301\u0301", strings.Repeat("a", 60), strings.Repeat("\u00e9", 30)}},
	{"[levels 4]", strings.Repeat("a", 22) + "\u0301\"", []string{strings.Repeat("a", 23) + "\"", strings.Repeat("a", 25), strings.Repeat("-", 60)}},
	{"[shifted] [levels 4]", strings.Repeat("a", 24) + "-", []string{strings.Repeat("a", 24) + "--", strings.Repeat("a", 25), strings.Repeat("a", 60)}},
}

func TestKeysOf200BytesAndMore(t *testing.T) {
	for _, p := range longKeys {
		if n := len(slowTextKey(p.rules, p.fits)); n != 200 {
			t.Fatal(p.rules, n)
		}
		checkOpen(t, logged(p.rules, "put "+p.fits+"=1"), keyed(t, p.rules, p.fits+"=1"))
		checkOpen(t, logged(p.rules, "put "+p.fits+"=1", "drop "+p.fits), nil)
		if n := len(slowTextKey(p.rules, p.more[0])); n != 202 {
			t.Fatal(p.rules, n)
		}
		for _, s := range p.more {
			if len(s) > 60 || len(slowTextKey(p.rules, s)) <= 200 {
				t.Fatal(s)
			}
			refusedDisk(t, logged(p.rules, "put "+s+"=1"))
			refusedDisk(t, logged(p.rules, "put "+s+"=1", "drop "+s))
			refusedDisk(t, logged(p.rules, "put a=1", "drop "+s))
		}
	}
}

// Rows do not hang on how much is synced; a good disk does.
func TestSyncedInAndOutOfItsBounds(t *testing.T) {
	log, _ := someLog()
	rows, _ := slowOpen(impl.Disk{Log: log})
	for _, n := range []int{least, -6001, -2, -1, 0, 1, 2, 5, len(log) - 1, len(log), len(log) + 1, len(log) + 2, 6000, 6001, most} {
		d := impl.Disk{Log: log, Synced: n}
		checkRows(t, d, rows)
		if in := n >= 0 && n <= len(log); impl.GoodDisk(d) != in {
			t.Errorf("GoodDisk with %d synced of %d = %v", n, len(log), !in)
		} else if !in {
			refusedAll(t, d)
		}
		checkRows(t, impl.Disk{Synced: n}, nil)
		if impl.GoodDisk(impl.Disk{Synced: n}) != (n == 0) {
			t.Errorf("GoodDisk with %d synced of nothing = %v", n, n != 0)
		}
	}
}

// Whatever spelling is put last stays, with its Value, in the place of its Key.
func TestTheLastSpellingStays(t *testing.T) {
	for _, p := range []struct {
		rules  string
		spelt  []string
		others []string
	}{
		{"", []string{"\u00e9", "e\u0301", "\x00e\x01\u0301", "e\x7f\u0301\x1f"}, []string{"e", "f", "E\u0301"}},
		{"", []string{"\u1e69", "s\u0323\u0307", "s\u0307\u0323", "\u1e63\u0307"}, []string{"s", "s\u0307", "t"}},
		{"", []string{"\u212b", "\u00c5", "A\u030a"}, []string{"A", "a\u030a", "B"}},
		{"", []string{"\uac01", "\uac00\u11a8", "\u1100\u1161\u11a8"}, []string{"\uac00", "\u1100", "z"}},
		{"", []string{"\xff", "\xe2\x82", "\ufffd", "\xf0\x90\x80", "\x80"}, []string{"\ufffc", "\xff\xff", "z"}},
		{"", []string{"", "\x00", "\x07\x1f", "\x7f"}, []string{"a", " ", "\u0301"}},
		{"[levels 1]", []string{"ab", "AB", "\u00e1b", "a\u0301\u0302B"}, []string{"a", "abc", "a-b"}},
		{"[shifted]", []string{"ab", "a b", "-ab", "a.b-\u0301"}, []string{"a", "AB", "a\u0301b"}},
		{"& z < \u00e5", []string{"\u00e5", "a\u030a", "\u00e5\x07"}, []string{"a", "z", "\u00c5"}},
	} {
		var log []impl.Do
		for _, s := range p.others {
			log = append(log, impl.Do{Kind: impl.DoPut, Text: s, Value: "o"})
		}
		for at, s := range p.spelt {
			log = append(log, impl.Do{Kind: impl.DoPut, Text: s, Value: string(rune('0' + at))})
			var want []impl.Row
			for _, x := range p.others {
				want = slowWith(want, row(slowTextKey(p.rules, x), x, "o"))
			}
			want = slowWith(want, row(slowTextKey(p.rules, s), s, string(rune('0'+at))))
			if len(want) != len(p.others)+1 {
				t.Fatal(p.rules, s, want)
			}
			d := impl.Disk{Rules: p.rules, Log: logOf(log...)}
			checkOpen(t, d, want)
			for _, other := range p.spelt {
				checkGet(t, d, other, row(slowTextKey(p.rules, s), s, string(rune('0'+at))))
			}
			// The same behind a checkpoint, and put onto pages.
			c, _ := impl.DoIndex(d, impl.Do{Kind: impl.DoCheckpoint})
			checkOpen(t, c, want)
			for _, other := range p.spelt {
				checkGet(t, c, other, row(slowTextKey(p.rules, s), s, string(rune('0'+at))))
				c, _ := impl.DoIndex(c, impl.Do{Kind: impl.DoPut, Text: other, Value: "last"})
				checkOpen(t, c, slowWith(want, row(slowTextKey(p.rules, other), other, "last")))
			}
		}
	}
}
