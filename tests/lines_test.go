package tests

import (
	"fmt"
	"strings"
	"testing"

	"loop.example/g00158/impl"
)

func TestConstantsOfLines(t *testing.T) {
	if impl.MaxScript != 2500 || impl.MaxLines != 60 {
		t.Error(impl.MaxScript, impl.MaxLines)
	}
}

func TestTheEmptyScript(t *testing.T) {
	checkScript(t, "", "", "")
	checkDisk(t, "", impl.Disk{})
}

func TestTextsThatAreNoScripts(t *testing.T) {
	for _, s := range []string{
		"a", "all", "put a=1", "put a=1\nall", "put a=1\n ", "\n\nx", "\x00", "\r", "sync\r", "\n\r", "rules & c < ch\nput a=1\nsync", "all\n\x00", "all\n\v", "all\n\u2028", "\xff",
	} {
		refusedScript(t, s)
		checkSlow(t, s+"\n")
	}
}

func TestLinesUpTo60(t *testing.T) {
	for n := range 61 {
		checkScript(t, strings.Repeat("\n", n), strings.Repeat("what\n", n), strings.Repeat("what\n", n))
		refusedScript(t, strings.Repeat("\n", n)+"x")
	}
	words := wordsOf(60)
	var puts []string
	for _, s := range words {
		puts = append(puts, "put "+s+"="+s)
	}
	for _, n := range []int{59, 60} {
		checkScript(t, script(puts[:n]...), strings.Repeat("ok\n", n), strings.Repeat("ok\n", n))
		checkDisk(t, script(puts[:n]...), impl.Disk{Log: slowLog(words[:n])})
	}
	all := "rows"
	for _, s := range words[:59] {
		all += " " + s + "=" + s
	}
	checkScript(t, script(append(puts[:59:59], "all")...), strings.Repeat("ok\n", 59)+all+"\n", strings.Repeat("ok\n", 59)+all+"\n")
	for _, n := range []int{61, 62, 100, 2500, 2501, 1 << 16} {
		refusedScript(t, strings.Repeat("\n", n))
	}
	refusedScript(t, script(append(puts[:60:60], "all")...))
	refusedScript(t, script(append(puts[:60:60], "")...))
	refusedScript(t, script(puts...)+"all")
}

// slowLog: the log of puts of texts that are their own values.
func slowLog(texts []string) string {
	var l []impl.Do
	for _, s := range texts {
		l = append(l, impl.Do{Kind: impl.DoPut, Text: s, Value: s})
	}
	return logOf(l...)
}

func TestScriptsUpTo2500Bytes(t *testing.T) {
	for _, n := range []int{0, 1, 2498, 2499} {
		checkTold(t, strings.Repeat("x", n), "what")
		refusedScript(t, strings.Repeat("x", n+1))
	}
	for _, n := range []int{2500, 2501, 1 << 16, 1 << 20} {
		refusedScript(t, strings.Repeat("x", n)+"\n")
		refusedScript(t, strings.Repeat("x", n))
		refusedScript(t, "put a=1\n"+strings.Repeat("x", n)+"\n")
	}
	// 2500 bytes in 60 lines, and one more byte in the last of them.
	puts := strings.Repeat("put a=1\n", 58)
	long := strings.Repeat("v", 2500-len(puts)-len("put b=\nget a\n"))
	want := strings.Repeat("ok\n", 58) + "no 2\nrow a=1\n"
	checkScript(t, puts+"put b="+long+"\nget a\n", want, want)
	refusedScript(t, puts+"put b="+long+"\nget a \n")
	refusedScript(t, puts+"put b="+long+"v\nget a\n")
	checkTold(t, "put a=1", "ok", "put b="+strings.Repeat("v", 2500-len("put a=1\nput b=\nall\n")), "no 2", "all", "rows a=1")
	checkTold(t, "put "+strings.Repeat("a", 2500-len("put =\n"))+"=", "no 2")
	checkTold(t, "get "+strings.Repeat("a", 2500-len("get \n")), "no 2")
	checkTold(t, "rules "+strings.Repeat(" ", 2500-len("rules \n")), "no 1")
	checkTold(t, "compare "+strings.Repeat("a", 2500-len("compare =\n"))+"=", "no")
}

// Lines that are none of the commands: with blanks more or less, with nothing behind the word, in other
// letters, with words behind those that have none.
func TestLinesThatAreNoCommands(t *testing.T) {
	lines := []string{
		"", " ", "  ", "=", "==", " =", "\x00", "\r", "\t", "\xff", "\ufeff", "fly", "what", "ok", "no", "no 3", "row a=1", "rows", "rows a=1", "less", "same", "more",
		"rules", "rule ", "ruless ", "Rules ", "RULES ", " rules ", "rules\t", "rules\t& c < ch", "rules\x00", "rules=", "rules\r", "rules&", "\ufeffrules ",
		"put", "put ", "put  ", "put a", "put a 1", "put a:1", "Put a=1", "PUT a=1", " put a=1", "puta=1", "put\ta=1", "put\u00a0a=1", "put\x00a=1", "put=", "put=1", "put=a=1", "putt a=1", "pu a=1", "puts a=1", "\tput a=1", "put\r",
		"drop", "dropa", "Drop a", "DROP a", " drop a", "drop\ta", "drop=a", "drops a", "dro a", "drop\r",
		"sync ", " sync", "sync  ", "Sync", "SYNC", "sync a", "sync sync", "sync=", "syncs", "syn", "sync\r", "sync\x00", "sync\t", "synC",
		"checkpoint ", " checkpoint", "Checkpoint", "CHECKPOINT", "checkpoint a", "checkpoint checkpoint", "checkpoint=", "checkpoints", "check point", "checkpoin", "checkpoint\r",
		"crash", "Crash 1", "CRASH 1", " crash 1", "crash1", "crash\t1", "crash=1", "crashs 1", "cras 1", "crash\r",
		"get", "geta", "Get a", "GET a", " get a", "get\ta", "get=a", "gets a", "ge a", "get\r",
		"range", "range ", "range a", "range a b", "range a-b", "rangea=b", "Range a=b", "RANGE a=b", " range a=b", "range\ta=b", "range=a=b", "ranges a=b", "rang a=b",
		"prefix", "prefixa", "Prefix a", "PREFIX a", " prefix a", "prefix\ta", "prefix=a", "prefixs a", "prefi a", "prefix\r",
		"all ", " all", "all  ", "All", "ALL", "all a", "all all", "all=", "alls", "al", "all\r", "all\x00",
		"compare", "compare ", "compare a", "compare a b", "compare a:b", "comparea=b", "Compare a=b", "COMPARE a=b", " compare a=b", "compare\ta=b", "compare=a=b", "compares a=b", "compar a=b",
		"new", "open", "play", "find a", "set a=1", "del a", "delete a", "list", "rows 1", "quit", "exit", "help",
	}
	for _, s := range lines {
		// Nothing changes: neither the rules, nor the rows, nor how much stays.
		checkScript(t,
			script("rules & c < ch", "put cz=1", "put ch=2", "sync", "put a=3", "drop cz", s, "all", "crash 6", "all", "compare cz=ch"),
			script("ok", "ok", "ok", "ok", "ok", "ok", "what", "rows a=3 ch=2", "rows 3", "rows a=3 cz=1 ch=2", "less"),
			script("ok", "ok", "ok", "ok", "ok", "ok", "what", "rows a=3 ch=2", "rows 3", "rows a=3 cz=1 ch=2", "less"))
		checkTold(t, s, "what", "all", "rows")
	}
}

// A blank more behind the word is in the text.
func TestBlanksAreInTheTexts(t *testing.T) {
	checkTold(t,
		"put  a=1", "ok", "put a =2", "ok", "put a= 3", "ok", "put  = 4 ", "ok",
		"all", "rows  = 4   a=1 a= 3 a =2",
		"get a", "row a= 3", "get  a", "row  a=1", "get a ", "row a =2", "get  ", "row  = 4 ", "get ", "no 4",
		"prefix  ", "rows  = 4   a=1", "prefix  a", "rows  a=1", "prefix a ", "rows a =2",
		"range  =a", "rows  = 4   a=1", "range  a=a ", "rows  a=1 a= 3", "range a= b", "rows",
		"compare  =", "more", "compare = ", "less", "compare  a=a", "less", "compare a =a", "more", "compare a = a", "more",
		"drop  ", "ok", "drop  ", "no 4", "drop a ", "ok", "drop  a", "ok", "all", "rows a= 3",
	)
	checkTold(t, "rules   & c < ch  ", "ok", "compare ch=cz", "more", "rules [shifted]", "ok", "compare a b=a-b", "same")
	checkDisk(t, script("rules   & c < ch  "), impl.Disk{Rules: "  & c < ch  "})
}

func TestRulesByLines(t *testing.T) {
	checkTold(t,
		"compare ch=cz", "less",
		"rules ", "ok", "compare ch=cz", "less",
		"rules & c < ch", "ok", "compare ch=cz", "more",
		"rules [levels 1]", "ok", "compare a=A", "same", "compare ch=cz", "less",
		"rules [shifted]", "ok", "compare a-b=ab", "same", "compare a=A", "less",
		"rules & z < \u00e5", "ok", "compare a\u030a=z", "more", "compare \u212b=z", "less",
		"rules ", "ok", "compare a\u030a=z", "less",
	)
	checkDisk(t, script("rules & c < ch"), impl.Disk{Rules: "& c < ch"})
	checkDisk(t, script("rules & c < ch", "rules "), impl.Disk{})
	checkDisk(t, script("rules & c < ch", "rules  "), impl.Disk{Rules: " "})
	// R is all behind the blank, an equals sign too.
	checkTold(t, "rules & a < =", "ok", "compare ==", "less", "compare a==", "less", "compare b==", "more", "put b=1", "ok", "all", "rows b=1")
}

// rulesByCode: rules that are refused with each code, and ones near them that are read.
var rulesByCode = []struct {
	rules string
	code  int
}{
	{strings.Repeat(" ", 301), 1}, {strings.Repeat("x", 301), 1}, {"& c < ch" + strings.Repeat(" ", 293), 1}, {"& c < ch" + strings.Repeat(" ", 292), 0}, {strings.Repeat(" ", 300), 0},
	{"x", 2}, {"&", 2}, {"& c <", 2}, {"& c < abcde", 2}, {"[levels 5]", 2}, {"[levels 0]", 2}, {"[levels 03]", 2}, {"[levels", 2}, {"[Shifted]", 2}, {"& c < ch,", 0}, {"=", 2}, {"\x00", 2}, {"\xff", 2},
	{"< ch", 3}, {"& -", 3}, {"& \u00df", 3}, {"& ch", 3}, {"[shifted] <<< a", 3}, {"& c < ch & ch", 0},
	{"& c < ch < ch", 4}, {"& c < ch & d << ch", 4}, {"& a < \u00e9 < e\u0301", 4}, {"& a < \u00e9 < e\u0302", 0},
	{manyEntries(41), 5}, {manyEntries(40), 0},
}

// manyEntries: rules that put so many.
func manyEntries(n int) string {
	s := "& 0"
	for i := range n {
		s += " < " + string([]byte{'a' + byte(i/8), 'a' + byte(i%8)})
	}
	return s
}

func TestRulesThatAreRefusedByLines(t *testing.T) {
	seen := map[int]bool{}
	for _, p := range rulesByCode {
		seen[p.code] = true
		ahead := []string{"rules [levels 2] & c < ch", "ok", "put cz=1", "ok", "checkpoint", "ok", "put ch=2", "ok", "sync", "ok", "put b=3", "ok"}
		if p.code == 0 {
			checkTold(t, append(ahead, "rules "+p.rules, "ok", "all", "rows", "crash 9999", "rows 0", "get cz", "no 4")...)
			checkDisk(t, script("put a=1", "checkpoint", "put b=2", "sync", "rules "+p.rules), impl.Disk{Rules: p.rules})
			continue
		}
		no := fmt.Sprint("no ", p.code)
		checkTold(t, "rules "+p.rules, no, "all", "rows", "compare a=A", "less")
		// Nothing changes.
		checkTold(t, append(ahead, "rules "+p.rules, no, "all", "rows b=3 cz=1 ch=2", "compare a=A", "same", "compare ch=cz", "more", "crash 0", "rows 2", "all", "rows cz=1 ch=2")...)
		l := keyed(t, "[levels 2] & c < ch", "cz=1")
		checkDisk(t, script("rules [levels 2] & c < ch", "put cz=1", "checkpoint", "put b=3", "sync", "rules "+p.rules), impl.Disk{Rules: "[levels 2] & c < ch", Pages: pagesOf(t, l), Log: "p\x01\x01b3.", Synced: 6})
	}
	for code := range 6 {
		if !seen[code] {
			t.Error("no rules with the code", code)
		}
	}
}

// All else is gone behind rules that are read, be they the same ones.
func TestRulesBeginAnew(t *testing.T) {
	for _, rules := range []string{"", "& c < ch", "[levels 1]"} {
		for _, again := range []string{"", "& c < ch", "[levels 4]"} {
			checkTold(t,
				"rules "+rules, "ok", "put a=1", "ok", "sync", "ok", "put b=2", "ok", "checkpoint", "ok", "put c=3", "ok", "sync", "ok", "put d=4", "ok",
				"rules "+again, "ok", "all", "rows", "get a", "no 4", "get b", "no 4", "drop c", "no 4", "prefix ", "rows", "range =z", "rows", "crash 9999", "rows 0", "crash 0", "rows 0", "all", "rows",
				"put a=5", "ok", "all", "rows a=5", "crash 5", "rows 0", "put a=6", "ok", "crash 6", "rows 1", "all", "rows a=6",
			)
			checkDisk(t, script("rules "+rules, "put a=1", "sync", "checkpoint", "put b=2", "sync", "put c=3", "rules "+again), impl.Disk{Rules: again})
		}
	}
}
