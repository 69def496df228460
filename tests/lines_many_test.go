package tests

import (
	"fmt"
	"strings"
	"testing"

	"loop.example/g00158/impl"
)

// manyLine: a line by a fixed rule, few of them no commands; the texts are often those that stand in others.
func manyLine(next func(int) int, texts []string) string {
	text := func() string {
		if next(6) == 0 {
			return manyText(next)
		}
		s := texts[next(len(texts))]
		if next(3) == 0 {
			all := spellings(first(impl.DecodeText(s)))
			return plainUTF8(all[next(len(all))])
		}
		return s
	}
	switch next(24) {
	case 0, 1, 2, 3, 4, 5, 6:
		return "put " + text() + "=" + strings.Repeat("v", next(20))
	case 7, 8:
		return "put " + text() + "=" + strings.Repeat("=", 64-next(30))
	case 9, 10, 11:
		return "drop " + text()
	case 12:
		return "sync"
	case 13:
		return "checkpoint"
	case 14, 15:
		return fmt.Sprint("crash ", next(120))
	case 16:
		return "get " + text()
	case 17:
		return "range " + text() + "=" + text()
	case 18:
		s := text()
		return "prefix " + s[:min(len(s), next(4))]
	case 19, 20:
		return "all"
	case 21:
		return "compare " + text() + "=" + text()
	case 22:
		if next(8) == 0 {
			return "rules " + []string{"", "[levels 1]", "& c < ch", "x", "& - < a"}[next(5)]
		}
		return "prefix " + text()
	}
	return []string{"", "sync ", "put a", "crash 01", "crash", "all a", "get", "what", "Put a=1", "\xff"}[next(10)]
}

// manyLines: a script by a fixed rule, as long as it may be or less.
func manyLines(next func(int) int, rules string) string {
	var texts []string
	for range 3 + next(20) {
		texts = append(texts, manyText(next))
	}
	// A text that fills more than a page with a long value, where Keys may be so long.
	long := strings.Repeat("k", 60)
	for len(slowTextKey(rules, long)) > 200 {
		long = long[1:]
	}
	for range next(4) / 3 * 8 {
		texts = append(texts, long+strings.Repeat("\x01", 60-len(long)))
	}
	text := script("rules " + rules)
	for range next(60) {
		if line := manyLine(next, texts) + "\n"; len(text)+len(line) <= 2500 {
			text += line
		}
	}
	return text
}

// Drawn scripts, held against the words of the chapter, and the index against the list.
func TestManyScripts(t *testing.T) {
	count := map[string]int{}
	full, apart := 0, 0
	for seed := uint32(1); seed <= 1200; seed++ {
		text := manyLines(numbers(seed), manyDiskRules[seed%uint32(len(manyDiskRules))])
		checkSlow(t, text)
		run := impl.RunIndex(text)
		if strings.Contains(run, "no 3\n") {
			full++
		}
		if run != impl.ModelIndex(text) {
			apart++
		}
		answers := strings.Split(run, "\n")
		for i, line := range strings.Split(text, "\n") {
			answer, rest, _ := strings.Cut(answers[i], " ")
			if answer == "no" {
				answer = answers[i]
			}
			if answer == "rows" && rest == "" {
				answer = "rows of none"
			}
			count[partsOf(line)[0]+": "+answer]++
		}
		if t.Failed() {
			return
		}
	}
	for _, s := range []string{
		"put: ok", "put: no 2", "drop: ok", "drop: no 2", "drop: no 4", "sync: ok", "checkpoint: ok", "checkpoint: no 3", "crash: rows", "get: row", "get: no 2", "get: no 4",
		"range: rows", "range: rows of none", "range: no", "prefix: rows", "prefix: rows of none", "prefix: no", "all: rows", "all: rows of none", "compare: less", "compare: same", "compare: more", "rules: ok", "rules: no 2", "rules: no 3", ": what",
	} {
		if count[s] < 20 {
			t.Errorf("only %d times %q", count[s], s)
		}
	}
	if full < 20 || apart < 5 || full > 600 {
		t.Errorf("%d scripts are full, %d told apart", full, apart)
	}
}

// A script is told line by line: its beginning is answered by the beginning of the answer, and what is asked
// behind it is answered by the disk in its end.
func TestScriptsLineByLine(t *testing.T) {
	for seed := uint32(2001); seed <= 2030; seed++ {
		text := manyLines(numbers(seed), manyDiskRules[seed%uint32(len(manyDiskRules))])
		run, list := impl.RunIndex(text), impl.ModelIndex(text)
		for i := range len(text) {
			if text[i] != '\n' {
				refusedScript(t, text[:i+1])
				continue
			}
			part := text[:i+1]
			if got := impl.RunIndex(part); !strings.HasPrefix(run, got) || strings.Count(got, "\n") != strings.Count(part, "\n") {
				t.Errorf("RunIndex(%q) = %q, and of more %q", part, got, run)
			}
			if got := impl.ModelIndex(part); !strings.HasPrefix(list, got) || strings.Count(got, "\n") != strings.Count(part, "\n") {
				t.Errorf("ModelIndex(%q) = %q, and of more %q", part, got, list)
			}
			if d, ok := impl.DiskOfText(part); !ok || !impl.GoodDisk(d) {
				t.Errorf("DiskOfText(%q) = %#v %v, which is not good", part, d, ok)
			}
		}
	}
}
