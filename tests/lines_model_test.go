package tests

import (
	"fmt"
	"regexp"
	"slices"
	"strconv"
	"strings"
	"testing"

	"loop.example/g00158/impl"
)

// lineForms: each command as it must be written, from end to end; first its word, then the texts behind it.
var lineForms = []*regexp.Regexp{
	regexp.MustCompile(`(?s)\A(rules|drop|get|prefix) (.*)\z`),
	regexp.MustCompile(`(?s)\A(put|range|compare) ([^=]*)=(.*)\z`),
	regexp.MustCompile(`\A(sync|checkpoint|all)\z`),
	regexp.MustCompile(`\A(crash) (0|[1-9][0-9]{0,3})\z`),
}

// partsOf: the word of a line and the texts behind it, with empty ones where there are none.
func partsOf(line string) []string {
	for _, form := range lineForms {
		if p := form.FindStringSubmatch(line); p != nil {
			return append(p[1:], "", "")
		}
	}
	return []string{"", "", ""}
}

func slowScript(text string) ([]string, bool) {
	var lines []string
	line := ""
	for i := range len(text) {
		if text[i] != 10 {
			line += text[i : i+1]
			continue
		}
		lines = append(lines, line)
		line = ""
	}
	return lines, len(text) <= 2500 && len(lines) <= 60 && line == ""
}

// doOf: what a line of a put, a drop, a sync or a checkpoint does.
func doOf(p []string) impl.Do {
	kind := slices.Index([]string{"", "put", "drop", "sync", "checkpoint"}, p[0])
	return impl.Do{Kind: kind, Text: p[1], Value: p[2]}
}

func okOrNo(code int) string {
	if code == 0 {
		return "ok"
	}
	return fmt.Sprint("no ", code)
}

// slowRun: what a script is answered by an index, and the disk in its end.
func slowRun(text string) (string, impl.Disk, bool) {
	lines, ok := slowScript(text)
	if !ok {
		return "", impl.Disk{}, false
	}
	told := ""
	var d impl.Disk
	for _, line := range lines {
		p := partsOf(line)
		answer := ""
		switch p[0] {
		case "rules":
			_, code := slowRead(p[1])
			if answer = okOrNo(code); code == 0 {
				d = impl.Disk{Rules: p[1]}
			}
		case "put", "drop", "sync", "checkpoint":
			c, code := slowDo(d, doOf(p))
			d, answer = c, okOrNo(code)
		case "crash":
			n, _ := strconv.Atoi(p[1])
			d = slowCrash(d, n)
			answer = fmt.Sprint("rows ", len(first(slowOpen(d))))
		default:
			answer = slowTell(d.Rules, first(slowOpen(d)), p)
		}
		told += answer + "\n"
	}
	return told, d, true
}

// slowList: what a script is answered by a list, whose checkpoints are never refused.
func slowList(text string) string {
	lines, ok := slowScript(text)
	if !ok {
		return ""
	}
	told, rules := "", ""
	var rows, marked []impl.Row
	var behind []impl.Do
	for _, line := range lines {
		p := partsOf(line)
		answer := "ok"
		switch p[0] {
		case "rules":
			_, code := slowRead(p[1])
			if answer = okOrNo(code); code == 0 {
				rules, rows, marked, behind = p[1], nil, nil, nil
			}
		case "put", "drop":
			l, code := slowBehindDo(rules, rows, doOf(p))
			if answer = okOrNo(code); code == 0 {
				rows, behind = l, append(behind, doOf(p))
			}
		case "sync", "checkpoint":
			marked, behind = rows, nil
		case "crash":
			n, _ := strconv.Atoi(p[1])
			rows = marked
			for i, o := range behind {
				if len(logOf(behind[:i+1]...)) <= n {
					rows, _ = slowBehindDo(rules, rows, o)
				}
			}
			marked, behind = rows, nil
			answer = fmt.Sprint("rows ", len(rows))
		default:
			answer = slowTell(rules, rows, p)
		}
		told += answer + "\n"
	}
	return told
}

// slowTell: the answer to a line that changes nothing.
func slowTell(rules string, rows []impl.Row, p []string) string {
	a, b := p[1], p[2]
	r, _ := slowRead(rules)
	wanted := func(x impl.Row) bool { return true }
	switch p[0] {
	case "get":
		if len(a) > 60 || len(slowTextKey(rules, a)) > 200 {
			return "no 2"
		}
		for _, x := range rows {
			if x.Key == slowTextKey(rules, a) {
				return fmt.Sprint("row ", x.Text, "=", x.Value)
			}
		}
		return "no 4"
	case "range":
		wanted = func(x impl.Row) bool { return x.Key >= slowTextKey(rules, a) && x.Key < slowTextKey(rules, b) }
	case "prefix":
		wanted = func(x impl.Row) bool {
			front := slowLevels(r, first(impl.DecodeText(a)))[0]
			firsts := slowLevels(r, first(impl.DecodeText(x.Text)))[0]
			return len(firsts) >= len(front) && slices.Equal(firsts[:len(front)], front)
		}
	case "all":
	case "compare":
		if len(a) > 200 || len(b) > 200 {
			return "no"
		}
		return []string{"less", "same", "more"}[1+strings.Compare(slowTextKey(rules, a), slowTextKey(rules, b))]
	default:
		return "what"
	}
	if len(a) > 60 || len(b) > 60 {
		return "no"
	}
	told := "rows"
	for _, x := range rows {
		if wanted(x) {
			told += fmt.Sprint(" ", x.Text, "=", x.Value)
		}
	}
	return told
}

// script: lines, each with a byte 10 behind it.
func script(lines ...string) string {
	return strings.Join(append(slices.Clone(lines), ""), "\n")
}

// checkScript fails unless the script is answered so by the index and by the list, and leaves the disk that
// it must.
func checkScript(t *testing.T, text, run, list string) {
	t.Helper()
	if got := impl.RunIndex(text); got != run {
		t.Errorf("RunIndex(%q) = %q, asked for %q", text, got, run)
	}
	if got := impl.ModelIndex(text); got != list {
		t.Errorf("ModelIndex(%q) = %q, asked for %q", text, got, list)
	}
	_, want, _ := slowRun(text)
	checkDisk(t, text, want)
}

// checkSlow fails unless a text, which may be no script, is answered as the chapter's words have it; where
// nothing is full the index tells what the list tells.
func checkSlow(t *testing.T, text string) {
	t.Helper()
	run, _, ok := slowRun(text)
	if !ok {
		refusedScript(t, text)
		return
	}
	list := slowList(text)
	checkScript(t, text, run, list)
	if !strings.Contains(run, "no 3\n") && impl.RunIndex(text) != impl.ModelIndex(text) {
		t.Errorf("RunIndex(%q) = %q, and ModelIndex %q", text, run, list)
	}
}

func checkDisk(t *testing.T, text string, want impl.Disk) {
	t.Helper()
	if d, ok := impl.DiskOfText(text); !ok || !sameDisk(d, want) {
		t.Errorf("DiskOfText(%q) = %#v %v, asked for %#v", text, d, ok, want)
	}
}

// checkTold fails unless the lines of a script, each told ahead of its answer, are answered so by the index
// and by the list, as far as they go too.
func checkTold(t *testing.T, told ...string) {
	t.Helper()
	text, want := "", ""
	for i := 0; i < len(told); i += 2 {
		text += told[i] + "\n"
		want += told[i+1] + "\n"
		checkScript(t, text, want, want)
	}
}

// refusedScript fails unless the text is no script for any.
func refusedScript(t *testing.T, text string) {
	t.Helper()
	if got := impl.RunIndex(text); got != "" {
		t.Errorf("RunIndex(%q) = %q", text, got)
	}
	if got := impl.ModelIndex(text); got != "" {
		t.Errorf("ModelIndex(%q) = %q", text, got)
	}
	if d, ok := impl.DiskOfText(text); !sameDisk(d, impl.Disk{}) || ok {
		t.Errorf("DiskOfText(%q) = %#v %v", text, d, ok)
	}
}
