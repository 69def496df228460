package tests

import (
	"slices"
	"strings"
	"testing"
	"unsafe"

	"loop.example/g00158/impl"
)

// All short texts of these bytes, each a script or none.
func TestAllShortScripts(t *testing.T) {
	forAllLists([]int{0, '\n', ' ', '=', 'a', 'l', 0xFF}, 5, func(l []int) {
		var text []byte
		for _, b := range l {
			text = append(text, byte(b))
		}
		checkSlow(t, string(text))
		checkSlow(t, "put "+string(text)+"\nall\n")
	})
}

// All lines of a word and what may stand behind it.
func TestAllShortLines(t *testing.T) {
	for _, word := range []string{"rules", "put", "drop", "sync", "checkpoint", "crash", "get", "range", "prefix", "all", "compare"} {
		forAllLists([]int{' ', '=', 'a', '0', '6', '\n'}, 4, func(l []int) {
			behind := plainUTF8(l)
			checkSlow(t, "put a=1\nput 6=2\nput =3\nsync\nput 0=4\n"+word+behind+"\nall\n")
		})
	}
}

// Any bytes: scripts that are drawn, with bytes of them written over, put in and taken out.
func TestScriptsOfAnyBytes(t *testing.T) {
	for seed := uint32(3001); seed <= 3250; seed++ {
		next := numbers(seed)
		text := []byte(manyLines(next, manyDiskRules[seed%uint32(len(manyDiskRules))]))
		for range 1 + next(12) {
			at := next(len(text))
			switch next(5) {
			case 0:
				text[at] = byte(next(256))
			case 1:
				text = slices.Insert(text, at, "\n =0\xff\x00p"[next(7)])
			case 2:
				text = slices.Delete(text, at, at+1)
			case 3:
				text = slices.Insert(text, at, []byte("\nput \nall\n=")...)
			default:
				text[at] = '\n'
			}
		}
		checkSlow(t, string(text))
		checkSlow(t, string(text)+"\n")
	}
	for seed := uint32(1); seed <= 100; seed++ {
		next := numbers(seed)
		var text []byte
		for range next(2600) {
			text = append(text, byte(next(256)))
		}
		checkSlow(t, string(text))
		checkSlow(t, string(text)+"\n")
	}
}

// Texts of any length end, and are no scripts.
func TestScriptsOfAnyLength(t *testing.T) {
	for _, n := range []int{2501, 5000, 1 << 16, 1 << 24} {
		for _, s := range []string{"\n", "all\n", "x", "=", " ", "\x00", "\xff", "put a=1\n", "rules & c < ch\n"} {
			refusedScript(t, strings.Repeat(s, n/len(s)+1))
		}
	}
}

// An answer is new memory, its texts too; no two answers share any.
func TestLinesAnswersAreNewMemory(t *testing.T) {
	var answers []string
	for seed := uint32(4001); seed <= 4040; seed++ {
		text := manyLines(numbers(seed), manyDiskRules[seed%uint32(len(manyDiskRules))])
		for _, s := range []string{text, "rules & c < ch\nput a=1\ncheckpoint\nput b=2\n", "rules  \n", "rules & c < ch\n", "put =\n", "put a=1\nsync\ncrash 0\n", "\n", "all\n"} {
			s = strings.Clone(s)
			for range 2 {
				run, list := impl.RunIndex(s), impl.ModelIndex(s)
				d, _ := impl.DiskOfText(s)
				told := append(textsOfDisk(d), run, list)
				checkNewTexts(t, "a script", told, []string{s})
				answers = append(answers, told...)
			}
		}
	}
	slices.SortFunc(answers, func(a, b string) int { return int(place(a)) - int(place(b)) })
	answers = slices.DeleteFunc(answers, func(s string) bool { return s == "" })
	for i := 1; i < len(answers); i++ {
		if overlap(answers[i-1], answers[i]) {
			t.Fatalf("%q and %q of two answers share memory", answers[i-1], answers[i])
		}
	}
}

func place(s string) uintptr {
	return uintptr(unsafe.Pointer(unsafe.StringData(s)))
}

// The lists of an answer written over do not change what is told next; nothing is kept from call to call.
func TestLinesKeepNothing(t *testing.T) {
	text := script("rules & c < ch", "put cz=1", "put ch=2", "checkpoint", "put d=3", "sync")
	want := impl.Disk{Rules: "& c < ch", Pages: pagesOf(t, keyed(t, "& c < ch", "cz=1", "ch=2")), Log: "p\x01\x01d3.", Synced: 6}
	for range 3 {
		checkDisk(t, text, want)
		d, _ := impl.DiskOfText(text)
		spoilTexts(d.Pages)
		checkTold(t, "all", "rows", "compare cz=ch", "more", "crash 9999", "rows 0")
		refusedScript(t, text+"x")
		checkScript(t, text, strings.Repeat("ok\n", 6), strings.Repeat("ok\n", 6))
		checkDisk(t, "", impl.Disk{})
	}
}
