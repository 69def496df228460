package tests

import (
	"slices"
	"strings"
	"testing"

	"loop.example/g00158/impl"
)

func checkPageCode(t *testing.T, s string, code int) {
	t.Helper()
	if l, got := impl.ReadPage(s); got != code || len(l) != 0 {
		t.Errorf("ReadPage(%q) = %q %d, asked for %d", s, l, got, code)
	}
}

func TestReadPageByHand(t *testing.T) {
	for _, p := range pageRows {
		checkReadPage(t, p.s, p.l)
	}
}

func TestReadPageCodes(t *testing.T) {
	long := func(s string, n int) string { return s + strings.Repeat("x", n-len(s)) }
	for _, p := range []struct {
		s    string
		code int
	}{
		{"", impl.PageShort},
		{"P", impl.PageShort},
		{"PG", impl.PageShort},
		{"x", impl.PageShort},
		{"xy", impl.PageShort},
		{"PG\x00", impl.PageForm},
		{"PG\x01", impl.PageForm},
		{"PG\xff", impl.PageForm},
		{"xyz", impl.PageMark},
		{"\x00\x00\x00", impl.PageMark},
		{"PH\x01\x00\x00\x00\x00", impl.PageMark},
		{"QG\x01\x00\x00\x00\x00", impl.PageMark},
		{"GP\x01\x00\x00\x00\x00", impl.PageMark},
		{"pg\x01\x00\x00\x00\x00", impl.PageMark},
		{"\x00PG\x01\x00\x00\x00\x00", impl.PageMark},
		{"P\x00\x01\x00\x00\x00\x00", impl.PageMark},
		// More than PageSize counts ahead of the mark, and the mark ahead of the form.
		{long("PG\x01\x00\x00\x00\x00", 301), impl.PageShort},
		{long("xy", 301), impl.PageShort},
		{long("xy", 300), impl.PageMark},
		{long("PG", 300), impl.PageForm},
		{long("PG\x01\x00\x00\x00\x00", 300), impl.PageForm},
		{strings.Repeat("PG\x01", 1000), impl.PageShort},
		{long("PH\x01\x00\x00\x00\x00", 299), impl.PageMark},
		// How many rows there are.
		{"PG\x00\x00\x00\x00\x00", impl.PageForm},
		{"PG\x02\x00\x00\x00\x00", impl.PageForm},
		{"PG\xff\x00\x00\x00\x00", impl.PageForm},
		{"PG\x01\x00\x01\x00\x00a\x00\x01\x00\x00b", impl.PageForm},
		{"PG\x03\x00\x01\x00\x00a\x00\x01\x00\x00b", impl.PageForm},
		{"PG\x00\x00\x01\x00\x00a\x00\x01\x00\x00b", impl.PageForm},
		// The first row shares bytes.
		{"PG\x01\x01\x00\x00\x00", impl.PageForm},
		{"PG\x01\x01\x01\x00\x00a", impl.PageForm},
		{"PG\x01\xff\x01\x00\x00a", impl.PageForm},
		// Fewer bytes shared than there are.
		{"PG\x02\x00\x01\x00\x00a\x00\x02\x00\x00ab", impl.PageForm},
		{"PG\x02\x00\x03\x00\x00abc\x01\x02\x00\x00bd", impl.PageForm},
		{"PG\x02\x00\x03\x00\x00abc\x00\x03\x00\x00abd", impl.PageForm},
		{"PG\x02\x00\x03\x00\x00abc\x02\x02\x00\x00cd", impl.PageForm},
		// More bytes shared than the Key ahead has.
		{"PG\x02\x00\x01\x00\x00a\x02\x01\x00\x00b", impl.PageForm},
		{"PG\x02\x00\x01\x00\x00a\xff\x01\x00\x00b", impl.PageForm},
		{"PG\x02\x00\x00\x00\x00\x01\x01\x00\x00b", impl.PageForm},
		{"PG\x02\x00\x01\x02\x02attvv\x03\x01\x00\x00b", impl.PageForm},
		// Shared with a Key further ahead.
		{"PG\x03\x00\x03\x00\x00abc\x00\x01\x00\x00b\x02\x01\x00\x00c", impl.PageForm},
		// Keys that don't rise.
		{"PG\x02\x00\x01\x00\x00a\x01\x00\x00\x00", impl.PageForm},
		{"PG\x02\x00\x02\x00\x00ab\x01\x00\x00\x00", impl.PageForm},
		{"PG\x02\x00\x02\x00\x00ab\x00\x00\x00\x00", impl.PageForm},
		{"PG\x02\x00\x00\x00\x00\x00\x00\x00\x00", impl.PageForm},
		{"PG\x02\x00\x01\x00\x00b\x00\x01\x00\x00a", impl.PageForm},
		{"PG\x02\x00\x01\x00\x00\xff\x00\x01\x00\x00\x7f", impl.PageForm},
		{"PG\x02\x00\x02\x00\x00ac\x01\x01\x00\x00b", impl.PageForm},
		// A Text, a Value that has more bytes than there are.
		{"PG\x01\x00\x01\x01\x00a", impl.PageForm},
		{"PG\x01\x00\x01\x00\x01a", impl.PageForm},
		{"PG\x01\x00\x02\x00\x00a", impl.PageForm},
		{"PG\x01\x00\xff\xff\xffa", impl.PageForm},
		{"PG\x01\x00\x00\x00", impl.PageForm},
		{"PG\x02\x00\x01\x00\x00a\x00\x01\x00", impl.PageForm},
		// Bytes behind.
		{"PG\x01\x00\x00\x00\x00\x00", impl.PageForm},
		{"PG\x01\x00\x01\x00\x00ab", impl.PageForm},
		{"PG\x01\x00\x01\x00\x00aPG\x01\x00\x01\x00\x00a", impl.PageForm},
		// A Key, a Text, a Value that is too long.
		{"PG\x01\x00\xc9\x00\x00" + strings.Repeat("k", 201), impl.PageForm},
		{"PG\x01\x00\xff\x00\x00" + strings.Repeat("k", 255), impl.PageForm},
		{"PG\x01\x00\x01\x51\x00k" + strings.Repeat("t", 81), impl.PageForm},
		{"PG\x01\x00\x01\x00\x51k" + strings.Repeat("v", 81), impl.PageForm},
		{"PG\x01\x00\x01\xc8\x00k" + strings.Repeat("t", 200), impl.PageForm},
		{"PG\x02\x00\xc8\x00\x00" + strings.Repeat("k", 200) + "\xc8\x01\x00\x00k", impl.PageForm},
		{"PG\x02\x00\x64\x00\x00" + strings.Repeat("k", 100) + "\x64\x65\x00\x00" + strings.Repeat("k", 101), impl.PageForm},
		{"PG\x02\x00\x01\x00\x00a\x00\x01\x00\x51b" + strings.Repeat("v", 81), impl.PageForm},
	} {
		checkPageCode(t, p.s, p.code)
	}
	checkReadPage(t, "PG\x02\x00\x64\x00\x00"+strings.Repeat("k", 100)+"\x64\x64\x00\x00"+strings.Repeat("k", 100), []impl.Row{row(strings.Repeat("k", 100), "", ""), row(strings.Repeat("k", 200), "", "")})
}

// grown: n rows, the first with a Key of so many bytes, each other one with a byte more; and their page.
func grown(length, n int) ([]impl.Row, string) {
	l := []impl.Row{row(strings.Repeat("k", length), "", "")}
	s := "PG" + string([]byte{byte(n), 0, byte(length), 0, 0}) + l[0].Key
	for i := 1; i < n; i++ {
		l = append(l, row(l[i-1].Key+"k", "", ""))
		s += string([]byte{byte(length + i - 1), 1, 0, 0, 'k'})
	}
	return l, s
}

// The Keys grow beyond what they may have while the page stays short.
func TestReadPageOfGrowingKeys(t *testing.T) {
	l, s := grown(160, 27)
	checkPage(t, l, s)
	checkPageCode(t, "PG\x1a"+s[3:], impl.PageForm)
	checkPageCode(t, "PG\x1c"+s[3:], impl.PageForm)
	l, s = grown(185, 16)
	checkPage(t, l, s)
	l, s = grown(185, 17)
	refusedPage(t, l)
	checkPageCode(t, s, impl.PageForm)
	l, s = grown(180, 22)
	refusedPage(t, l)
	checkPageCode(t, s, impl.PageForm)
}

// More rows than MaxRows can't be written in 300 bytes; what says so is none.
func TestReadPageOfTooManyRows(t *testing.T) {
	s := "PG\x3c\x00\x00\x00\x00"
	for i := range 59 {
		s += string([]byte{byte(i), 1, 0, 0, 'k'})
	}
	checkPageCode(t, s, impl.PageShort)
	checkPageCode(t, s[:297], impl.PageForm)
	checkPageCode(t, s[:300], impl.PageForm)
	checkPageCode(t, "PG\x3b"+s[3:300], impl.PageForm)
	want := []impl.Row{{}}
	for i := range 58 {
		want = append(want, row(strings.Repeat("k", i+1), "", ""))
	}
	checkReadPage(t, "PG\x3b"+s[3:297], want)
	// Of rows with nothing in them there would be 74, but they don't rise.
	for n := range 80 {
		empty := "PG" + string([]byte{byte(n)}) + strings.Repeat("\x00", 4*n)
		code := impl.PageForm
		if len(empty) > 300 {
			code = impl.PageShort
		}
		if n != 1 {
			checkPageCode(t, empty, code)
		}
	}
}

// Each page, cut at every place, with bytes behind it, and with each byte of its front another.
func TestReadPageOfPagesThatAreSpoiled(t *testing.T) {
	var pages []string
	for _, p := range pageRows {
		pages = append(pages, p.s)
	}
	for seed := uint32(1); seed <= 25; seed++ {
		next := numbers(seed)
		if l := manyRows(next, 1+next(12)); slowFits(l) {
			pages = append(pages, slowPage(l))
		}
	}
	read := 0
	for _, s := range pages {
		for cut := range len(s) {
			code := impl.PageForm
			if cut < 3 {
				code = impl.PageShort
			}
			checkPageCode(t, s[:cut], code)
		}
		for _, more := range []string{"\x00", "a", "\xff", "\x00\x00\x00\x00", "\x00\x01\x00\x00\xff", s} {
			code := impl.PageForm
			if len(s+more) > 300 {
				code = impl.PageShort
			}
			checkPageCode(t, s+more, code)
			checkReadLikeSlow(t, more+s)
		}
		for at := range len(s) {
			for b := range 256 {
				if checkReadLikeSlow(t, s[:at]+string([]byte{byte(b)})+s[at+1:]) {
					read++
				}
			}
		}
		if t.Failed() {
			return
		}
	}
	if read < 1000 {
		t.Errorf("only %d are read", read)
	}
}

// slowReadPage: what a page says, each thing that may be wrong asked for by itself.
func slowReadPage(s string) ([]impl.Row, int) {
	if len(s) > 300 || len(s) < 3 {
		return nil, 1
	}
	if s[0] != 80 || s[1] != 71 {
		return nil, 2
	}
	count := int(s[2])
	if count < 1 || count > 60 {
		return nil, 3
	}
	var l []impl.Row
	at := 3
	for i := range count {
		if at+4 > len(s) {
			return nil, 3
		}
		shared, others, text, value := int(s[at]), int(s[at+1]), int(s[at+2]), int(s[at+3])
		at += 4
		ahead := ""
		if i > 0 {
			ahead = l[i-1].Key
		}
		if at+others+text+value > len(s) || shared > len(ahead) || shared+others > 200 || text > 80 || value > 80 {
			return nil, 3
		}
		key := ahead[:shared] + s[at:at+others]
		if i > 0 && key <= ahead {
			return nil, 3
		}
		if shared < len(ahead) && others > 0 && ahead[shared] == s[at] {
			return nil, 3
		}
		at += others
		l = append(l, row(key, s[at:at+text], s[at+text:at+text+value]))
		at += text + value
	}
	if at != len(s) {
		return nil, 3
	}
	return l, 0
}

// checkReadLikeSlow tells whether the page is read.
func checkReadLikeSlow(t *testing.T, s string) bool {
	t.Helper()
	want, code := slowReadPage(s)
	got, is := impl.ReadPage(s)
	if is != code || !slices.Equal(got, want) {
		t.Errorf("ReadPage(%q) = %q %d, asked for %q %d", s, got, is, want, code)
	}
	return is == impl.PageOk
}

// All short pages of these bytes: what is read is what PageBytes writes, and nothing else is read.
func TestReadPageOfAllShortTexts(t *testing.T) {
	read := 0
	forAllLists([]int{0, 1, 2, 'a'}, 9, func(l []int) {
		s := []byte("PG")
		for _, b := range l {
			s = append(s, byte(b))
		}
		if checkReadLikeSlow(t, string(s)) {
			read++
			got, _ := impl.ReadPage(string(s))
			checkPage(t, got, string(s))
		}
	})
	if read < 300 {
		t.Errorf("only %d are read", read)
	}
}
