package tests

import (
	"slices"
	"strings"
	"testing"
	"unicode/utf8"

	"loop.example/g00158/impl"
)

// edgeRunes: both ends of each length of UTF-8, both sides of 55296..57343, the BadRune itself and the last rune.
var edgeRunes = []struct {
	r    int
	text string
}{
	{0, "\x00"},
	{65, "A"},
	{127, "\x7f"},
	{128, "\xc2\x80"},
	{233, "\xc3\xa9"},
	{2047, "\xdf\xbf"},
	{2048, "\xe0\xa0\x80"},
	{4095, "\xe0\xbf\xbf"},
	{4096, "\xe1\x80\x80"},
	{8364, "\xe2\x82\xac"},
	{53247, "\xec\xbf\xbf"},
	{53248, "\xed\x80\x80"},
	{55295, "\xed\x9f\xbf"},
	{57344, "\xee\x80\x80"},
	{65532, "\xef\xbf\xbc"},
	{65533, "\xef\xbf\xbd"},
	{65535, "\xef\xbf\xbf"},
	{65536, "\xf0\x90\x80\x80"},
	{128512, "\xf0\x9f\x98\x80"},
	{262143, "\xf0\xbf\xbf\xbf"},
	{262144, "\xf1\x80\x80\x80"},
	{1048575, "\xf3\xbf\xbf\xbf"},
	{1048576, "\xf4\x80\x80\x80"},
	{1114111, "\xf4\x8f\xbf\xbf"},
}

// broken: texts with beginnings that break off, and the runes that the document asks for, put down by hand.
var broken = []struct {
	text  string
	runes []int
	bad   int
}{
	{"a\xc3\xa9\xe2\x82z\xf4\x90", []int{'a', 233, bad, 'z', bad, bad}, 3},
	{"\xf0\x9f\x98", []int{bad}, 1},
	{"\xf0\x9f\x98\xf0\x9f\x98\x80", []int{bad, 128512}, 1},
	{"\xf0\x9f\xe2\x82\xc3z", []int{bad, bad, bad, 'z'}, 3},
	{"\xc0\xaf", []int{bad, bad}, 2},
	{"\xe0\x80\xaf", []int{bad, bad, bad}, 3},
	{"\xed\xa0\x80", []int{bad, bad, bad}, 3},
	{"\xed\xbf\xbf", []int{bad, bad, bad}, 3},
	{"\xf0\x8f\xbf\xbf", []int{bad, bad, bad, bad}, 4},
	{"\xf4\x90\x80\x80", []int{bad, bad, bad, bad}, 4},
	{"\xf5\x80\x80\x80", []int{bad, bad, bad, bad}, 4},
	{"\xc3\xa9\xa9", []int{233, bad}, 1},
	{"\xe2\x82\xac\xac\xac", []int{8364, bad, bad}, 2},
	{"\x80\xbf", []int{bad, bad}, 2},
}

const bad = impl.BadRune

// sameText fails unless DecodeText, BadIn and CleanText of text tell these runes, of which n were put for bytes that are no UTF-8.
func sameText(t *testing.T, text string, runes []int, n int) {
	t.Helper()
	if l, ok := impl.DecodeText(text); !ok || !slices.Equal(l, runes) {
		t.Errorf("DecodeText(%q) = %v %v, asked for %v", text, l, ok, runes)
	}
	if m, ok := impl.BadIn(text); !ok || m != n {
		t.Errorf("BadIn(%q) = %v %v, asked for %v", text, m, ok, n)
	}
	if s, ok := impl.CleanText(text); !ok || s != plainUTF8(runes) {
		t.Errorf("CleanText(%q) = %q %v, asked for %q", text, s, ok, plainUTF8(runes))
	}
}

func plainUTF8(runes []int) string {
	var b []byte
	for _, r := range runes {
		b = utf8.AppendRune(b, rune(r))
	}
	return string(b)
}

func TestConstantsOfRunes(t *testing.T) {
	if impl.MaxBytes != 200 || impl.MaxRunes != 200 || impl.BadRune != 65533 {
		t.Error(impl.MaxBytes, impl.MaxRunes, impl.BadRune)
	}
}

func TestGoodRuneIsInItsBounds(t *testing.T) {
	for r := -3; r <= 1114111+3; r++ {
		good := r >= 0 && r <= 1114111 && !(r >= 55296 && r <= 57343)
		if impl.GoodRune(r) != good {
			t.Fatalf("GoodRune(%d) = %v", r, !good)
		}
	}
}

func TestEdgeRunesAndTheirTexts(t *testing.T) {
	var all []int
	var text strings.Builder
	for _, e := range edgeRunes {
		if s, ok := impl.EncodeRunes([]int{e.r}); !ok || s != e.text {
			t.Errorf("EncodeRunes(%d) = %q %v, asked for %q", e.r, s, ok, e.text)
		}
		sameText(t, e.text, []int{e.r}, 0)
		sameText(t, "<"+e.text+">", []int{'<', e.r, '>'}, 0)
		all = append(all, e.r)
		text.WriteString(e.text)
	}
	if s, ok := impl.EncodeRunes(all); !ok || s != text.String() {
		t.Errorf("EncodeRunes(%v) = %q %v", all, s, ok)
	}
	sameText(t, text.String(), all, 0)
}

// Each good rune there is, as many in a text as MaxBytes lets stand there.
func TestAllRunesComeBackFromTheirText(t *testing.T) {
	var l []int
	for r := 0; r <= 1114111; r++ {
		if r < 55296 || r > 57343 {
			l = append(l, r)
		}
		if len(l) < impl.MaxBytes/4 && r < 1114111 {
			continue
		}
		s, ok := impl.EncodeRunes(l)
		if !ok || s != plainUTF8(l) {
			t.Fatalf("EncodeRunes(%v) = %q %v", l, s, ok)
		}
		sameText(t, s, l, 0)
		if t.Failed() {
			return
		}
		l = nil
	}
}

func TestCleanTextsStay(t *testing.T) {
	for _, s := range []string{"", "a", "plain text\n", "\u00e9\u0301\uac00", "\ufffd", "a\ufffdb\ufffd\ufffd", "\U0001f600\U0010ffff"} {
		if c, ok := impl.CleanText(s); !ok || c != s {
			t.Errorf("CleanText(%q) = %q %v", s, c, ok)
		}
	}
}

func TestBrokenTexts(t *testing.T) {
	for _, b := range broken {
		sameText(t, b.text, b.runes, b.bad)
		sameText(t, "x"+b.text+"\u20ac", slices.Concat([]int{'x'}, b.runes, []int{8364}), b.bad)
		once, _ := impl.CleanText(b.text)
		sameText(t, once, b.runes, 0)
	}
}

func TestBytesThatBeginNothing(t *testing.T) {
	for b := 0x80; b <= 0xFF; b++ {
		if b >= 0xC2 && b <= 0xF4 {
			continue
		}
		s := string([]byte{byte(b)})
		sameText(t, s, []int{bad}, 1)
		sameText(t, s+"a", []int{bad, 'a'}, 1)
		sameText(t, "a"+s+s, []int{'a', bad, bad}, 2)
		sameText(t, s+"\x80", []int{bad, bad}, 2)
		sameText(t, s+"\xe2\x82\xac", []int{bad, 8364}, 1)
	}
}

// beginning: a row of the chapter's list: the first bytes from a to b, and the second ones from lo to hi; n bytes in all.
type beginning struct {
	a, b, lo, hi byte
	n            int
}

var beginnings = []beginning{
	{0xC2, 0xDF, 0x80, 0xBF, 2},
	{0xE0, 0xE0, 0xA0, 0xBF, 3},
	{0xE1, 0xEC, 0x80, 0xBF, 3},
	{0xEE, 0xEF, 0x80, 0xBF, 3},
	{0xED, 0xED, 0x80, 0x9F, 3},
	{0xF0, 0xF0, 0x90, 0xBF, 4},
	{0xF1, 0xF3, 0x80, 0xBF, 4},
	{0xF4, 0xF4, 0x80, 0x8F, 4},
}

func TestEachBeginningCutShort(t *testing.T) {
	for _, b := range beginnings {
		for first := int(b.a); first <= int(b.b); first++ {
			for _, second := range []byte{b.lo, b.lo + (b.hi-b.lo)/2, b.hi} {
				for _, more := range []byte{0x80, 0xA5, 0xBF} {
					cutShort(t, []byte{byte(first), second, more, more}[:b.n])
				}
			}
			doesNotFit(t, byte(first), b.lo, b.hi)
		}
	}
}

// cutShort looks at a whole sequence cut at every place, with what may follow it.
func cutShort(t *testing.T, whole []byte) {
	t.Helper()
	for n := 1; n < len(whole); n++ {
		s := string(whole[:n])
		sameText(t, s, []int{bad}, 1)
		sameText(t, s+"a", []int{bad, 'a'}, 1)
		sameText(t, s+"\x00", []int{bad, 0}, 1)
		sameText(t, s+"\x7f", []int{bad, 127}, 1)
		sameText(t, s+s, []int{bad, bad}, 2)
		sameText(t, s+"\xc3", []int{bad, bad}, 2)
		sameText(t, s+"\xe2\x82", []int{bad, bad}, 2)
		sameText(t, s+"\xf0\x9f\x98", []int{bad, bad}, 2)
		sameText(t, s+"\xc3\xa9", []int{bad, 233}, 1)
		sameText(t, s+"\xff", []int{bad, bad}, 2)
	}
	s := string(whole)
	r, _ := utf8.DecodeRuneInString(s)
	sameText(t, s, []int{int(r)}, 0)
	sameText(t, s+"\x80", []int{int(r), bad}, 1)
}

// doesNotFit puts behind a first byte each of 80..BF that is outside of its bounds.
func doesNotFit(t *testing.T, first, lo, hi byte) {
	t.Helper()
	for second := byte(0x80); second <= 0xBF; second++ {
		if lo <= second && second <= hi {
			continue
		}
		s := string([]byte{first, second})
		sameText(t, s, []int{bad, bad}, 2)
		sameText(t, s+"\x80\x80", []int{bad, bad, bad, bad}, 4)
		sameText(t, s+"z", []int{bad, bad, 'z'}, 2)
	}
}

func TestBadRuneThatStandsThereIsNotCounted(t *testing.T) {
	sameText(t, "\xef\xbf\xbd", []int{bad}, 0)
	sameText(t, "\xef\xbf\xbd\xff\xef\xbf\xbd", []int{bad, bad, bad}, 1)
	sameText(t, "\xef\xbf\xbd\xef\xbf", []int{bad, bad}, 1)
	sameText(t, "\xef\xbf\xef\xbf\xbd", []int{bad, bad}, 1)
	sameText(t, "\xef\xbf\xbd\xbd", []int{bad, bad}, 1)
	sameText(t, strings.Repeat("\ufffd", 66), slices.Repeat([]int{bad}, 66), 0)
}

// beginningsOfUTF8: each beginning of the UTF-8 of each good rune, taken from the library: 1 if it is whole, 0 if not.
func beginningsOfUTF8() map[string]int {
	m := map[string]int{}
	for r := rune(0); r <= utf8.MaxRune; r++ {
		if !utf8.ValidRune(r) {
			continue
		}
		b := utf8.AppendRune(nil, r)
		for n := 1; n < len(b); n++ {
			m[string(b[:n])] = 0
		}
		m[string(b)] = 1
	}
	return m
}

// All texts of up to four bytes out of those at which something begins or ends, against the words of the
// chapter taken as they stand: the longest beginning of such a sequence.
func TestAllShortTextsOfEdgeBytes(t *testing.T) {
	begins := beginningsOfUTF8()
	edges := []byte("\x00A\x7f\x80\x8f\x90\x9f\xa0\xbf\xc0\xc1\xc2\xdf\xe0\xe1\xec\xed\xee\xef\xf0\xf1\xf3\xf4\xf5\xff")
	texts := []string{""}
	for n := 0; n <= 4; n++ {
		var longer []string
		for _, s := range texts {
			runes, count := slowRunes(begins, s)
			sameText(t, s, runes, count)
			if t.Failed() {
				return
			}
			for _, b := range edges {
				longer = append(longer, s+string([]byte{b}))
			}
		}
		texts = longer
	}
}

func slowRunes(begins map[string]int, s string) ([]int, int) {
	var runes []int
	count := 0
	for len(s) > 0 {
		n := min(4, len(s))
		for n > 1 {
			if _, ok := begins[s[:n]]; ok {
				break
			}
			n--
		}
		r := bad
		if begins[s[:n]] == 1 {
			r = int([]rune(s[:n])[0])
		} else {
			count++
		}
		runes = append(runes, r)
		s = s[n:]
	}
	return runes, count
}
