package impl

import "strings"

const MaxBytes = 200
const MaxRunes = 200
const BadRune = 65533

const lastRune = 0x10FFFF
const firstSurrogate = 0xD800
const lastSurrogate = 0xDFFF

const lowFurther = 0x80
const highFurther = 0xBF

func GoodRune(r int) bool {
	if r < 0 || r > lastRune {
		return false
	}
	return r < firstSurrogate || r > lastSurrogate
}

func DecodeText(s string) ([]int, bool) {
	if len(s) > MaxBytes {
		return nil, false
	}
	runes, _ := readText(s)
	return runes, true
}

func EncodeRunes(l []int) (string, bool) {
	if len(l) > MaxRunes {
		return "", false
	}
	var text strings.Builder
	for _, r := range l {
		// Ahead of the conversion, which would cut a great number down to one that may be good.
		if !GoodRune(r) {
			return "", false
		}
		text.WriteRune(rune(r))
	}
	return text.String(), true
}

func BadIn(s string) (int, bool) {
	if len(s) > MaxBytes {
		return 0, false
	}
	_, bad := readText(s)
	return bad, true
}

// No way round for a text that is clean already: the answer must be new memory.
func CleanText(s string) (string, bool) {
	runes, ok := DecodeText(s)
	if !ok {
		return "", false
	}
	return EncodeRunes(runes)
}

// readText gives the runes of s, and how many of them were put for bytes that are no UTF-8.
// The language's own range gives U+FFFD, which is BadRune, for each single byte of a sequence that breaks
// off; where such a beginning ends is read by hand, so that all of it is one rune. Its further bytes, which
// the range comes to one by one, are passed over.
func readText(s string) ([]int, int) {
	var runes []int
	bad, next := 0, 0
	for at, r := range s {
		if at < next {
			continue
		}
		width, whole := sequenceAtFront(s[at:])
		if !whole {
			bad++
		}
		runes = append(runes, int(r))
		next = at + width
	}
	return runes, bad
}

// sequenceAtFront gives how many bytes at the front of s, which is not empty, are a sequence of UTF-8
// or the longest beginning of one (one byte at least), and whether it is a whole sequence.
func sequenceAtFront(s string) (int, bool) {
	length, low, high := sequenceForm(s[0])
	width := 1
	for width < length && width < len(s) && low <= s[width] && s[width] <= high {
		width++
		low, high = lowFurther, highFurther
	}
	return width, width == length
}

// sequenceForm gives how many bytes a sequence with this first byte has, 0 where there is none, and the
// bounds of its second byte. The narrower bounds are all that keeps out forms that are not the shortest,
// U+D800..U+DFFF and what is above U+10FFFF.
func sequenceForm(first byte) (int, byte, byte) {
	switch {
	case first <= 0x7F:
		return 1, lowFurther, highFurther
	case first <= 0xC1:
		return 0, lowFurther, highFurther
	case first <= 0xDF:
		return 2, lowFurther, highFurther
	case first == 0xE0:
		return 3, 0xA0, highFurther
	case first == 0xED:
		return 3, lowFurther, 0x9F
	case first <= 0xEF:
		return 3, lowFurther, highFurther
	case first == 0xF0:
		return 4, 0x90, highFurther
	case first <= 0xF3:
		return 4, lowFurther, highFurther
	case first == 0xF4:
		return 4, lowFurther, 0x8F
	}
	return 0, lowFurther, highFurther
}
