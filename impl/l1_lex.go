// Package impl: a small language with effects, its types, its meaning, its machine.
package impl

import "strings"

// Limits of words.
const (
	LexMaxText = 1500
	LexMaxName = 8
	LexMaxNum  = 999999999
)

// Kinds of words.
const (
	LexNum  = 1
	LexName = 2
	LexKey  = 3
	LexSign = 4
)

// What is wrong with a text.
const (
	ErrLong  = 1
	ErrByte  = 2
	ErrNum   = 3
	ErrName  = 4
	ErrToken = 5
	ErrMany  = 6
	ErrDeep  = 7
	ErrTwice = 8
)

// lexMaxDigits is how many digits LexMaxNum has: no number of so many is above it.
const lexMaxDigits = 9

// lexShortSigns are the signs of one byte; a longer one is looked for ahead of them.
const lexShortSigns = "(),+-*=<|:;"

// Word is a word of a text.
type Word struct {
	Kind int
	Text string
	At   int
}

// Fault is what is wrong, and where.
type Fault struct {
	Code int
	At   int
}

// LexKeyOk tells whether a text is a key.
func LexKeyOk(s string) bool {
	keys := map[string]int{
		"bool": LexKey, "case": LexKey, "do": LexKey, "effect": LexKey,
		"else": LexKey, "end": LexKey, "false": LexKey, "fn": LexKey,
		"fst": LexKey, "handle": LexKey, "if": LexKey, "in": LexKey,
		"int": LexKey, "let": LexKey, "list": LexKey, "nil": LexKey,
		"of": LexKey, "print": LexKey, "rec": LexKey, "ret": LexKey,
		"shallow": LexKey, "snd": LexKey, "then": LexKey, "true": LexKey,
		"unit": LexKey, "with": LexKey,
	}
	return keys[s] == LexKey
}

// LexNameOk tells whether a text may be a name.
func LexNameOk(s string) bool {
	if len(s) < 1 || len(s) > LexMaxName {
		return false
	}
	for at, r := range s {
		if !isLetter(r) && (at == 0 || !isDigit(r)) {
			return false
		}
	}
	return !LexKeyOk(s)
}

// LexWords cuts a text into words.
func LexWords(text string) ([]Word, Fault) {
	if len(text) > LexMaxText {
		return nil, Fault{Code: ErrLong}
	}
	var words []Word
	behind := 0
	for at, r := range text {
		if at < behind || r == ' ' || r == '\n' {
			continue
		}
		word, code := firstWord(text[at:], r)
		if code != 0 {
			return nil, Fault{Code: code, At: at}
		}
		word.At = at
		words = append(words, word)
		behind = at + len(word.Text)
	}
	return words, Fault{}
}

// firstWord is the word with which a rest of a text begins, or what is wrong with it.
func firstWord(rest string, first rune) (Word, int) {
	switch {
	case isDigit(first):
		return firstNumber(rest, first)
	case isLetter(first):
		return firstName(rest)
	}
	size := signSize(rest, first)
	if size == 0 {
		return Word{}, ErrByte
	}
	return wordOf(LexSign, rest, size), 0
}

func firstNumber(rest string, first rune) (Word, int) {
	size := runSize(rest, isDigit)
	if size > lexMaxDigits || size > 1 && first == '0' {
		return Word{}, ErrNum
	}
	return wordOf(LexNum, rest, size), 0
}

func firstName(rest string) (Word, int) {
	size := runSize(rest, isNamePart)
	if size > LexMaxName {
		return Word{}, ErrName
	}
	if LexKeyOk(rest[:size]) {
		return wordOf(LexKey, rest, size), 0
	}
	return wordOf(LexName, rest, size), 0
}

// wordOf copies the word's bytes, since an answer shares no memory with the text it was cut from.
func wordOf(kind int, rest string, size int) Word {
	return Word{Kind: kind, Text: strings.Clone(rest[:size])}
}

// runSize is how many bytes at the beginning of a rest belong together.
func runSize(rest string, belongs func(rune) bool) int {
	for at, r := range rest {
		if !belongs(r) {
			return at
		}
	}
	return len(rest)
}

// signSize is the size of the sign with which a rest begins, 0 if there is none.
func signSize(rest string, first rune) int {
	for _, sign := range []string{"->", "=>", "::"} {
		if strings.HasPrefix(rest, sign) {
			return len(sign)
		}
	}
	if strings.ContainsRune(lexShortSigns, first) {
		return 1
	}
	return 0
}

func isDigit(r rune) bool {
	return r >= '0' && r <= '9'
}

func isLetter(r rune) bool {
	return r >= 'a' && r <= 'z'
}

func isNamePart(r rune) bool {
	return isLetter(r) || isDigit(r)
}
