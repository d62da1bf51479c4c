package tests

import (
	"regexp"
	"slices"
	"strings"
	"testing"

	"loop.example/handrail/impl"
)

func allKeys() []string {
	return strings.Fields("bool case do effect else end false fn fst handle if in int let list nil of print rec ret shallow snd then true unit with")
}

func allSigns() []string {
	return strings.Fields("-> => :: ( ) , + - * = < | : ;")
}

func TestKeys(t *testing.T) {
	for _, k := range allKeys() {
		if !impl.LexKeyOk(k) || impl.LexNameOk(k) {
			t.Errorf("%q is a key, and no name", k)
		}
		for _, s := range []string{k + "s", " " + k, k + " ", strings.ToUpper(k), k[:1], k + "\x00"} {
			if impl.LexKeyOk(s) {
				t.Errorf("%q is no key", s)
			}
		}
	}
	for _, s := range []string{"", "letrec", "x", "0", "->", "\xff", "lét", "op", "cons", "handler", "deep"} {
		if impl.LexKeyOk(s) {
			t.Errorf("%q is no key", s)
		}
	}
}

func TestNames(t *testing.T) {
	for _, s := range []string{"a", "z", "a0", "z9", "v123", "abcdefgh", "a1234567", "lets", "iff", "inn", "fnn", "ends", "shallo", "shallow1"} {
		if !impl.LexNameOk(s) {
			t.Errorf("%q is a name", s)
		}
	}
	for _, s := range []string{"", "0", "0a", "9", "A", "aB", "a_", "_a", "a b", " a", "a ", "abcdefghi", "a12345678", "é", "aé", "a\x00", "\xff", "a\xff", "a-", "`", "{", "a`", "a{", "a/", "a:", "/", ":", "٣", "a٣"} {
		if impl.LexNameOk(s) {
			t.Errorf("%q is no name", s)
		}
	}
}

func TestWordsOfEachKind(t *testing.T) {
	got, fault := impl.LexWords("\n let x1=12 ->a =>0\n::letx 1a->=>:::<=>")
	want := []impl.Word{
		{Kind: 3, Text: "let", At: 2}, {Kind: 2, Text: "x1", At: 6}, {Kind: 4, Text: "=", At: 8}, {Kind: 1, Text: "12", At: 9},
		{Kind: 4, Text: "->", At: 12}, {Kind: 2, Text: "a", At: 14}, {Kind: 4, Text: "=>", At: 16}, {Kind: 1, Text: "0", At: 18},
		{Kind: 4, Text: "::", At: 20}, {Kind: 2, Text: "letx", At: 22}, {Kind: 1, Text: "1", At: 27}, {Kind: 2, Text: "a", At: 28},
		{Kind: 4, Text: "->", At: 29}, {Kind: 4, Text: "=>", At: 31}, {Kind: 4, Text: "::", At: 33}, {Kind: 4, Text: ":", At: 35},
		{Kind: 4, Text: "<", At: 36}, {Kind: 4, Text: "=>", At: 37},
	}
	if fault != (impl.Fault{}) || !slices.Equal(got, want) {
		t.Errorf("%v %v", got, fault)
	}
	for _, s := range allSigns() {
		got, fault := impl.LexWords(s)
		if fault != (impl.Fault{}) || !slices.Equal(got, []impl.Word{{Kind: impl.LexSign, Text: s}}) {
			t.Errorf("%q: %v %v", s, got, fault)
		}
	}
	for _, s := range allKeys() {
		got, fault := impl.LexWords(s)
		if fault != (impl.Fault{}) || !slices.Equal(got, []impl.Word{{Kind: impl.LexKey, Text: s}}) {
			t.Errorf("%q: %v %v", s, got, fault)
		}
	}
	for _, s := range []string{"", " ", "\n", " \n\n  "} {
		if got, fault := impl.LexWords(s); len(got) != 0 || fault != (impl.Fault{}) {
			t.Errorf("%q: %v %v", s, got, fault)
		}
	}
}

func TestWordLimits(t *testing.T) {
	for _, s := range []string{"999999999", "0", "100000000", "abcdefgh", "a1234567", repeated("a ", 750), repeated(" ", 1500), repeated("(", 1500), "x" + repeated("\n", 1498) + "y"} {
		if _, fault := impl.LexWords(s); fault != (impl.Fault{}) {
			t.Errorf("%q: %v", s, fault)
		}
	}
	if got, _ := impl.LexWords(repeated("(", 1500)); len(got) != 1500 || got[1499].At != 1499 {
		t.Error("a text at the limit has all its words")
	}
}

func TestWordFaults(t *testing.T) {
	for _, c := range []struct {
		text     string
		code, at int
	}{
		{repeated(" ", 1501), impl.ErrLong, 0}, {"\xff" + repeated(" ", 1500), impl.ErrLong, 0}, {repeated("0", 1501), impl.ErrLong, 0}, {repeated("é", 751), impl.ErrLong, 0},
		{repeated("é", 750), impl.ErrByte, 0}, {repeated("x ", 749) + "\n_", impl.ErrByte, 1499},
		{"1000000000", impl.ErrNum, 0}, {" 1234567890", impl.ErrNum, 1}, {"00", impl.ErrNum, 0}, {"x 01", impl.ErrNum, 2}, {"0123456789", impl.ErrNum, 0}, {"000000000", impl.ErrNum, 0}, {"x+00a", impl.ErrNum, 2},
		{"abcdefghi", impl.ErrName, 0}, {"1abcdefghi", impl.ErrName, 1}, {"a12345678", impl.ErrName, 0}, {"shallowshallow", impl.ErrName, 0}, {"effect effect123", impl.ErrName, 7},
		{">", impl.ErrByte, 0}, {"->>", impl.ErrByte, 2}, {"x\ty", impl.ErrByte, 1}, {"x\r\n", impl.ErrByte, 1}, {"A", impl.ErrByte, 0}, {"xA", impl.ErrByte, 1}, {"x\x00", impl.ErrByte, 1}, {"x\xff", impl.ErrByte, 1}, {"\xc3", impl.ErrByte, 0}, {"1\xa0", impl.ErrByte, 1}, {"é", impl.ErrByte, 0}, {"aé 00", impl.ErrByte, 1}, {"\uFFFD", impl.ErrByte, 0}, {"x\u00a0y", impl.ErrByte, 1}, {"٣", impl.ErrByte, 0}, {"1٣", impl.ErrByte, 1}, {"x.y", impl.ErrByte, 1}, {"[", impl.ErrByte, 0}, {"a/b", impl.ErrByte, 1}, {"'", impl.ErrByte, 0},
		{"00 abcdefghi >", impl.ErrNum, 0}, {"abcdefghi 00 >", impl.ErrName, 0}, {"> abcdefghi 00", impl.ErrByte, 0},
	} {
		got, fault := impl.LexWords(c.text)
		if len(got) != 0 || fault != (impl.Fault{Code: c.code, At: c.at}) {
			t.Errorf("%.40q: %v %v", c.text, got, fault)
		}
	}
}

// modelWords cuts a text by patterns instead of by hand.
func modelWords(text string) ([]impl.Word, impl.Fault) {
	if len(text) > impl.LexMaxText {
		return nil, impl.Fault{Code: impl.ErrLong}
	}
	pattern := regexp.MustCompile(`^(?:([0-9]+)|([a-z][a-z0-9]*)|(->|=>|::|[(),+*=<|:;-]))`)
	var words []impl.Word
	for at := 0; at < len(text); {
		if text[at] == ' ' || text[at] == '\n' {
			at++
			continue
		}
		m := pattern.FindStringSubmatch(text[at:])
		w, code := impl.Word{Kind: impl.LexSign, At: at}, 0
		switch {
		case m == nil:
			return nil, impl.Fault{Code: impl.ErrByte, At: at}
		case m[1] != "":
			w.Kind = impl.LexNum
			if len(m[1]) > 9 || len(m[1]) > 1 && m[1][0] == '0' {
				code = impl.ErrNum
			}
		case m[2] != "":
			w.Kind = impl.LexName
			if slices.Contains(allKeys(), m[2]) {
				w.Kind = impl.LexKey
			}
			if len(m[2]) > impl.LexMaxName {
				code = impl.ErrName
			}
		}
		if code != 0 {
			return nil, impl.Fault{Code: code, At: at}
		}
		w.Text = m[0]
		words = append(words, w)
		at += len(m[0])
	}
	return words, impl.Fault{}
}

// anyText is a text by chance, of pieces that words are made of, seldom of any bytes.
func anyText(m maker, pieces int) string {
	parts := append(allKeys(), allSigns()...)
	parts = append(parts, " ", "\n", " ", "  ", "x", "ab", "0", "7", "31", "q9", "abcdefgh", "a", "9", ">")
	var b strings.Builder
	for range m.IntN(pieces) {
		if m.IntN(60) == 0 {
			b.WriteByte(byte(m.IntN(256)))
		}
		b.WriteString(parts[m.IntN(len(parts))])
	}
	return b.String()
}

// Promise 13.
func TestTextIsItsWords(t *testing.T) {
	m := newMaker(13)
	whole := 0
	for range 20000 {
		text := anyText(m, 40)
		words, fault := impl.LexWords(text)
		wantWords, wantFault := modelWords(text)
		if fault != wantFault || !slices.Equal(words, wantWords) {
			t.Fatalf("%q: %v %v", text, words, fault)
		}
		if fault.Code != 0 {
			continue
		}
		whole++
		var spread []string
		behind := 0
		for _, w := range words {
			if strings.Trim(text[behind:w.At], " \n") != "" || text[w.At:w.At+len(w.Text)] != w.Text {
				t.Fatalf("%q: %v lies elsewhere", text, w)
			}
			behind = w.At + len(w.Text)
			spread = append(spread, w.Text)
		}
		if strings.Trim(text[behind:], " \n") != "" {
			t.Fatalf("%q: words lack behind %d", text, behind)
		}
		again, fault := impl.LexWords(strings.Join(spread, " "))
		if fault != (impl.Fault{}) || len(again) != len(words) {
			t.Fatalf("%q: %v", text, fault)
		}
		for i, w := range again {
			if w.Kind != words[i].Kind || w.Text != words[i].Text {
				t.Fatalf("%q: %v became %v", text, words[i], w)
			}
		}
	}
	if whole < 1000 {
		t.Fatalf("only %d texts without a fault", whole)
	}
}

func TestWordsAreNewMemory(t *testing.T) {
	text := "let x = 1 in x"
	first, _ := impl.LexWords(text)
	second, _ := impl.LexWords(text)
	want := slices.Clone(second)
	for i := range first[:cap(first)] {
		first[:cap(first)][i] = impl.Word{Kind: 9, Text: "?", At: -1}
	}
	third, _ := impl.LexWords(text)
	if !slices.Equal(second, want) || !slices.Equal(third, want) {
		t.Error("two answers share memory")
	}
}
