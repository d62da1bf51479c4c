package tests

import (
	"slices"
	"strings"
	"testing"

	"loop.example/handrail/impl"
)

// grammar is the document's, with braces and choices spelt out: what is no key of it is a word itself.
func grammar() map[string][]string {
	return map[string][]string{
		"program": {"expr", "effect NAME : base => base ; program"},
		"base":    {"int", "bool", "unit", "list"},
		"expr":    {"let NAME = expr in expr", "let rec NAME NAME = expr in expr", "if expr then expr else expr", "fn NAME -> expr", "case expr of nil -> expr | NAME :: NAME -> expr", "cons"},
		"cons":    {"comp", "comp :: cons"},
		"comp":    {"sum", "sum = sum", "sum < sum"},
		"sum":     {"prod", "sum + prod", "sum - prod"},
		"prod":    {"call", "prod * call"},
		"call":    {"atom", "fst atom", "snd atom", "print atom", "do NAME atom", "call atom"},
		"atom":    {"NUMBER", "NAME", "true", "false", "nil", "( )", "( expr )", "( expr , expr )", "handler expr with ret NAME -> expr end", "handler expr with ret NAME -> expr ops end"},
		"handler": {"handle", "shallow"},
		"ops":     {"| NAME NAME NAME -> expr", "ops | NAME NAME NAME -> expr"},
	}
}

// item is a rule that is being read: how far, and the word with which it began.
type item struct {
	head, rule string
	done, from int
}

func (i item) next() string {
	if parts := strings.Fields(i.rule); i.done < len(parts) {
		return parts[i.done]
	}
	return ""
}

// closed adds to items all that they begin or end.
func closed(rules map[string][]string, rows [][]item, row []item) []item {
	at := len(rows)
	for i := 0; i < len(row); i++ {
		add := func(more item) {
			if !slices.Contains(row, more) {
				row = append(row, more)
			}
		}
		next := row[i].next()
		for _, rule := range rules[next] {
			add(item{head: next, rule: rule, from: at})
		}
		if next != "" || row[i].from == at {
			continue
		}
		for _, waits := range rows[row[i].from] {
			if waits.next() == row[i].head {
				waits.done++
				add(waits)
			}
		}
	}
	return row
}

func wordClass(w impl.Word) string {
	switch w.Kind {
	case impl.LexNum:
		return "NUMBER"
	case impl.LexName:
		return "NAME"
	}
	return w.Text
}

// modelMisfit is the place of the first word that cannot stand there, by going all ways of the grammar at once; -1 if there is none.
func modelMisfit(words []impl.Word, size int) int {
	rules := grammar()
	start := item{head: "", rule: "program"}
	rows := [][]item{closed(rules, nil, []item{start})}
	for _, w := range words {
		var row []item
		for _, i := range rows[len(rows)-1] {
			if i.next() == wordClass(w) {
				i.done++
				row = append(row, i)
			}
		}
		if len(row) == 0 {
			return w.At
		}
		rows = append(rows, closed(rules, rows, row))
	}
	start.done = 1
	if slices.Contains(rows[len(rows)-1], start) {
		return -1
	}
	return size
}

func checkMisfit(t *testing.T, text string) bool {
	t.Helper()
	words, fault := impl.LexWords(text)
	if fault.Code != 0 {
		return false
	}
	want := modelMisfit(words, len(text))
	_, fault = impl.ProgRead(text)
	if want >= 0 && fault != (impl.Fault{Code: impl.ErrToken, At: want}) || want < 0 && fault.Code == impl.ErrToken {
		t.Fatalf("%q: %v, not at %d", text, fault, want)
	}
	return want < 0
}

// vocabulary has each key and sign, and some names and numbers.
func vocabulary() []string {
	return slices.Concat(allKeys(), allSigns(), []string{"x", "ask", "1"})
}

func TestMisfitsOfFewWords(t *testing.T) {
	words := vocabulary()
	for _, a := range words {
		checkMisfit(t, a)
		for _, b := range words {
			checkMisfit(t, a+" "+b+" ")
			for _, c := range words {
				checkMisfit(t, a+" "+b+"\n"+c)
			}
		}
	}
}

// spoiltText is a text with one word left out, put in, or put in another's place.
func spoiltText(m maker, text string) string {
	words := strings.Fields(text)
	at := m.IntN(len(words))
	other := vocabulary()[m.IntN(len(vocabulary()))]
	switch m.IntN(4) {
	case 0:
		words = slices.Delete(words, at, at+1)
	case 1:
		words = slices.Insert(words, at, other)
	case 2:
		words[at] = other
	default:
		words = words[:at]
	}
	return strings.Join(words, " ")
}

func TestMisfitsOfPrograms(t *testing.T) {
	m := newMaker(5)
	fine, spoilt := 0, 0
	for _, tree := range someTrees(t, 6, 1500) {
		text := impl.ProgText(prog{Effs: askEffs(), Tree: tree})
		text = strings.NewReplacer("(", " ( ", ")", " ) ", ",", " , ").Replace(text)
		if len(text) > 500 {
			continue
		}
		if !checkMisfit(t, text) {
			t.Fatalf("%q is refused", text)
		}
		fine++
		for range 4 {
			if !checkMisfit(t, spoiltText(m, text)) {
				spoilt++
			}
		}
	}
	if fine < 300 || spoilt < 600 {
		t.Fatalf("only %d fine and %d spoilt texts", fine, spoilt)
	}
}

// Any bytes: there is a fault and nothing else, or a program that is ok and is read back.
func TestReadAnyText(t *testing.T) {
	m := newMaker(7)
	for range 20000 {
		text := anyText(m, 12)
		p, fault := impl.ProgRead(text)
		if fault.Code == 0 {
			if fault.At != 0 || !impl.ProgOk(p) {
				t.Fatalf("%q: %v %v", text, p, fault)
			}
			checkReadBack(t, p)
		} else if !sameProg(p, prog{}) || fault.At < 0 || fault.At > len(text) || fault.Code > impl.ErrTwice {
			t.Fatalf("%q: %v %v", text, p, fault)
		}
	}
}
