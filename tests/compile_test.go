package tests

import (
	"fmt"
	"slices"
	"strconv"
	"strings"
	"testing"

	"loop.example/handrail/impl"
)

// checkCodes asks for the text of the code of expressions, with a semicolon for each end of a line.
func checkCodes(t *testing.T, cases [][2]string) {
	t.Helper()
	for _, c := range cases {
		code, ok := impl.Compile(mustRead(t, c[0]))
		if got := strings.ReplaceAll(impl.CodeText(code), "\n", "; "); got != c[1]+"; " || !ok {
			t.Errorf("%q: %q %v, not %q", c[0], got, ok, c[1])
		}
	}
}

func TestCodeOfEachForm(t *testing.T) {
	checkCodes(t, [][2]string{
		{"7", "int 7; halt"}, {"999999999", "int 999999999; halt"}, {"true", "bool 1; halt"}, {"false", "bool 0; halt"}, {"()", "unit; halt"}, {"nil", "nil; halt"},
		{"fn x -> x", "clos 2; halt; var 0; ret"}, {"(fn x -> 1) 2", "clos 4; int 2; app; halt; int 1; ret"}, {"let a = 1 in a", "int 1; bind; var 0; drop; halt"}, {"let rec f x = f x in f 3", "rec 7; bind; var 0; int 3; app; drop; halt; var 1; var 0; app; ret"},
		{"if true then 1 else 2", "bool 1; test 4; int 1; jump 5; int 2; halt"}, {"case nil of nil -> 1 | a :: b -> a", "nil; case 6; var 1; drop; drop; jump 7; int 1; halt"},
		{"1 + 2", "int 1; int 2; arith 11; halt"}, {"1 - 2", "int 1; int 2; arith 12; halt"}, {"1 * 2", "int 1; int 2; arith 13; halt"}, {"1 = 2", "int 1; int 2; arith 14; halt"}, {"1 < 2", "int 1; int 2; arith 15; halt"},
		{"(1, true)", "int 1; bool 1; pair; halt"}, {"fst 1", "int 1; fst; halt"}, {"snd 1", "int 1; snd; halt"}, {"1 :: nil", "int 1; nil; cons; halt"}, {"print 1", "int 1; print; halt"},
		{"do ask ()", "unit; do 0; halt"}, {"do tell 1", "int 1; do 2; halt"}, {"do x nil", "nil; do 1; halt"},
		{"handle 1 with ret r -> 2 end", "handle 3 1 4; int 1; done; tab 5 0; halt; int 2; ret"}, {"shallow 1 with ret r -> r end", "handle 3 0 4; int 1; done; tab 5 0; halt; var 0; ret"},
		{"shallow do tell 1 with ret r -> r | x l k -> l | tell n k -> k end", "handle 4 0 7; int 1; do 2; done; tab 8 2; tabop 1 10; tabop 2 12; halt; var 0; ret; var 1; ret; var 0; ret"},
	})
}

func TestNamesInCode(t *testing.T) {
	checkCodes(t, [][2]string{
		{"let a = 1 in let b = 2 in (a, b)", "int 1; bind; int 2; bind; var 1; var 0; pair; drop; drop; halt"}, {"let a = 1 in let a = 2 in a", "int 1; bind; int 2; bind; var 0; drop; drop; halt"}, {"let a = 1 in let a = a in a", "int 1; bind; var 0; bind; var 0; drop; drop; halt"}, {"let a = let b = 1 in b in a", "int 1; bind; var 0; drop; bind; var 0; drop; halt"},
		{"let a = 1 in fn x -> fn y -> (a, (x, y))", "int 1; bind; clos 5; drop; halt; clos 7; ret; var 2; var 1; var 0; pair; pair; ret"}, {"let rec f f = f in f", "rec 5; bind; var 0; drop; halt; var 0; ret"}, {"let a = 1 in let rec f x = (a, (f, x)) in (a, f)", "int 1; bind; rec 10; bind; var 1; var 0; pair; drop; drop; halt; var 2; var 1; var 0; pair; pair; ret"},
		{"let a = 1 in case nil of nil -> a | h :: t -> (a, (h, t))", "int 1; bind; nil; case 12; var 2; var 1; var 0; pair; pair; drop; drop; jump 13; var 0; drop; halt"}, {"fn l -> case l of nil -> l | l :: b -> l", "clos 2; halt; var 0; case 8; var 1; drop; drop; jump 9; var 0; ret"},
		{"let a = 1 in handle a with ret r -> (a, r) | ask u k -> (a, (u, k)) end", "int 1; bind; handle 5 1 7; var 0; done; tab 9 1; tabop 0 13; drop; halt; var 1; var 0; pair; ret; var 2; var 1; var 0; pair; pair; ret"}, {"let k = 1 in handle 1 with ret k -> k | ask k u -> k end", "int 1; bind; handle 5 1 7; int 1; done; tab 9 1; tabop 0 11; drop; halt; var 0; ret; var 1; ret"},
		{"if true then (if false then 1 else 2) else 3", "bool 1; test 8; bool 0; test 6; int 1; jump 7; int 2; jump 9; int 3; halt"},
	})
}

// What is put off stands behind the end of the whole, in the order in which it was put off: what is put off by it comes behind all that was put off ahead of it.
func TestOrderOfWhatIsPutOff(t *testing.T) {
	checkCodes(t, [][2]string{
		{"(fn a -> fn b -> 1, fn c -> fn d -> 2)", "clos 4; clos 6; pair; halt; clos 8; ret; clos 10; ret; int 1; ret; int 2; ret"},
		{"let rec f x = fn y -> 1 in fn z -> 2", "rec 5; bind; clos 7; drop; halt; clos 9; ret; int 2; ret; int 1; ret"},
		{"(fn a -> 1) (handle fn b -> 2 with ret r -> fn c -> 3 | tell n k -> fn d -> 4 | ask u k -> 5 end)", "clos 9; handle 4 1 7; clos 11; done; tab 13 2; tabop 2 15; tabop 0 17; app; halt; int 1; ret; int 2; ret; clos 19; ret; clos 21; ret; int 5; ret; int 3; ret; int 4; ret"},
		{"fn a -> handle a with ret r -> shallow r with ret s -> s | x l k -> fn y -> l end end", "clos 2; halt; handle 5 1 6; var 0; done; tab 7 0; ret; handle 10 0 12; var 0; done; tab 13 1; tabop 1 15; ret; var 0; ret; clos 17; ret; var 2; ret"},
	})
}

// modelCode is a program's code as lines; a place that is not known yet is a label, which a line of its own says.
type modelCode struct {
	p      prog
	lines  []string
	labels int
	later  []modelLater
}

// modelLater is what is put off: a label, a node, and the names known there, the last one first.
type modelLater struct {
	label string
	at    int
	known []string
}

func (m *modelCode) say(format string, parts ...any) {
	m.lines = append(m.lines, fmt.Sprintf(format, parts...))
}

func (m *modelCode) label() string {
	m.labels++
	return "@" + strconv.Itoa(m.labels)
}

// off puts a node off, and answers the label where it will be.
func (m *modelCode) off(at int, known ...string) string {
	label := m.label()
	m.later = append(m.later, modelLater{label, at, known})
	return label
}

func ahead(known []string, names ...string) []string {
	slices.Reverse(names)
	return slices.Concat(names, known)
}

func (m *modelCode) code(at int, known []string) {
	n := m.p.Tree[at]
	kids := kidPlaces(m.p.Tree, at)
	inner := func(kid int) []string { return ahead(known, modelKnown(n, kid)...) }
	switch n.Kind {
	case impl.NVar:
		m.say("var %d", slices.Index(known, n.A))
	case impl.NFn:
		m.say("clos %s", m.off(kids[0], inner(0)...))
	case impl.NRec:
		m.say("rec %s", m.off(kids[0], inner(0)...))
		m.scoped(kids[1], inner(1))
	case impl.NLet:
		m.code(kids[0], known)
		m.scoped(kids[1], inner(1))
	case impl.NIf:
		m.fork("test", kids[0], known, func() { m.code(kids[1], known) }, kids[2])
	case impl.NCase:
		m.fork("case", kids[0], known, func() {
			m.code(kids[2], inner(2))
			m.say("drop")
			m.say("drop")
		}, kids[1])
	case impl.NDeep, impl.NShallow:
		m.handler(n, kids, known)
	default:
		for _, kid := range kids {
			m.code(kid, known)
		}
		m.plain(n)
	}
}

func (m *modelCode) scoped(at int, known []string) {
	m.say("bind")
	m.code(at, known)
	m.say("drop")
}

func (m *modelCode) fork(word string, first int, known []string, then func(), other int) {
	z, end := m.label(), m.label()
	m.code(first, known)
	m.say("%s %s", word, z)
	then()
	m.say("jump %s", end)
	m.say("%s:", z)
	m.code(other, known)
	m.say("%s:", end)
}

func (m *modelCode) handler(n node, kids []int, known []string) {
	table, end := m.label(), m.label()
	m.say("handle %s %d %s", table, map[int]int{impl.NDeep: 1}[n.Kind], end)
	m.code(kids[0], known)
	m.say("done")
	m.say("%s:", table)
	for _, at := range kids[1:] {
		clause := m.p.Tree[at]
		label := m.off(at+1, ahead(known, modelKnown(clause, 0)...)...)
		if clause.Kind == impl.NRet {
			m.say("tab %s %d", label, len(kids)-2)
		} else {
			m.say("tabop %d %s", m.place(clause.A), label)
		}
	}
	m.say("%s:", end)
}

func (m *modelCode) place(name string) int {
	for at, e := range m.p.Effs {
		if e.Name == name {
			return at
		}
	}
	return -1
}

func (m *modelCode) plain(n node) {
	words := map[int]string{impl.NUnit: "unit", impl.NNil: "nil", impl.NApp: "app", impl.NPair: "pair", impl.NFst: "fst", impl.NSnd: "snd", impl.NCons: "cons", impl.NPrint: "print"}
	switch {
	case n.Kind == impl.NInt:
		m.say("int %d", n.Num)
	case n.Kind == impl.NBool:
		m.say("bool %d", n.Num)
	case n.Kind == impl.NDo:
		m.say("do %d", m.place(n.A))
	case words[n.Kind] != "":
		m.say("%s", words[n.Kind])
	default:
		m.say("arith %d", n.Kind)
	}
}

// modelCompiled is the text of a program's code; the program is ok, and has no free names.
func modelCompiled(p prog) string {
	m := &modelCode{p: p}
	m.code(0, nil)
	m.say("halt")
	for len(m.later) > 0 {
		next := m.later[0]
		m.later = m.later[1:]
		m.say("%s:", next.label)
		m.code(next.at, next.known)
		m.say("ret")
	}
	places := map[string]string{}
	var lines []string
	for _, line := range m.lines {
		if label, is := strings.CutSuffix(line, ":"); is {
			places[label] = strconv.Itoa(len(lines))
		} else {
			lines = append(lines, line)
		}
	}
	text := ""
	for _, line := range lines {
		words := strings.Split(line, " ")
		for k, word := range words {
			if place, is := places[word]; is {
				words[k] = place
			}
		}
		text += strings.Join(words, " ") + "\n"
	}
	return text
}

// checkCompiled holds a program's code against the model, and asks that it is valid, and read from its bytes (promise 3).
func checkCompiled(t *testing.T, p prog) {
	t.Helper()
	c, ok := impl.Compile(p)
	if want := modelCompiled(p); !ok || impl.CodeText(c) != want {
		t.Fatalf("%s: %s %v, not %s", impl.ProgText(p), impl.CodeText(c), ok, want)
	}
	if !checkValid(t, c) {
		t.Fatalf("%s: %s is not valid", impl.ProgText(p), impl.CodeText(c))
	}
	b, ok := impl.CodeBytes(c)
	back, read := impl.CodeRead(b)
	if !ok || !read || !slices.Equal(back, c) {
		t.Fatalf("%s: %v is read as %v", impl.ProgText(p), c, back)
	}
}

// Promise 3: all code that is made is valid, and is read from its bytes.
func TestCodeIsValid(t *testing.T) {
	m := newFitter(3)
	for range 1500 {
		checkCompiled(t, m.whole(t))
		checkCompiled(t, m.wildWhole())
		if p := m.mixed(t); len(modelFree(p.Tree)) == 0 {
			checkCompiled(t, p)
		}
	}
	closed := 0
	for _, tree := range someTrees(t, 33, 3000) {
		if len(modelFree(tree)) == 0 {
			checkCompiled(t, program(askEffs(), tree))
			closed++
		}
	}
	if closed < 100 {
		t.Errorf("only %d have no free names", closed)
	}
}

// wrapped is a tree so deep: kids that are beneath each other, with the rest of the kids given.
func wrapped(deep int, around func(inner []node) []node) []node {
	tree := num(1)
	for range deep - 1 {
		tree = around(tree)
	}
	return tree
}

// wide is a tree of so many nodes, one more than threes, that is not deep: nodes with three kids, and numbers.
func wide(of node, nodes int) []node {
	if nodes < 4 {
		return num(impl.LexMaxNum)
	}
	kid := (nodes-4)/9*3 + 1
	return over(of, wide(of, kid), wide(of, kid), wide(of, nodes-1-2*kid))
}

// Programs at the limits have code within its own.
func TestCodeOfTheLargestPrograms(t *testing.T) {
	one := num(impl.LexMaxNum)
	deepest := []func(inner []node) []node{
		func(inner []node) []node { return over(named(impl.NFn, "a"), inner) },
		func(inner []node) []node { return over(named(impl.NRec, "f", "a"), inner, one) },
		func(inner []node) []node { return over(named(impl.NRec, "f", "a"), one, inner) },
		func(inner []node) []node { return over(named(impl.NCase, "a", "b"), one, one, inner) },
		func(inner []node) []node { return over(named(impl.NCase, "a", "b"), inner, one, one) },
		func(inner []node) []node { return over(kind(impl.NPair), one, inner) },
		func(inner []node) []node { return over(kind(impl.NIf), one, one, inner) },
		func(inner []node) []node { return over(named(impl.NLet, "a"), one, inner) },
		func(inner []node) []node { return over(kind(impl.NDeep), one, over(named(impl.NRet, "r"), inner)) },
	}
	for _, around := range deepest {
		tree := wrapped(1, around)
		for next := around(tree); impl.TreeOk(next); next = around(tree) {
			tree = next
		}
		if len(tree) < impl.TreeMaxDeep {
			t.Fatalf("only %d nodes", len(tree))
		}
		checkCompiled(t, program(nil, tree))
	}
	// Each second level is a clause.
	clauses := wrapped(impl.TreeMaxDeep/2, func(inner []node) []node {
		return over(kind(impl.NShallow), one, over(named(impl.NRet, "r"), one), over(named(impl.NOp, "ask", "a", "k"), inner))
	})
	checkCompiled(t, program(askEffs(), clauses))
	// As many nodes as may be, of kinds that make much code.
	for _, of := range []node{named(impl.NCase, "a", "b"), kind(impl.NIf)} {
		checkCompiled(t, program(nil, wide(of, 298)))
		checkCompiled(t, program(nil, over(named(impl.NRec, "f", "x"), wide(of, 298), one)))
	}
	checkCompiled(t, program(nil, over(named(impl.NFn, "x"), sum(299))))
}

// Promise 9: what names are called does not matter.
func TestNamesDoNotMatter(t *testing.T) {
	m := newFitter(9)
	same := func(p prog) bool {
		anew := program(p.Effs, impl.TreePlain(p.Tree))
		if !impl.ProgOk(anew) {
			t.Fatalf("%s: no other names", impl.ProgText(p))
		}
		checkSameButNames(t, p, anew)
		other := slices.Clone(anew.Tree)
		for at := range other {
			other[at] = renamed(other[at])
		}
		checkSameButNames(t, p, program(p.Effs, other))
		return !slices.Equal(p.Tree, anew.Tree)
	}
	changed := 0
	for range 600 {
		for _, p := range []prog{m.whole(t), m.wildWhole(), m.mixed(t)} {
			if len(modelFree(p.Tree)) == 0 && same(p) {
				changed++
			}
		}
	}
	if changed < 700 {
		t.Errorf("only %d had other names", changed)
	}
	for _, text := range []string{"let a = 1 in let a = a + 1 in a", "let rec f f = f in f", "fn x -> fn x -> x", "let ask = 1 in handle do ask () + ask with ret ask -> ask | ask x ask -> ask 1 end", "case 1 :: nil of nil -> 0 | v1 :: v0 -> v1", "let v1 = 1 in let v0 = 2 in (v0, v1)"} {
		same(mustRead(t, text))
	}
}

// renamed is a node with its plain names turned into others: the higher its number, the earlier a name is in order. Operations keep theirs.
func renamed(n node) node {
	turn := func(name string) string {
		number, err := strconv.Atoi(strings.TrimPrefix(name, "v"))
		if err != nil || !strings.HasPrefix(name, "v") {
			return name
		}
		return "w" + strconv.Itoa(999-number)
	}
	if n.Kind != impl.NDo && n.Kind != impl.NOp {
		n.A = turn(n.A)
	}
	n.B, n.C = turn(n.B), turn(n.C)
	return n
}

func checkSameButNames(t *testing.T, p, anew prog) {
	t.Helper()
	text, code := impl.TypeOf(p)
	newText, newCode := impl.TypeOf(anew)
	effs, told := impl.TypeEffs(p)
	newEffs, newTold := impl.TypeEffs(anew)
	if text != newText || code != newCode || !slices.Equal(effs, newEffs) || told != newTold {
		t.Fatalf("%s: %q %d %q, but %q %d %q", impl.ProgText(p), text, code, effs, newText, newCode, newEffs)
	}
	if meant, newMeant := impl.MeanRun(p, 2000), impl.MeanRun(anew, 2000); !sameResult(meant, newMeant) {
		t.Fatalf("%s: %v, but %v", impl.ProgText(p), meant, newMeant)
	}
	c, ok := impl.Compile(p)
	if newC, newOk := impl.Compile(anew); !ok || !newOk || !slices.Equal(c, newC) {
		t.Fatalf("%s: %v, but %v", impl.ProgText(p), c, newC)
	}
}

func TestNoCodeOfWrongPrograms(t *testing.T) {
	wrong := badPrograms()
	for _, text := range []string{"a", "fn x -> y", "let a = a in 1", "let rec f x = 1 in x", "case nil of nil -> a | a :: b -> 1", "case nil of nil -> 1 | a :: b -> c", "handle r with ret r -> r end", "handle 1 with ret r -> u | ask u k -> k u end", "handle 1 with ret r -> r | ask u k -> r end", "do ask ask", "(fn x -> x, x)"} {
		wrong = append(wrong, mustRead(t, text))
	}
	for _, p := range wrong {
		if c, ok := impl.Compile(p); c != nil || ok {
			t.Errorf("%.200v: %v %v", p, c, ok)
		}
	}
	// What clashes, and what performs operations that nobody handles, has code.
	for _, text := range []string{"1 2", "fn x -> x x", "do ask ()", "true + do x 1"} {
		checkCompiled(t, mustRead(t, text))
	}
}

func TestCompiledCodeIsNewMemory(t *testing.T) {
	mark, markEff := node{Kind: 77, A: "mark"}, eff{Name: "mark"}
	for _, text := range []string{"1", "a", "let f = fn x -> x in f 1", "handle do ask () with ret r -> fn x -> r | ask u k -> k 1 end"} {
		kept := mustRead(t, text)
		p := prog{Effs: withSpare(kept.Effs, markEff), Tree: withSpare(kept.Tree, mark)}
		c, _ := impl.Compile(p)
		again, _ := impl.Compile(p)
		want := slices.Clone(again)
		for at := range c[:cap(c)] {
			c[:cap(c)][at] = does(55)
		}
		if !slices.Equal(again, want) || !sameProg(p, kept) || !spareKept(p.Tree, mark) || !spareKept(p.Effs, markEff) {
			t.Errorf("%q: an argument is written into, or two answers share memory", text)
		}
	}
}
