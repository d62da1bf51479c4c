package tests

import (
	"slices"
	"strings"
	"testing"

	"loop.example/handrail/impl"
)

const askText = "effect ask : unit => int ; effect x : list => bool ; effect tell : int => unit ; "

// mustRead reads an expression that may perform what askEffs has.
func mustRead(t *testing.T, text string) prog {
	t.Helper()
	p, fault := impl.ProgRead(askText + text)
	if fault != (impl.Fault{}) || !slices.Equal(p.Effs, askEffs()) {
		t.Fatalf("%q: %v", text, fault)
	}
	return p
}

func TestReadTrees(t *testing.T) {
	sign := func(k int, a, b []node) []node { return over(kind(k), a, b) }
	app := func(a, b []node) []node { return over(kind(impl.NApp), a, b) }
	cons := func(a, b []node) []node { return over(kind(impl.NCons), a, b) }
	a, b, c, d := use("a"), use("b"), use("c"), use("d")
	empty := []node{{Kind: impl.NNil}}
	ret := over(named(impl.NRet, "r"), use("r"))
	for _, q := range []struct {
		text string
		want []node
	}{
		{"0", num(0)}, {"999999999", num(999999999)}, {"true", []node{{Kind: impl.NBool, Num: 1}}}, {"false", []node{{Kind: impl.NBool}}}, {"()", unit()}, {"( )", unit()}, {"nil", empty}, {"abc", use("abc")},
		{"((a))", a}, {"(a,b)", over(kind(impl.NPair), a, b)}, {"(a,(b,c))", over(kind(impl.NPair), a, over(kind(impl.NPair), b, c))}, {"(())", unit()},
		{"fn x -> a b", over(named(impl.NFn, "x"), app(a, b))}, {"fn x->fn y->a", over(named(impl.NFn, "x"), over(named(impl.NFn, "y"), a))},
		{"a b c", app(app(a, b), c)}, {"a (b c)", app(a, app(b, c))}, {"1 true", app(num(1), []node{{Kind: impl.NBool, Num: 1}})}, {"a () nil", app(app(a, unit()), empty)},
		{"let x=a in b", over(named(impl.NLet, "x"), a, b)}, {"let rec f x=a in b", over(named(impl.NRec, "f", "x"), a, b)}, {"let x = let y = a in b in c", over(named(impl.NLet, "x"), over(named(impl.NLet, "y"), a, b), c)},
		{"if a then b else c + d", over(kind(impl.NIf), a, b, sign(impl.NAdd, c, d))}, {"if if a then b else c then d else a", over(kind(impl.NIf), over(kind(impl.NIf), a, b, c), d, a)},
		{"a+b-c", sign(impl.NSub, sign(impl.NAdd, a, b), c)}, {"a-b+c", sign(impl.NAdd, sign(impl.NSub, a, b), c)}, {"a-(b-c)", sign(impl.NSub, a, sign(impl.NSub, b, c))}, {"a*b*c", sign(impl.NMul, sign(impl.NMul, a, b), c)},
		{"a+b*c", sign(impl.NAdd, a, sign(impl.NMul, b, c))}, {"a*b+c", sign(impl.NAdd, sign(impl.NMul, a, b), c)}, {"a=b+c", sign(impl.NEq, a, sign(impl.NAdd, b, c))}, {"a+b<c", sign(impl.NLt, sign(impl.NAdd, a, b), c)}, {"(a=b)<c", sign(impl.NLt, sign(impl.NEq, a, b), c)},
		{"a::b::c", cons(a, cons(b, c))}, {"(a::b)::c", cons(cons(a, b), c)}, {"a=b::c<d::nil", cons(sign(impl.NEq, a, b), cons(sign(impl.NLt, c, d), empty))}, {"a b*c d", sign(impl.NMul, app(a, b), app(c, d))},
		{"fst a b", app(over(kind(impl.NFst), a), b)}, {"snd (a b)", over(kind(impl.NSnd), app(a, b))}, {"print a b c", app(app(over(kind(impl.NPrint), a), b), c)}, {"do ask a b", app(over(named(impl.NDo, "ask"), a), b)}, {"print a + do x b", sign(impl.NAdd, over(kind(impl.NPrint), a), over(named(impl.NDo, "x"), b))},
		{"case a of nil->b|h::t->c::d", over(named(impl.NCase, "h", "t"), a, b, cons(c, d))},
		{"case a of nil->case b of nil->a|h::t->b|x::y->c", over(named(impl.NCase, "x", "y"), a, over(named(impl.NCase, "h", "t"), b, a, b), c)},
		{"case a of nil->b|h::t->case c of nil->a|x::y->d", over(named(impl.NCase, "h", "t"), a, b, over(named(impl.NCase, "x", "y"), c, a, d))},
		{"handle a with ret r->r end", over(kind(impl.NDeep), a, ret)}, {"shallow a with ret r->r|ask u k->b|x p q->c end", over(kind(impl.NShallow), a, ret, over(named(impl.NOp, "ask", "u", "k"), b), over(named(impl.NOp, "x", "p", "q"), c))},
		{"handle a with ret r->case r of nil->a|h::t->b|ask u k->c end", over(kind(impl.NDeep), a, over(named(impl.NRet, "r"), over(named(impl.NCase, "h", "t"), use("r"), a, b)), over(named(impl.NOp, "ask", "u", "k"), c))},
		{"a handle b with ret r->r end c", app(app(a, over(kind(impl.NDeep), b, ret)), c)}, {"fst shallow b with ret r -> r end", over(kind(impl.NFst), over(kind(impl.NShallow), b, ret))},
	} {
		if p := mustRead(t, q.text); !slices.Equal(p.Tree, q.want) {
			t.Errorf("%q: %v, not %v", q.text, p.Tree, q.want)
		}
	}
}

func TestReadOperations(t *testing.T) {
	p, fault := impl.ProgRead("effect a:int=>bool;effect b : unit => list ;\neffect c:list=>unit; 1")
	want := program([]eff{op("a", impl.BaseInt, impl.BaseBool), op("b", impl.BaseUnit, impl.BaseList), op("c", impl.BaseList, impl.BaseUnit)}, num(1))
	if fault != (impl.Fault{}) || !sameProg(p, want) {
		t.Errorf("%v %v", p, fault)
	}
	if got := impl.ProgText(p); got != "effect a : int => bool ; effect b : unit => list ; effect c : list => unit ; 1" {
		t.Errorf("%q", got)
	}
}

// sumText is a sum of so many ones, in groups, so that it is not deep: it has one node less than twice as many.
func sumText(ones int) string {
	var groups []string
	for ones > 0 {
		n := min(ones, 12)
		groups = append(groups, "("+strings.TrimSuffix(repeated("1+", n), "+")+")")
		ones -= n
	}
	return strings.Join(groups, "+")
}

func effText(many int) string {
	var b strings.Builder
	for i := range many {
		b.WriteString("effect e" + string(rune('0'+i)) + ":int=>int;")
	}
	return b.String()
}

func handlerText(ops string) string {
	text := "handle 1 with ret x->x"
	for _, op := range strings.Fields(ops) {
		text += "|" + op + " u k->1"
	}
	return text + " end"
}

func TestReadLimits(t *testing.T) {
	for _, text := range []string{
		sumText(150), "fn x->" + sumText(150), effText(8) + "1", repeated("fn x->", 39) + "1", repeated("(", 700) + "1" + repeated(")", 700), "1" + repeated(" ", 1499), strings.TrimSuffix(repeated("1+", 40), "+"),
		effText(4) + handlerText("e0 e1 e2 e3"), "let rec f f=f in f",
	} {
		p, fault := impl.ProgRead(text)
		if fault != (impl.Fault{}) || !impl.ProgOk(p) {
			t.Errorf("%.60q: %v", text, fault)
		}
	}
	if p, _ := impl.ProgRead("fn x->" + sumText(150)); len(p.Tree) != impl.TreeMaxNodes {
		t.Errorf("%d nodes at the limit", len(p.Tree))
	}
}

func TestReadFaults(t *testing.T) {
	deep, many := repeated("fn x->", 40)+"1", sumText(151)
	for _, c := range []struct {
		text     string
		code, at int
	}{
		{"1+" + repeated(" ", 1499), impl.ErrLong, 0}, {"1 + + _", impl.ErrByte, 6}, {") 00", impl.ErrNum, 2}, {"let let abcdefghi", impl.ErrName, 8},
		{"", impl.ErrToken, 0}, {"  \n", impl.ErrToken, 3}, {"1 + ", impl.ErrToken, 4}, {"1 2 +\n\n", impl.ErrToken, 7}, {"1 +", impl.ErrToken, 3},
		{"1=2=3", impl.ErrToken, 3}, {"1<2<3", impl.ErrToken, 3}, {"1=2<3", impl.ErrToken, 3}, {"a::b=c=d", impl.ErrToken, 6}, {"(1=2=3)", impl.ErrToken, 4},
		{"1+fn x->x", impl.ErrToken, 2}, {"1::fn x->x", impl.ErrToken, 3}, {"f fn x->x", impl.ErrToken, 2}, {"1*let x=1 in x", impl.ErrToken, 2}, {"f fst x", impl.ErrToken, 2}, {"fst fst x", impl.ErrToken, 4}, {"print do ask ()", impl.ErrToken, 6}, {"do ask do ask ()", impl.ErrToken, 7}, {"a if b then c else d", impl.ErrToken, 2},
		{"fst", impl.ErrToken, 3}, {"do 1 2", impl.ErrToken, 3}, {"do ask", impl.ErrToken, 6}, {"do let 1", impl.ErrToken, 3},
		{"()()", 0, 0}, {"(1,2,3)", impl.ErrToken, 4}, {"(1,)", impl.ErrToken, 3}, {"(,1)", impl.ErrToken, 1}, {"(1", impl.ErrToken, 2}, {"1)", impl.ErrToken, 1}, {"(", impl.ErrToken, 1}, {"-1", impl.ErrToken, 0}, {"1--1", impl.ErrToken, 2},
		{"let", impl.ErrToken, 3}, {"let 1=1 in 1", impl.ErrToken, 4}, {"let x y=1 in 1", impl.ErrToken, 6}, {"let rec f=1 in f", impl.ErrToken, 9}, {"let rec f x y=1 in f", impl.ErrToken, 12}, {"let x=1 then", impl.ErrToken, 8}, {"let rec rec x=1 in 1", impl.ErrToken, 8}, {"let if=1 in 1", impl.ErrToken, 4},
		{"if 1 then 2", impl.ErrToken, 11}, {"if 1 else 2", impl.ErrToken, 5}, {"fn x=1", impl.ErrToken, 4}, {"fn->1", impl.ErrToken, 2}, {"fn x y->1", impl.ErrToken, 5}, {"fn () -> 1", impl.ErrToken, 3},
		{"case 1 of 2", impl.ErrToken, 10}, {"case 1 of nil->1", impl.ErrToken, 16}, {"case 1 of nil->1|nil::t->2", impl.ErrToken, 17}, {"case 1 of nil->1|h->2", impl.ErrToken, 18}, {"case 1 of h::t->1|nil->2", impl.ErrToken, 10}, {"case a of nil->1|h::t->2|x::y->3", impl.ErrToken, 24}, {"case 1 of nil 1", impl.ErrToken, 14}, {"case 1 of nil->1|h::1->2", impl.ErrToken, 20},
		{"handle 1", impl.ErrToken, 8}, {"handle 1 with x", impl.ErrToken, 14}, {"handle 1 with ret x->1", impl.ErrToken, 22}, {"handle 1 with ret x->1|ask u->1 end", impl.ErrToken, 28}, {"handle 1 with ret x->1|ask u k k->1 end", impl.ErrToken, 31}, {"handle 1 with |ask u k->1 end", impl.ErrToken, 14}, {"handle 1 with ret x->1 ret y->2 end", impl.ErrToken, 23}, {"shallow 1 with end", impl.ErrToken, 15}, {"handle 1 with ret 1->1 end", impl.ErrToken, 18}, {"end", impl.ErrToken, 0}, {"ret x->1", impl.ErrToken, 0},
		{"effect", impl.ErrToken, 6}, {"effect a", impl.ErrToken, 8}, {"effect int:int=>int;1", impl.ErrToken, 7}, {"effect a::int=>int;1", impl.ErrToken, 8}, {"effect a:x=>int;1", impl.ErrToken, 9}, {"effect a:int->int;1", impl.ErrToken, 12}, {"effect a:int=>nil;1", impl.ErrToken, 14}, {"effect a:int=>int 1", impl.ErrToken, 18}, {"effect a:int=>int;", impl.ErrToken, 18}, {"1 effect a:int=>int;", impl.ErrToken, 2}, {"effect a:int=>int;;1", impl.ErrToken, 18}, {"1;", impl.ErrToken, 1},
		{many + ")", impl.ErrToken, len(many)}, {deep + " then", impl.ErrToken, len(deep) + 1}, {effText(9), impl.ErrToken, len(effText(9))}, {"do q ) ", impl.ErrToken, 5},
		{many, impl.ErrMany, 0}, {effText(9) + "1", impl.ErrMany, 0}, {strings.TrimSuffix(repeated("1+", 700), "+"), impl.ErrMany, 0}, {effText(9) + deep, impl.ErrMany, 0}, {effText(9) + "do q ()", impl.ErrMany, 0}, {many + "+do q ()", impl.ErrMany, 0}, {"fn x->fn x->" + sumText(150), impl.ErrMany, 0},
		{deep, impl.ErrDeep, 0}, {strings.TrimSuffix(repeated("1+", 41), "+"), impl.ErrDeep, 0}, {strings.TrimSuffix(repeated("1+", 150), "+"), impl.ErrDeep, 0}, {deep + "+do q ()", impl.ErrDeep, 0}, {"effect a:int=>int;effect a:int=>int;" + deep, impl.ErrDeep, 0},
		{"do q ()", impl.ErrTwice, 0}, {handlerText("q"), impl.ErrTwice, 0}, {"effect a:int=>int;effect a:int=>int;1", impl.ErrTwice, 0}, {"case 1 of nil->1|h::h->2", impl.ErrTwice, 0}, {"effect a:int=>int;handle 1 with ret x->1|a u u->1 end", impl.ErrTwice, 0}, {effText(2) + handlerText("e0 e1 e0"), impl.ErrTwice, 0}, {effText(5) + handlerText("e0 e1 e2 e3 e4"), impl.ErrTwice, 0}, {effText(2) + "do e2 1", impl.ErrTwice, 0},
	} {
		p, fault := impl.ProgRead(c.text)
		if fault != (impl.Fault{Code: c.code, At: c.at}) || c.code != 0 && !sameProg(p, prog{}) {
			t.Errorf("%.60q: %v, not %d at %d", c.text, fault, c.code, c.at)
		}
	}
}

func TestTexts(t *testing.T) {
	for _, text := range []string{
		"0", "999999999", "true", "false", "()", "nil", "x", "fn x -> x", "(1, 2)", "((1, 2), (3, 4))", "(fn x -> x, let x = 1 in x)",
		"f x y", "f (g x)", "(fn x -> x) y", "f (fn x -> x)", "f (1, 2) () nil", "(let x = f in x) y", "(a + b) c", "a (b :: c)",
		"let x = 1 in x + 1", "let rec f x = f x in f 1", "let x = let y = 1 in y in x", "let f = fn x -> x in fn y -> f y", "(let x = 1 in x) + 1", "1 + (let x = 1 in x)", "1 + (if true then 1 else 2)",
		"if a then b else c", "if if a then b else c then if a then b else c else if a then b else c", "if 1 < 2 then fn x -> x else let x = 1 in x",
		"1 + 2 - 3 + 4", "1 + (2 - 3)", "1 - (2 + 3) - 4", "1 * 2 * 3", "1 * (2 * 3)", "(1 + 2) * (3 - 4)", "1 * 2 + 3 * 4", "(1 = 2) = (3 = 4)", "1 + 2 = 3 * 4", "(1 < 2) + 3", "f x * g y", "f (x * y)", "1 = 2 :: 3 < 4 :: nil", "1 = (2 :: 3)", "(1 :: 2) = 3",
		"1 :: 2 :: nil", "(1 :: nil) :: nil", "1 + 2 :: nil", "(fn x -> x) :: nil", "1 :: (fn x -> x)", "1 :: (let x = 1 in x)", "1 = 2 :: nil",
		"fst x", "snd (fst x)", "print (1 + 2)", "fst x y", "fst (x y)", "f (fst x)", "(fst x, snd x)", "print (print 1)", "fst (1, 2) + 1", "do ask ()", "do ask () + do ask ()", "do ask (f x)", "do ask f x", "f (do ask ())", "do tell (do ask ())", "print 1 2 * 3",
		"case l of nil -> 1 | h :: t -> 2", "case l of nil -> 1 | h :: t -> h :: t", "(case l of nil -> 1 | h :: t -> 2) + 1", "case case l of nil -> 1 | h :: t -> 2 of nil -> case l of nil -> 1 | h :: t -> 2 | x :: y -> case l of nil -> 1 | h :: t -> 2", "(case l of nil -> 1 | h :: t -> 2) :: nil",
		"handle 1 with ret x -> x end", "shallow 1 with ret x -> x end", "handle fn x -> x with ret x -> fn y -> x | ask u k -> fn x -> k end", "handle 1 with ret x -> case x of nil -> 1 | h :: t -> 2 | ask u k -> case u of nil -> 1 | h :: t -> 2 | tell u k -> k u end",
		"f handle 1 with ret x -> x end y", "fst handle 1 with ret x -> x end", "handle handle 1 with ret x -> x end with ret y -> shallow 1 with ret x -> x | x x k -> 1 end end", "do x handle nil with ret x -> x end",
	} {
		p := mustRead(t, text)
		if got := impl.ProgText(p); got != askText+text {
			t.Errorf("%q: %q", text, strings.TrimPrefix(got, askText))
		}
	}
}

func TestTextDropsBrackets(t *testing.T) {
	for _, c := range [][2]string{
		{"((1))", "1"}, {"(fn x -> (x))", "fn x -> x"}, {"((f x)) (y)", "f x y"}, {"(f) (x y) (z)", "f (x y) z"}, {"(1 * 2) + (3 * 4)", "1 * 2 + 3 * 4"}, {"(1 + 2) - 3", "1 + 2 - 3"}, {"(1 * 2) * 3", "1 * 2 * 3"}, {"(1 + 2) = (3 + 4)", "1 + 2 = 3 + 4"}, {"(1 = 2) :: (3 :: nil)", "1 = 2 :: 3 :: nil"}, {"(fst x) (y)", "fst x y"}, {"(fst x) * (snd x)", "fst x * snd x"}, {"fst ((1, 2))", "fst (1, 2)"}, {"fst (())", "fst ()"},
		{"let x = (let y = 1 in y) in (x)", "let x = let y = 1 in y in x"}, {"if (a = b) then (fn x -> x) else (1 :: nil)", "if a = b then fn x -> x else 1 :: nil"}, {"case (case l of nil -> 1 | h :: t -> 2) of nil -> (fn x -> x) | h :: t -> (1 :: nil)", "case case l of nil -> 1 | h :: t -> 2 of nil -> fn x -> x | h :: t -> 1 :: nil"},
		{"handle (let x = 1 in x) with ret x -> (case x of nil -> 1 | h :: t -> 2) | ask u k -> (fn x -> x) end", "handle let x = 1 in x with ret x -> case x of nil -> 1 | h :: t -> 2 | ask u k -> fn x -> x end"}, {"f (handle 1 with ret x -> x end)", "f handle 1 with ret x -> x end"}, {"((1 :: nil), (fn x -> x))", "(1 :: nil, fn x -> x)"}, {"(do ask ()) (1)", "do ask () 1"},
	} {
		if got := impl.ProgText(mustRead(t, c[0])); got != askText+c[1] {
			t.Errorf("%q: %q", c[0], strings.TrimPrefix(got, askText))
		}
	}
}

// Promise 11.
func checkReadBack(t *testing.T, p prog) {
	t.Helper()
	text := impl.ProgText(p)
	if text == "" {
		t.Fatalf("no text: %v", p)
	}
	got, fault := impl.ProgRead(text)
	if len(text) > impl.LexMaxText {
		if fault != (impl.Fault{Code: impl.ErrLong}) {
			t.Fatalf("%q: %v", text, fault)
		}
		return
	}
	if fault != (impl.Fault{}) || !sameProg(got, p) {
		t.Fatalf("%q: %v %v, not %v", text, fault, got, p)
	}
}

// bracketsOf are the places of brackets and of their partners, but for those of pairs and of unit.
func bracketsOf(text string) [][2]int {
	var pairs [][2]int
	var open []int
	comma := map[int]bool{}
	for at, r := range text {
		switch r {
		case '(':
			open = append(open, at)
		case ',':
			comma[open[len(open)-1]] = true
		case ')':
			from := open[len(open)-1]
			open = open[:len(open)-1]
			if !comma[from] && at > from+1 {
				pairs = append(pairs, [2]int{from, at})
			}
		}
	}
	return pairs
}

// Promise 12.
func checkBrackets(t *testing.T, p prog) {
	t.Helper()
	text := impl.ProgText(p)
	if len(text) > impl.LexMaxText {
		return
	}
	for _, pair := range bracketsOf(text) {
		bare := []byte(text)
		bare[pair[0]], bare[pair[1]] = ' ', ' '
		if got, fault := impl.ProgRead(string(bare)); fault.Code == 0 && sameProg(got, p) {
			t.Fatalf("%q: the brackets at %d and %d are needless", text, pair[0], pair[1])
		}
	}
}

func TestReadBackAndBrackets(t *testing.T) {
	many := 0
	eachSmall(func(kid []node) {
		eachParent(kid, func(tree []node) {
			p := prog{Effs: askEffs(), Tree: tree}
			checkReadBack(t, p)
			checkBrackets(t, p)
			many++
		})
	})
	if many < 1900 {
		t.Fatalf("only %d trees", many)
	}
	for _, tree := range someTrees(t, 11, 4000) {
		p := prog{Effs: askEffs(), Tree: tree}
		checkReadBack(t, p)
		checkBrackets(t, p)
	}
}

func TestTextBeyondTheLimit(t *testing.T) {
	wide := sized(300)
	for i, n := range wide {
		if n.Kind == impl.NInt {
			wide[i].Num = 999999999
		}
	}
	p := prog{Effs: manyEffs(8), Tree: wide}
	text := impl.ProgText(p)
	if len(text) <= impl.LexMaxText || strings.Count(text, "999999999") < 100 || strings.Count(text, "effect") != 8 {
		t.Errorf("%d bytes", len(text))
	}
	checkReadBack(t, p)
}

func TestBadProgramsHaveNoText(t *testing.T) {
	for _, p := range []prog{{}, {Effs: manyEffs(9), Tree: num(1)}, {Effs: manyEffs(2)}, {Tree: over(named(impl.NDo, "ask"), num(1))}, {Effs: []eff{op("a", 0, 1)}, Tree: num(1)}, {Effs: []eff{op("a", 1, 1), op("a", 1, 1)}, Tree: num(1)}, {Tree: nested(41)}} {
		if got := impl.ProgText(p); got != "" {
			t.Errorf("%v: %q", p, got)
		}
	}
}

func TestProgramsAreNewMemory(t *testing.T) {
	text := askText + "let x = 1 in fn y -> do ask ()"
	first, _ := impl.ProgRead(text)
	second, _ := impl.ProgRead(text)
	clear(first.Tree[:cap(first.Tree)])
	clear(first.Effs[:cap(first.Effs)])
	third, _ := impl.ProgRead(text)
	if !sameProg(second, third) || len(third.Tree) != 5 || !slices.Equal(third.Effs, askEffs()) {
		t.Error("two answers share memory")
	}
}
