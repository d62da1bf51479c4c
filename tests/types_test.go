package tests

import (
	"slices"
	"strings"
	"testing"
	"unsafe"

	"loop.example/handrail/impl"
)

// typedCase is an expression, and its type.
type typedCase struct {
	text string
	want string
}

// checkTypes asks for the types of expressions that have one.
func checkTypes(t *testing.T, cases []typedCase) {
	t.Helper()
	for _, c := range cases {
		p := mustRead(t, c.text)
		if got, code := impl.TypeOf(p); got != c.want || code != impl.TypeOk {
			t.Errorf("%q: %q %d, not %q", c.text, got, code, c.want)
		}
		if effs, ok := impl.TypeEffs(p); len(effs) != 0 || !ok {
			t.Errorf("%q: %q %v", c.text, effs, ok)
		}
	}
}

// checkUntyped asks for a code without a type, and for no set.
func checkUntyped(t *testing.T, code int, texts ...string) {
	t.Helper()
	for _, text := range texts {
		p := mustRead(t, text)
		if got, gotCode := impl.TypeOf(p); got != "" || gotCode != code {
			t.Errorf("%q: %q %d, not %d", text, got, gotCode, code)
		}
		if effs, ok := impl.TypeEffs(p); len(effs) != 0 || ok {
			t.Errorf("%q: %q %v", text, effs, ok)
		}
	}
}

func TestTypesOfEachForm(t *testing.T) {
	checkTypes(t, []typedCase{
		{"7", "int"}, {"true", "bool"}, {"()", "unit"}, {"nil", "'0 list"}, {"fn x -> x", "'0 -> '0"}, {"fn x -> 1", "'0 -> int"}, {"(fn x -> x) 1", "int"}, {"fn x -> (x, 1 + x)", "int -> int * int"},
		{"let a = 1 in a + a", "int"}, {"let a = 1 in let a = true in a", "bool"}, {"let rec f a = a in f", "'0 -> '0"}, {"let rec f a = f a in f", "'0 -> '1"}, {"let rec f a = f (a + 1) in f", "int -> '0"}, {"let rec f f = f + 1 in f", "int -> int"}, {"let rec f a = 1 in 2", "int"},
		{"if true then 1 else 2", "int"}, {"fn a -> if a then a else a", "bool -> bool"}, {"fn a -> fn b -> if true then a else b", "'0 -> '0 -> '0"},
		{"1 + 2", "int"}, {"1 - 2", "int"}, {"1 * 2", "int"}, {"1 = 2", "bool"}, {"1 < 2", "bool"}, {"fn a -> fn b -> a < b", "int -> int -> bool"},
		{"(1, true)", "int * bool"}, {"fst (1, true)", "int"}, {"snd (1, true)", "bool"}, {"1 :: nil", "int list"}, {"fn a -> fn b -> a :: b", "'0 -> '0 list -> '0 list"},
		{"case 1 :: nil of nil -> 0 | a :: b -> a", "int"}, {"fn l -> case l of nil -> nil | a :: b -> b", "'0 list -> '0 list"}, {"fn l -> case l of nil -> true | a :: b -> a", "bool list -> bool"},
		{"print 1", "unit"}, {"fn a -> print a", "int -> unit"}, {"fn a -> do ask a", "unit -[ask]-> int"}, {"fn a -> do x a", "int list -[x]-> bool"}, {"fn a -> do tell a", "int -[tell]-> unit"},
		{"handle 1 with ret r -> r = 1 end", "bool"}, {"shallow 1 with ret r -> (r, r) end", "int * int"},
		{"handle 1 with ret r -> true | ask u k -> k 1 | tell u k -> k () | x u k -> k true end", "bool"}, {"shallow 1 with ret r -> true | ask u k -> k 1 = 1 | tell u k -> k () = 1 | x u k -> k true = 1 end", "bool"},
		{"fn a -> handle a with ret r -> nil | ask u k -> u :: nil end", "'0 -> unit list"}, {"fn a -> handle a with ret r -> r | tell n k -> n end", "int -> int"}, {"fn a -> handle 1 with ret r -> nil | x l k -> a :: l end", "int -> int list"},
	})
}

func TestTypesAreWritten(t *testing.T) {
	checkTypes(t, []typedCase{
		{"fn f -> f 1", "(int -> '0) -> '0"}, {"fn f -> fn g -> fn x -> f (g x)", "('0 -> '1) -> ('2 -> '0) -> '2 -> '1"}, {"fn f -> (f 1) 2", "(int -> int -> '0) -> '0"}, {"fn f -> f (fn x -> x + 1)", "((int -> int) -> '0) -> '0"},
		{"((1, 2), 3)", "(int * int) * int"}, {"(1, (2, 3))", "int * (int * int)"}, {"(fn x -> x, 1)", "('0 -> '0) * int"}, {"(1, fn x -> x)", "int * ('0 -> '0)"}, {"(1 :: nil, nil)", "int list * '0 list"},
		{"nil :: nil", "'0 list list"}, {"(1, 2) :: nil", "(int * int) list"}, {"(fn x -> x) :: nil", "('0 -> '0) list"}, {"((1, 2) :: nil) :: nil", "(int * int) list list"},
		{"fn p -> fst p", "'0 * '1 -> '0"}, {"fn x -> (x, x)", "'0 -> '0 * '0"}, {"fn x -> fn y -> x", "'0 -> '1 -> '0"}, {"fn x -> fn y -> y", "'0 -> '1 -> '1"}, {"fn x -> x :: nil", "'0 -> '0 list"},
		{"fn l -> case l of nil -> 1 | a :: b -> fst a", "(int * '0) list -> int"}, {"fn l -> case l of nil -> 1 | f :: b -> f ()", "(unit -> int) list -> int"}, {"fn p -> (fst p) 1", "(int -> '0) * '1 -> '0"},
		{"fn a -> fn b -> do ask a", "unit -> '0 -[ask]-> int"}, {"fn f -> f (do ask ())", "(int -> '0) -[ask]-> '0"}, {"fn a -> let b = do tell 1 in let c = do ask () in do x nil", "'0 -[ask tell x]-> bool"}, {"(fn a -> do ask a) :: nil", "(unit -[ask]-> int) list"},
		{"fn g -> if true then g else fn u -> do ask u", "(unit -[ask]-> int) -> unit -[ask]-> int"},
		{"fn a -> fn b -> fn c -> fn d -> fn e -> fn f -> fn g -> fn h -> fn i -> fn j -> fn k -> (k, (a, k))", "'0 -> '1 -> '2 -> '3 -> '4 -> '5 -> '6 -> '7 -> '8 -> '9 -> '10 -> '10 * ('0 * '10)"},
	})
	text := "effect b : unit => int ; effect ab : unit => int ; effect a : unit => int ; effect b2 : unit => int ; effect aa : unit => int ; fn u -> do b u + do b2 u + do ab u + do a u + do aa u + do a u"
	p, _ := impl.ProgRead(text)
	if got, code := impl.TypeOf(p); got != "unit -[a aa ab b b2]-> int" || code != impl.TypeOk {
		t.Errorf("%q %d", got, code)
	}
	p.Tree = over(kind(impl.NApp), p.Tree, unit())
	if effs, ok := impl.TypeEffs(p); !slices.Equal(effs, []string{"a", "aa", "ab", "b", "b2"}) || !ok {
		t.Errorf("%q %v", effs, ok)
	}
}

func TestVariablesThatStandForAny(t *testing.T) {
	checkTypes(t, []typedCase{
		{"let i = fn x -> x in (i 1, i true)", "int * bool"}, {"let rec i x = x in (i 1, i true)", "int * bool"}, {"let i = fn x -> x in i i", "'0 -> '0"}, {"let i = fn x -> x in (i i) (i 1)", "int"},
		{"let i = fn x -> x in let j = fn y -> i y in (j 1, j true)", "int * bool"}, {"let k = fn x -> fn y -> x in let f = fn z -> k 1 z in (f 2, f true)", "int * int"}, {"let i = fn x -> x in let i = fn x -> (i x, i 1) in (i 1, i true)", "(int * int) * (bool * int)"},
		{"fn x -> let f = fn y -> y in (f x, f 1)", "'0 -> '0 * int"}, {"fn x -> let f = fn y -> (x, y) in (f 1, f true)", "'0 -> ('0 * int) * ('0 * bool)"}, {"fn x -> let f = fn x -> x in (f 1, f true)", "'0 -> int * bool"},
		{"fn x -> let rec f y = x in (f 1, f true)", "'0 -> '0 * '0"}, {"let rec len l = case l of nil -> 0 | a :: b -> 1 + len b in (len (1 :: nil), len (true :: nil))", "int * int"},
		{"let rec f x = let g = fn y -> y in (g 1, g x) in (f true, f ())", "(int * bool) * (int * unit)"}, {"let e = fn u -> nil in (1 :: e (), true :: e ())", "int list * bool list"},
		{"let f = fn x -> x in let a = fn y -> f in (a 1 2, a 1 true)", "int * bool"},
	})
	checkUntyped(t, impl.TypeClash,
		"let i = (fn x -> x) (fn y -> y) in (i 1, i true)", "let i = if true then fn x -> x else fn x -> x in (i 1, i true)", "let i = fn x -> x in let j = i in (j 1, j true)", "let i = handle fn x -> x with ret r -> r end in (i 1, i true)", "let i = let y = 1 in fn x -> x in (i 1, i true)",
		"let n = nil in (1 :: n, true :: n)", "let p = (fn x -> x, 1) in ((fst p) 1, (fst p) true)", "let k = fn x -> fn y -> x in let f = k 1 in (f 2, f true)",
		"let rec f x = (f 1, f true) in 1", "let rec f x = if true then x else f 1 in f true", "fn i -> (i 1, i true)", "case (fn x -> x) :: nil of nil -> (1, true) | i :: t -> (i 1, i true)", "handle fn x -> x with ret i -> (i 1, i true) end",
		"fn x -> let f = fn y -> x in (f 1 + 1, if f 1 then 1 else 2)", "fn x -> let rec f y = if true then x else y in (f 1, f true)", "let n = nil in let f = fn x -> x :: n in (f 1, f true)", "fn l -> case l of nil -> 1 | a :: b -> let f = fn y -> a in if f () then f () else 1",
		"fn l -> case l of nil -> 1 | a :: b -> let f = fn y -> y :: b in let c = f 1 in let d = f true in 1",
		"handle 1 with ret r -> nil | ask u k -> let f = fn y -> k 1 in let a = 1 :: f () in true :: f () end", "handle nil with ret r -> let f = fn y -> y :: r in (f 1, f true) end")
}

func TestClashes(t *testing.T) {
	checkUntyped(t, impl.TypeClash,
		"1 2", "true + 1", "1 + true", "1 - ()", "nil * 1", "true = true", "1 < (1, 1)", "if 1 then 2 else 3", "if true then 1 else true", "fst 1", "snd nil", "1 :: 2", "1 :: true :: nil", "case 1 of nil -> 1 | a :: b -> 2", "case nil of nil -> 1 | a :: b -> true", "case true :: nil of nil -> 1 | a :: b -> a", "case 1 :: nil of nil -> 1 | a :: b -> b",
		"print true", "do ask 1", "do x (true :: nil)", "do x 1", "do tell ()", "if do ask () then 1 else 2", "(fn x -> x + 1) true", "let rec f x = x + 1 in f true", "let rec f x = if x then 1 else true in 1", "let f = fn x -> 1 + true in 1",
		"handle 1 with ret r -> r | ask u k -> true end", "handle 1 with ret r -> r | ask u k -> k true end", "handle 1 with ret r -> r | tell u k -> if u then 1 else 2 end", "handle 1 with ret r -> r | ask u k -> u + 1 end", "handle 1 with ret r -> true | ask u k -> k 1 + 1 = 1 end", "handle true with ret r -> r + 1 end", "shallow 1 with ret r -> true | ask u k -> k 1 end", "shallow true with ret r -> 1 | ask u k -> k 1 + 1 end")
	// A variable would be part of itself.
	checkUntyped(t, impl.TypeClash,
		"fn x -> x x", "let rec f x = f in 1", "fn x -> x :: x", "fn x -> if true then x else (x, x)", "fn x -> if true then x else x :: nil", "fn x -> case x of nil -> x | a :: b -> a", "let rec f x = (x, f x) in 1", "fn f -> fn x -> if true then f x else f", "fn x -> fn y -> if true then (x, y) else (y, x :: nil)", "fn f -> f (fn x -> f)", "handle do ask () with ret r -> fn a -> a | ask u k -> k end",
		"fn x -> fn y -> let a = if true then x else (y, 1) in if true then y else (x, 1)")
	checkTypes(t, []typedCase{{"fn x -> if true then x else x", "'0 -> '0"}, {"fn x -> fn y -> let a = if true then x else y in if true then y else x", "'0 -> '0 -> '0"}})
}

// setCase is an expression, and the set of the whole.
type setCase struct {
	text string
	want string
}

func TestSets(t *testing.T) {
	for _, c := range []setCase{
		{"1", ""}, {"do ask ()", "ask"}, {"(do tell (do ask ()), do x nil)", "ask tell x"}, {"do tell (do ask () + do ask ())", "ask tell"}, {"if do x nil then 1 else do ask ()", "ask x"}, {"let a = do ask () in 1", "ask"},
		{"fn u -> do ask u", ""}, {"(fn u -> do ask u) ()", "ask"}, {"let f = fn u -> do ask u in 1", ""}, {"let f = fn u -> do ask u in f", ""}, {"let f = fn u -> do ask u in f ()", "ask"}, {"(fn f -> f ()) (fn u -> do ask u)", "ask"}, {"(fn f -> 1) (fn u -> do ask u)", ""}, {"fn f -> f (do ask ())", ""},
		{"let rec f u = let a = do tell 1 in f u in 1", ""}, {"let rec f u = let a = do tell 1 in f u in f 1", "tell"}, {"(fn a -> fn b -> do ask a) ()", ""}, {"(fn a -> fn b -> do ask a) () ()", "ask"}, {"(if true then fn u -> do ask u else fn u -> 1) ()", "ask"},
		{"case (fn u -> do ask u) :: nil of nil -> 1 | f :: t -> f ()", "ask"}, {"(fst (fn u -> do ask u, 1)) ()", "ask"}, {"let g = fn u -> 1 in let h = if true then g else fn u -> do ask u in g ()", "ask"},
		// A function has one set for all its uses; what it is given has one of its own.
		{"let h = fn f -> f () in let a = fn u -> h (fn v -> do ask v) in h (fn v -> 1)", "ask"}, {"let i = fn x -> x in let a = i (fn v -> do ask v) in i (fn v -> 1) ()", ""}, {"let h = fn f -> f () in handle h (fn u -> do ask u) with ret r -> r | ask u k -> k 1 end", ""},
		// Handled operations stay within; clauses are outside.
		{"handle do ask () with ret r -> r | ask u k -> k 1 end", ""}, {"handle do ask () with ret r -> r end", "ask"}, {"handle do tell (do ask ()) with ret r -> r | ask u k -> k 1 end", "tell"}, {"handle do tell (do ask ()) with ret r -> r | tell n k -> k () | ask u k -> k 1 end", ""},
		{"handle do ask () with ret r -> r + do ask () | ask u k -> k 1 end", "ask"}, {"handle do ask () with ret r -> r | ask u k -> do ask () end", "ask"}, {"handle 1 with ret r -> r | ask u k -> let a = do tell 1 in 1 end", "tell"},
		{"handle fn u -> do ask u with ret f -> f () | ask u k -> k 1 end", "ask"}, {"handle fn u -> do ask u with ret f -> 1 | ask u k -> k 1 end", ""},
		{"handle (handle do ask () with ret r -> r | ask u k -> do ask u end) with ret r -> r | ask u k -> k 1 end", ""}, {"handle (handle do ask () with ret r -> r | tell u k -> k () end) with ret r -> r | ask u k -> k 1 end", ""},
		// A shallow handler's continuation performs what the body does.
		{"shallow do ask () with ret r -> r | ask u k -> k 1 end", "ask"}, {"shallow do ask () with ret r -> r | ask u k -> 1 end", ""}, {"shallow do ask () with ret r -> r end", "ask"}, {"shallow do tell (do ask ()) with ret r -> r | ask u k -> () end", "tell"}, {"shallow do tell (do ask ()) with ret r -> r | ask u k -> k 1 end", "ask tell"}, {"shallow 1 with ret r -> r | ask u k -> k 1 end", ""},
		{"shallow do ask () with ret r -> r | ask u k -> handle k 1 with ret r -> r | ask u k -> k 2 end end", ""}, {"shallow do ask () with ret r -> r | ask u k -> shallow k 1 with ret r -> r | ask u j -> 2 end end", ""}, {"shallow do ask () with ret r -> r | ask u k -> shallow k 1 with ret r -> r | ask u j -> j 2 end end", "ask"},
	} {
		p := mustRead(t, c.text)
		effs, ok := impl.TypeEffs(p)
		if strings.Join(effs, " ") != c.want || !ok {
			t.Errorf("%q: %q %v, not %q", c.text, effs, ok, c.want)
		}
		text, code := impl.TypeOf(p)
		if c.want == "" && code != impl.TypeOk || c.want != "" && (code != impl.TypeEffects || text != "") {
			t.Errorf("%q: %q %d", c.text, text, code)
		}
	}
	checkTypes(t, []typedCase{
		{"shallow do ask () with ret r -> fn n -> r | ask u k -> k end", "int -[ask]-> int"}, {"fn g -> handle do tell 1 with ret r -> 1 | ask u k -> (if true then k else g) 1 end", "(int -[tell]-> int) -[tell]-> int"}, {"fn g -> shallow do tell 1 with ret r -> 1 | ask u k -> let a = (if true then k else g) 1 in 1 end", "(int -[tell]-> unit) -[tell]-> int"},
		{"let h = fn f -> f () in let a = fn u -> h (fn v -> do ask v) in h", "(unit -[ask]-> '0) -[ask]-> '0"}, {"let i = fn x -> x in let a = i (fn v -> do ask v) in i (fn v -> ())", "'0 -> unit"}, {"let f = fn g -> fn x -> g x in let a = f (fn v -> do ask v) in f (fn v -> v)", "'0 -[ask]-> '0"},
		// what flows in last flows on to what was there first
		{"(fn f -> fn u -> f ()) (fn v -> (fn w -> do ask w) v)", "'0 -[ask]-> int"}, {"(fn f -> fn u -> f ()) ((fn g -> fn v -> g v) (fn w -> (fn w -> do ask w) w))", "'0 -[ask]-> int"},
		{"fn u -> handle do ask u with ret r -> r | ask u k -> k 1 end", "unit -> int"}, {"fn u -> shallow do ask u with ret r -> r | ask u k -> k 1 end", "unit -[ask]-> int"},
	})
}

func TestCodesOfTypesInOrder(t *testing.T) {
	checkUntyped(t, impl.TypeFree, "a", "a + true", "do ask a", "1 2 a", "let a = a in 1", "fn x -> y", "handle 1 with ret r -> u | ask u k -> k 1 end")
	checkUntyped(t, impl.TypeClash, "do ask () + true", "(do ask (), 1 2)", "do ask 1")
	p := mustRead(t, "a + do ask true")
	p.Effs = nil
	if text, code := impl.TypeOf(p); text != "" || code != impl.TypeBad {
		t.Errorf("%q %d", text, code)
	}
}

// badPrograms are programs that are not ok, each for another reason.
func badPrograms() []prog {
	bad := []prog{{Effs: manyEffs(9), Tree: num(1)}, {Effs: manyEffs(2)}, {Tree: over(named(impl.NDo, "ask"), unit())}, {Tree: handlerOf(impl.NDeep, "ask")}, {Effs: []eff{op("a", 0, 1)}, Tree: num(1)}, {Effs: []eff{op("a", 1, 5)}, Tree: num(1)}, {Effs: []eff{op("a", 1, 1), op("a", 1, 1)}, Tree: num(1)}, {Effs: []eff{op("do", 1, 1)}, Tree: num(1)}}
	for _, tree := range badTrees() {
		bad = append(bad, prog{Tree: tree}, prog{Effs: askEffs(), Tree: tree})
	}
	return bad
}

// sum is a tree of so many nodes, an odd number, that adds ones and is not deep.
func sum(nodes int) []node {
	if nodes < 3 {
		return num(1)
	}
	left := nodes/2 - 1 + nodes/2%2
	return over(kind(impl.NAdd), sum(left), sum(nodes-1-left))
}

func TestBadProgramsHaveNoType(t *testing.T) {
	for _, p := range badPrograms() {
		text, code := impl.TypeOf(p)
		effs, ok := impl.TypeEffs(p)
		if text != "" || code != impl.TypeBad || len(effs) != 0 || ok {
			t.Errorf("%.200v: %q %d %q %v", p, text, code, effs, ok)
		}
	}
	if text, code := impl.TypeOf(prog{Tree: over(named(impl.NFn, "x"), sum(299))}); text != "'0 -> int" || code != impl.TypeOk {
		t.Errorf("%q %d", text, code)
	}
	if text, code := impl.TypeOf(prog{Tree: nested(40)}); !strings.HasSuffix(text, "'37 -> '38 -> int") || code != impl.TypeOk {
		t.Errorf("%q %d", text, code)
	}
}

// A type may double with each let.
func TestTypesThatGrow(t *testing.T) {
	for lets := range 36 {
		pairs := repeated("let a = (a, a) in ", lets)
		if effs, ok := impl.TypeEffs(mustRead(t, "let a = 1 in "+pairs+"(a, do ask ())")); !ok || !slices.Equal(effs, []string{"ask"}) {
			t.Fatalf("%d lets: %q %v", lets, effs, ok)
		}
		if _, code := impl.TypeOf(mustRead(t, "let a = (1, 1) in "+pairs+"if true then a else (a, a)")); code != impl.TypeClash {
			t.Fatalf("%d lets: %d", lets, code)
		}
	}
	for lets, size := range []int{3, 9, 25, 57, 121, 249, 505, 1017, 2041, 4089} {
		if text, code := impl.TypeOf(mustRead(t, "let a = 1 in "+repeated("let a = (a, a) in ", lets)+"a")); len(text) != size || code != impl.TypeOk {
			t.Fatalf("%d lets: %d bytes, %d", lets, len(text), code)
		}
	}
	// Two such types are made one.
	if effs, ok := impl.TypeEffs(mustRead(t, "let p = (1, 1) in "+repeated("let p = ((fst p, fst p), (snd p, snd p)) in ", 23)+"if true then fst p else snd p")); len(effs) > 0 || !ok {
		t.Fatalf("%q %v", effs, ok)
	}
}

func TestModelOfTypesAgrees(t *testing.T) {
	m := newFitter(31)
	codes := map[int]int{}
	for range 1500 {
		codes[checkTyped(t, m.whole(t))]++
		codes[checkTyped(t, m.mixed(t))]++
		for range 4 {
			codes[checkTyped(t, m.wildWhole())]++
		}
	}
	for code := impl.TypeFree; code <= impl.TypeEffects; code++ {
		if codes[impl.TypeOk] < 1000 || codes[code] < 100 {
			t.Fatalf("too few: %v", codes)
		}
	}
}

// Promise 10: what is not told is not performed, and where nothing is told there is a type.
func TestWhatIsPerformedIsTold(t *testing.T) {
	m := newFitter(10)
	performed := 0
	for i := range 4500 {
		p := []func() prog{func() prog { return m.whole(t) }, func() prog { return m.mixed(t) }, m.wildWhole}[i%3]()
		effs, told := impl.TypeEffs(p)
		text, code := impl.TypeOf(p)
		hasType, performs := code == impl.TypeOk && text != "", code == impl.TypeEffects
		if told != (hasType || performs) || performs != (len(effs) > 0) || !slices.IsSorted(effs) {
			t.Fatalf("%s: %q %v %q %d", impl.ProgText(p), effs, told, text, code)
		}
		if !told {
			continue
		}
		end := impl.MeanRun(p, 3000).End
		if end == impl.EndOp {
			performed++
		}
		if end == impl.EndStuck || end == impl.EndOp && hasType {
			t.Fatalf("%s: %q, but the end is %d", impl.ProgText(p), effs, end)
		}
		if end = impl.MeanRun(caught(p, effs), 3000).End; end == impl.EndOp {
			t.Fatalf("%s: another one than %q is performed", impl.ProgText(p), effs)
		}
	}
	if performed < 300 {
		t.Fatalf("only %d perform something", performed)
	}
}

// caught is a program around which these operations are handled, and nothing else is.
func caught(p prog, ops []string) prog {
	kids := [][]node{p.Tree, over(named(impl.NRet, "r"), use("r"))}
	for _, o := range ops {
		kids = append(kids, over(named(impl.NOp, o, "u", "k"), unit()))
	}
	return program(p.Effs, over(kind(impl.NDeep), kids...))
}

func TestTypesAreNewMemory(t *testing.T) {
	mark, markEff := node{Kind: 77, A: "mark"}, eff{Name: "mark"}
	for _, text := range []string{"fn u -> do ask u", "do ask ()", "let i = fn x -> x in (i (do ask ()), do x nil)", "1 2", "a", "handle do ask () with ret r -> r | ask u k -> k 1 end"} {
		kept := mustRead(t, text)
		p := prog{Effs: withSpare(kept.Effs, markEff), Tree: withSpare(kept.Tree, mark)}
		impl.TypeOf(p)
		effs, _ := impl.TypeEffs(p)
		again, _ := impl.TypeEffs(p)
		for _, e := range effs {
			for _, own := range p.Effs {
				if unsafe.StringData(e) == unsafe.StringData(own.Name) {
					t.Errorf("%q: %q lies in the program", text, e)
				}
			}
		}
		want := slices.Clone(again)
		for i := range effs[:cap(effs)] {
			effs[:cap(effs)][i] = "spoilt"
		}
		if !slices.Equal(again, want) || !sameProg(p, kept) || !spareKept(p.Tree, mark) || !spareKept(p.Effs, markEff) {
			t.Errorf("%q: an argument is written into, or two answers share memory", text)
		}
	}
}
