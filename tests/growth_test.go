package tests

import (
	"math/rand/v2"
	"slices"
	"strconv"
	"testing"

	"loop.example/handrail/impl"
)

// growth is a function, and another one made of it, named a as it is: with each let of such a one types grow.
type growth struct {
	first string
	next  string
}

// lets name so many functions a, each made of the one ahead of it.
func (g growth) lets(many int) string {
	return "let a = " + g.first + " in " + repeated("let a = "+g.next+" in ", many)
}

var (
	pairsOfUses = growth{"fn x -> (x, x)", "fn x -> (a x, a x)"}
	pairsDeeper = growth{"fn x -> (x, x)", "fn x -> a (a x)"}
	listsDeeper = growth{"fn x -> x :: nil", "fn x -> a (a x)"}
	functions   = growth{"fn x -> fn y -> x", "fn x -> a (a x)"}
	pairsInward = growth{"fn x -> fn y -> (x, y)", "fn x -> a (a x)"}
	pairsOfSelf = growth{"fn x -> (x, x)", "fn x -> (a, a)"}
	pairsOfNils = growth{"fn x -> nil", "fn x -> (a x, a x)"}
)

const growthMaxLets = 30

// However much types grow, a program clashes only where two of them cannot be made one.
func TestLargeTypesDoNotClash(t *testing.T) {
	for _, g := range []growth{pairsOfUses, pairsDeeper, listsDeeper, functions, pairsInward, pairsOfSelf, pairsOfNils} {
		for many := range growthMaxLets + 1 {
			lets := g.lets(many)
			checkTypes(t, []typedCase{{lets + "0", "int"}, {lets + "let b = a 1 in 0", "int"}, {lets + "fn y -> let b = a y in let c = fn z -> b in let d = c 1 in 0", "'0 -> int"}, {lets + "fn y -> let c = fn z -> a y in let d = c 1 in 0", "'0 -> int"}})
			checkUntyped(t, impl.TypeClash, lets+"a 1 + 1", lets+"let b = a 1 in if b then 1 else 2", lets+"fn y -> a y y y + 1 :: y")
			if effs, ok := impl.TypeEffs(mustRead(t, lets+"(a, do ask ())")); !ok || !slices.Equal(effs, []string{"ask"}) {
				t.Errorf("%d times %q: %q %v", many, g.next, effs, ok)
			}
		}
	}
}

// What a function is given may share variables with what it gives that are few, among many others.
func TestLargeTypesOfFewSharedVariables(t *testing.T) {
	callers := growth{"fn f -> fn x -> f x", "fn f -> fn x -> (a, a f)"}
	for many := range growthMaxLets {
		lets := callers.lets(many)
		checkTypes(t, []typedCase{{lets + "fn y -> let g = fn z -> (a y, a y) in let h = (g 1, g ()) in 0", "('0 -> '1) -> int"}, {lets + "fn y -> fn w -> let g = fn z -> if true then a y else a w in let h = (g 1, g ()) in 0", "('0 -> '1) -> ('0 -> '1) -> int"}})
		checkUntyped(t, impl.TypeClash, lets+"fn y -> let g = fn z -> (a y, a z) in g 1")
	}
}

// What a function gives holds what it was given: to make them one is to make a variable part of itself.
func TestLargeTypesThatWouldHoldThemselves(t *testing.T) {
	for _, g := range []growth{pairsOfUses, pairsDeeper, listsDeeper, functions, pairsInward} {
		for many := range growthMaxLets + 1 {
			checkUntyped(t, impl.TypeClash, g.lets(many)+"fn y -> if true then y else a y", g.lets(many)+"fn y -> let b = a y in let c = if true then y else b in 0", g.lets(many)+"let rec f y = a (f y) in 0")
		}
	}
}

// Two uses of one function are made one, without all of their parts being gone through.
func TestLargeTypesAreMadeOne(t *testing.T) {
	for _, g := range []growth{pairsOfUses, pairsDeeper, listsDeeper, functions, pairsInward} {
		for many := range growthMaxLets {
			checkTypes(t, []typedCase{{g.lets(many) + "fn x -> fn y -> let b = if true then a x else a y in x", "'0 -> '0 -> '0"}})
			checkUntyped(t, impl.TypeClash, g.lets(many)+"if true then a 1 else a true", g.lets(many)+"fn x -> if true then a x else a (x, x)")
		}
	}
	for _, g := range []growth{pairsOfUses, pairsDeeper, listsDeeper, functions, pairsInward, pairsOfSelf, pairsOfNils} {
		for many := range growthMaxLets {
			lets := g.lets(many)
			checkTypes(t, []typedCase{{lets + "let b = if true then a else a in 0", "int"}, {lets + "let b = a :: a :: nil in 0", "int"}, {lets + "fn x -> let b = if true then a x else a x in x", "'0 -> '0"}, {lets + "fn x -> let g = fn z -> if true then a x else a x in let h = (g 1, g ()) in x", "'0 -> '0"}})
		}
	}
}

// Types of very many variables share them, through parts of one use that are both large.
func TestLargeTypesShareVariables(t *testing.T) {
	for _, lets := range []int{3, 7, 8, 9} {
		next := -1
		list := "(" + doubledText(lets, func() string {
			next++
			return "'" + strconv.Itoa(next) + " list"
		}) + ") list"
		large := pairsOfNils.lets(lets)
		twins := large + "let m = fn x -> let y = a x in (y :: nil, y :: nil) in let p = m 1 in let q = m 1 in "
		first := large + "let f = fn l -> case l of nil -> a 1 :: nil | h :: t -> h :: nil in "
		checkTypes(t, []typedCase{
			{twins + "let e = if true then fst p else fst q in (fst p, snd q)", list + " * " + list}, {twins + "let e = if true then snd q else snd p in (fst q, snd p)", list + " * " + list},
			{large + "let f = fn l -> (case l of nil -> a 1 :: nil | h :: t -> h :: nil, nil) in fn x -> let g = fn z -> f x in (1 :: snd (g 1), true :: snd (g 2))", list + " -> int list * bool list"},
			{first + "fn x -> let g = fn z -> f x in (g 1, g ())", list + " -> " + list + " * " + list}, {first + "fn x -> let g = fn z -> f x in let h = fn z -> g z in (h 1, x)", list + " -> " + list + " * " + list},
		})
	}
}

// doubledText is a pair of two of what was doubled once less, of variables from the left.
func doubledText(times int, leaf func() string) string {
	if times == 0 {
		return leaf()
	}
	left, right := doubledText(times-1, leaf), doubledText(times-1, leaf)
	if times > 1 {
		return "(" + left + ") * (" + right + ")"
	}
	return left + " * " + right
}

func TestLongTextsOfTypes(t *testing.T) {
	same := func() string { return "'0" }
	for many := range 13 {
		doubled := "'0 -> " + doubledText(many+1, same)
		chain := "'0"
		for i := range 1 << many {
			chain += " -> '" + strconv.Itoa(i+1)
		}
		next := 0
		others := func() string {
			next++
			return "'" + strconv.Itoa(next) + " list"
		}
		checkTypes(t, []typedCase{
			{pairsOfUses.lets(many) + "a", doubled}, {pairsOfUses.lets(many) + "fn x -> a x", doubled}, {pairsOfUses.lets(many) + "if true then a else a", doubled},
			{listsDeeper.lets(many) + "a", "'0 -> '0" + repeated(" list", 1<<many)}, {functions.lets(many) + "a", chain + " -> '0"}, {pairsOfNils.lets(many) + "a", "'0 -> " + doubledText(many, others)},
			{"fn x -> let a = (x, x) in " + repeated("let a = (a, a) in ", many) + "a", doubled},
		})
	}
	for many := range 4 {
		checkTypes(t, []typedCase{{pairsDeeper.lets(many) + "a", "'0 -> " + doubledText(1<<many, same)}})
	}
	// Deep, and longer than what any stack of calls would hold.
	if text, code := impl.TypeOf(mustRead(t, listsDeeper.lets(20)+"a")); code != impl.TypeOk || text != "'0 -> '0"+repeated(" list", 1<<20) {
		t.Errorf("%d bytes, %d", len(text), code)
	}
	if text, code := impl.TypeOf(mustRead(t, pairsOfUses.lets(20)+"a")); code != impl.TypeOk || text != "'0 -> "+doubledText(21, same) {
		t.Errorf("%d bytes, %d", len(text), code)
	}
}

// A text that no memory holds is left out; the call ends all the same.
func TestTextsThatNoMemoryHolds(t *testing.T) {
	for _, text := range []string{pairsOfUses.lets(30) + "a", pairsDeeper.lets(6) + "a", pairsDeeper.lets(30) + "a", "let a = 1 in " + repeated("let a = (a, a) in ", 36) + "a", "fn x -> let a = (x, x) in " + repeated("let a = (a, a) in ", 35) + "a"} {
		if got, code := impl.TypeOf(mustRead(t, text)); got != "" || code != impl.TypeOk {
			t.Errorf("%q: %d bytes, %d", text, len(got), code)
		}
	}
}

// A variable is known around a function that uses it through another part of one use of a name: it does not stand for any.
func TestVariablesOfOneUse(t *testing.T) {
	first := "let f = fn l -> case l of nil -> nil | h :: r -> h :: nil in "
	turn := "let f = fn p -> (snd p, fst p) in "
	twice := "let f = fn g -> fn x -> g (g x) in "
	checkTypes(t, []typedCase{
		{first + "fn x -> let g = fn z -> f x in (1 :: g (), 2 :: g ())", "int list -> int list * int list"}, {first + "fn x -> let g = fn z -> f z in (1 :: g nil, true :: g x)", "bool list -> int list * bool list"}, {first + "fn x -> let g = fn z -> f x in g", "'0 list -> '1 -> '0 list"},
		{turn + "fn x -> let g = fn z -> f x in g", "'0 * '1 -> '2 -> '1 * '0"}, {turn + "fn x -> let g = fn z -> f x in (g 1, (fst (g 2) + 1, g true))", "'0 * int -> (int * '0) * (int * (int * '0))"}, {turn + "fn x -> let g = fn z -> f z in (g (x, 1), g (1, true))", "'0 -> (int * '0) * (bool * int)"},
		{twice + "fn e -> let g = fn z -> f e in g", "('0 -> '0) -> '1 -> '0 -> '0"}, {twice + "fn e -> let g = fn z -> f e in let h = g 1 2 in g", "(int -> int) -> '0 -> int -> int"}, {twice + "let g = fn z -> f (fn y -> y) in (g 1 1, g 1 true)", "int * bool"},
		{turn + "let h = fn x -> let g = fn z -> f x in g in (h (1, true) (), h ((), 2) 3)", "(bool * int) * (int * unit)"}, {turn + "let h = fn q -> (fn x -> let g = fn z -> x in g 0) q in (h 1, h (true, f (1, ())))", "int * (bool * (unit * int))"},
		{first + "let h = fn q -> (fn x -> let g = fn z -> (f x, z) in g) q in (h nil 1, (h (1 :: nil) 2, h (true :: nil) ()))", "('0 list * int) * ((int list * int) * (bool list * unit))"},
	})
	// Two uses are made one in part: what they share with their other parts is one then, too.
	twins := "let n = fn u -> let l = nil in (l :: nil, l :: nil) in let f = fn u -> n u in let p = f 1 in let q = f 1 in "
	checkTypes(t, []typedCase{{twins + "((1 :: nil) :: snd p, (true :: nil) :: snd q)", "int list list * bool list list"}, {twins + "let e = if true then fst p else fst q in ((1 :: nil) :: snd p, snd q)", "int list list * int list list"}})
	checkUntyped(t, impl.TypeClash, twins+"let e = if true then fst p else fst q in ((1 :: nil) :: snd p, (true :: nil) :: snd q)", twins+"let e = if true then p else q in ((1 :: nil) :: snd p, (true :: nil) :: fst q)")
	checkUntyped(t, impl.TypeClash,
		first+"fn x -> let g = fn z -> f x in (1 :: g (), true :: g ())", turn+"fn x -> let g = fn z -> f x in (fst (g 1) + 1, if fst (g 1) then 1 else 2)", twice+"fn e -> let g = fn z -> f e in (g 1 1, g 1 true)", first+"fn x -> let g = fn z -> fn y -> f (z :: x) in (g 1, g true)", first+"fn x -> let y = f x in let g = fn z -> f y in (1 :: g (), true :: g ())",
		turn+"fn x -> let rec g z = f x in (fst (g 1) + 1, if fst (g 1) then 1 else 2)", first+"fn x -> let f = fn z -> f x in let g = fn z -> f z in (1 :: g (), true :: g ())", first+"fn x -> if true then x else f x :: nil")
}

// letter makes programs of lets of functions, which are used in many ways; few of them have a type.
type letter struct {
	*rand.Rand
	left int
}

func (l *letter) some(known []string) string {
	all := append([]string{"1", "true", "nil", "(fn u -> do ask u)"}, known...)
	if len(known) > 0 && l.IntN(4) > 0 {
		all = known[max(0, len(known)-6):]
	}
	return all[l.IntN(len(all))]
}

func (l *letter) part(known []string, deep int) string {
	if l.IntN(3) > 0 {
		return l.some(known)
	}
	return l.expr(known, deep-1)
}

func (l *letter) expr(known []string, deep int) string {
	l.left--
	if deep <= 0 || l.left <= 0 {
		return l.some(known)
	}
	name, arg := string(rune('a'+l.IntN(8))), string(rune('a'+l.IntN(8)))
	more := slices.Concat(known, []string{name})
	switch l.IntN(13) {
	case 0, 1, 2:
		return "(let " + name + " = fn " + arg + " -> " + l.expr(slices.Concat(known, []string{arg}), deep-2) + " in " + l.expr(more, deep-1) + ")"
	case 3:
		return "(let rec " + name + " " + arg + " = " + l.expr(slices.Concat(more, []string{arg}), deep-2) + " in " + l.expr(more, deep-1) + ")"
	case 4:
		return "(let " + name + " = " + l.expr(known, deep-2) + " in " + l.expr(more, deep-1) + ")"
	case 5, 6:
		return "(fn " + name + " -> " + l.expr(more, deep-1) + ")"
	case 7, 8:
		return "(" + l.part(known, deep) + " " + l.part(known, deep) + ")"
	case 9:
		return "(" + l.expr(known, deep-1) + ", " + l.expr(known, deep-1) + ")"
	case 10:
		return "(" + []string{"fst ", "snd "}[l.IntN(2)] + l.part(known, deep) + ")"
	case 11:
		return "(if true then " + l.part(known, deep) + " else " + l.part(known, deep) + ")"
	}
	return "(" + l.part(known, deep) + " :: " + l.part(known, deep) + ")"
}

// sharing makes a program of uses of one function, parts of which are made one.
func (l *letter) sharing() string {
	made := []string{
		"let n = fn x -> let l = nil in (l :: nil, l :: nil) in let m = fn x -> n x in let o = fn x -> (m x, m x) in ", "let n = fn x -> let l = nil in let k = nil in ((l :: nil, k :: nil), (k :: nil, (l :: nil, x))) in let m = fn x -> n x in let o = fn x -> let y = m x in (y, snd y) in ",
		"let n = fn x -> let l = nil in ((l, l), (fn y -> l, l :: nil)) in let m = fn x -> n x in let o = fn x -> (m x, m x) in ", "let n = fn x -> let l = nil in ((l :: nil, x :: nil), (x, l) :: nil) in let m = fn x -> (n x, snd (n x)) in let o = fn x -> m x in ",
	}[l.IntN(4)]
	fn := []string{"n", "m", "o"}[l.IntN(3)]
	text := made + "let p = " + fn + " 1 in let q = " + fn + " 1 in let r = " + []string{fn, "m"}[l.IntN(2)] + " 1 in "
	for range 1 + l.IntN(4) {
		known := []string{"p", "q", "r"}
		left, right := known[l.IntN(3)], known[l.IntN(3)]
		for range 1 + l.IntN(3) {
			take := []string{"(fst ", "(snd "}[l.IntN(2)]
			left, right = take+left+")", take+right+")"
		}
		text += "let e = " + []string{"", "", "fn z -> "}[l.IntN(3)] + "if true then " + left + " else " + right + " in "
	}
	return text + "(p, (q, r))"
}

func TestModelOfTypesAgreesOnSharing(t *testing.T) {
	l := &letter{Rand: dice(88)}
	codes := map[int]int{}
	for range 2000 {
		codes[checkTyped(t, mustRead(t, l.sharing()))]++
	}
	if codes[impl.TypeOk] < 300 || codes[impl.TypeClash] < 300 {
		t.Fatalf("too few: %v", codes)
	}
}

func TestModelOfTypesAgreesOnLets(t *testing.T) {
	l := &letter{Rand: dice(8)}
	known := "let o = fn a -> case a of nil -> nil | h :: t -> h :: nil in let s = fn p -> (snd p, fst p) in let q = fn f -> fn x -> f (f x) in "
	codes := map[int]int{}
	for range 6000 {
		l.left = 5 + l.IntN(25)
		p, fault := impl.ProgRead(askText + known + l.expr([]string{"o", "s", "q"}, 4+l.IntN(10)))
		if fault.Code == 0 {
			codes[checkTyped(t, p)]++
		}
	}
	if codes[impl.TypeOk] < 500 || codes[impl.TypeClash] < 500 {
		t.Fatalf("too few: %v", codes)
	}
}
