package tests

import (
	"math"
	"slices"
	"strconv"
	"strings"
	"testing"

	"loop.example/handrail/impl"
)

// meantCase is an expression that ends with a value, and what it prints.
type meantCase struct {
	text  string
	value string
	trace []int
}

func checkMeanings(t *testing.T, cases []meantCase) {
	t.Helper()
	for _, c := range cases {
		r := impl.MeanRun(mustRead(t, c.text), impl.MeanMaxFuel)
		if r.End != impl.EndDone || r.Value != c.value || !slices.Equal(r.Trace, c.trace) {
			t.Errorf("%q: %v, not %q %v", c.text, r, c.value, c.trace)
		}
	}
}

func TestMeaningsOfEachForm(t *testing.T) {
	checkMeanings(t, []meantCase{
		{"7", "7", nil}, {"true", "true", nil}, {"false", "false", nil}, {"()", "()", nil}, {"nil", "[]", nil}, {"fn x -> x", "fn", nil}, {"(fn x -> x + 1) 2", "3", nil}, {"(fn x -> fn y -> x - y) 5 3", "2", nil},
		{"let a = 1 in a + a", "2", nil}, {"let a = 1 in let a = true in a", "true", nil}, {"let x = 1 in let g = fn y -> x in let x = 2 in g 0", "1", nil}, {"let rec f n = if n < 1 then 0 else n + f (n - 1) in f 10", "55", nil}, {"let rec f f = f in f 1", "1", nil}, {"let rec f a = f in f", "fn", nil}, {"let f = fn x -> 1 in let rec f x = if x = 0 then 7 else f 0 in f 5", "7", nil},
		{"if true then 1 else 2", "1", nil}, {"if false then 1 else 2", "2", nil}, {"1 - 2", "-1", nil}, {"3 * 4", "12", nil}, {"1 = 1", "true", nil}, {"1 = 2", "false", nil}, {"1 < 2", "true", nil}, {"2 < 2", "false", nil}, {"0 - 1 < 0", "true", nil},
		{"(1, true)", "(1, true)", nil}, {"fst (1, 2)", "1", nil}, {"snd (1, 2)", "2", nil}, {"1 :: 2 :: nil", "[1 2]", nil}, {"true :: ((), nil) :: nil", "[true ((), [])]", nil}, {"nil :: nil", "[[]]", nil}, {"(fn x -> x) :: nil", "[fn]", nil},
		{"case nil of nil -> 1 | a :: b -> 2", "1", nil}, {"case 1 :: 2 :: nil of nil -> (0, nil) | a :: b -> (a, b)", "(1, [2])", nil}, {"print 3", "()", []int{3}}, {"(print 1, (print 2, 3))", "((), ((), 3))", []int{1, 2}}, {"print (1 + (let a = print 5 in 2))", "()", []int{5, 3}},
		{"(let u = print 1 in fn x -> let v = print 3 in x) (let w = print 2 in 4)", "4", []int{1, 2, 3}}, {"(let u = print 1 in 1) :: (let u = print 2 in nil)", "[1]", []int{1, 2}},
		{"handle 1 with ret r -> r + 1 end", "2", nil}, {"shallow 1 with ret r -> (r, r) end", "(1, 1)", nil}, {"let r = 5 in handle 1 with ret a -> r + a end", "6", nil},
		{"2147483 * 1000000", "-648000", nil}, {"999999999 * 999999999", "808348673", nil}, {"999999999 + 999999999 + 147483649", "2147483647", nil}, {"999999999 + 999999999 + 147483650", "-2147483648", nil}, {"print (0 - 999999999 - 999999999 - 147483651)", "()", []int{math.MaxInt32}},
	})
}

func TestContinuations(t *testing.T) {
	checkMeanings(t, []meantCase{
		// never, once, twice
		{"handle 1 + do ask () with ret r -> r | ask u k -> 10 end", "10", nil}, {"handle 1 + do ask () with ret r -> r * 2 | ask u k -> k 5 end", "12", nil}, {"handle print (do ask ()) with ret r -> 1 | ask u k -> k 5 + k 6 end", "2", []int{5, 6}}, {"handle print (do ask () + do ask ()) with ret r -> 0 | ask u k -> 1 + k 20 end", "2", []int{40}},
		{"shallow 1 + do ask () with ret r -> r | ask u k -> 10 end", "10", nil}, {"shallow 1 + do ask () with ret r -> r * 2 | ask u k -> k 5 end", "6", nil}, {"shallow print (do ask ()) with ret r -> 1 | ask u k -> (k 5, k 6) end", "((), ())", []int{5, 6}},
		{"handle do ask () :: nil with ret r -> r :: nil | ask u k -> k 1 :: k 2 :: nil end", "[[[1]] [[2]]]", nil}, {"handle (do ask (), do ask ()) with ret r -> r :: nil | ask u k -> (case k 1 of nil -> nil | a :: b -> a :: k 2) end", "[(1, 1) (2, 1) (2, 2)]", nil},
		// it outlives its handler, which a deep one brings along
		{"let k = handle 1 + do ask () with ret r -> r * 2 | ask u k -> k end in (k 1, k 2)", "(4, 6)", nil}, {"let k = shallow 1 + do ask () with ret r -> r * 2 | ask u k -> k end in (k 1, k 2)", "(2, 3)", nil}, {"shallow do ask () with ret r -> r | ask u k -> k end", "fn", nil},
		{"let k = handle do ask () + do ask () with ret r -> r | ask u k -> k end in (k 1) 2", "3", nil}, {"(handle do ask () + do ask () with ret r -> fn s -> r | ask u k -> fn s -> k s (s + 1) end) 5", "11", nil},
		// the innermost one with a clause; those within it are kept
		{"handle (handle do ask () with ret r -> r | ask u k -> k 1 end) + do ask () with ret r -> r | ask u k -> k 10 end", "11", nil}, {"handle (handle do ask () with ret r -> r | ask u k -> do ask () + k 1 end) with ret r -> r | ask u j -> j 20 end", "21", nil}, {"handle (handle do ask () with ret r -> r + do ask () | ask u k -> k 1 end) with ret r -> r | ask u j -> j 20 end", "21", nil},
		{"handle (handle do ask () + (let a = do tell 5 in 1) with ret r -> r * 10 | tell n j -> (let u = print n in j ()) end) with ret r -> r + 1 | ask u k -> k 2 end", "31", []int{5}}, {"handle (shallow do ask () + (let a = do tell 5 in 1) with ret r -> r * 10 | tell n j -> (let u = print n in j ()) end) with ret r -> r + 1 | ask u k -> k 2 end", "4", []int{5}},
		{"shallow (handle do ask () + (let a = do tell 5 in 1) with ret r -> r * 10 | tell n j -> (let u = print n in j ()) end) with ret r -> r + 1 | ask u k -> k 2 + k 3 end", "70", []int{5, 5}}, {"handle (shallow do ask () + do ask () with ret r -> r | ask u k -> k 1 end) with ret r -> r | ask u k -> k 10 end", "11", nil},
		{"shallow (shallow do ask () + do ask () with ret r -> 0 | tell n k -> 0 end) with ret r -> 1 | ask u k -> (shallow k 1 with ret r -> 2 | ask u k -> (k 5, 3) end) end", "(0, 3)", nil},
		// what a clause knows
		{"handle do tell 4 with ret r -> 0 | tell n k -> n end", "4", nil}, {"let u = 1 in handle do ask () with ret u -> u | ask k u -> u k end", "()", nil}, {"let a = 3 in handle (let a = 4 in do ask ()) with ret r -> r + a | ask u k -> k a end", "6", nil}, {"handle do x (1 :: nil) with ret r -> (r, nil) | x l k -> (k true, l) end", "((true, []), [1])", nil},
		{"let rec go n = if n = 0 then 0 else do ask () + go (n - 1) in handle go 500 with ret r -> r | ask u k -> k 2 end", "1000", nil},
	})
	r := impl.MeanRun(mustRead(t, "shallow print (do ask ()) :: print (do ask ()) :: nil with ret r -> r | ask u k -> k 1 end"), 100)
	if r.End != impl.EndOp || !slices.Equal(r.Trace, []int{1}) || r.Value != "" {
		t.Error(r)
	}
}

// Steps are counted by hand.
func TestSteps(t *testing.T) {
	for _, c := range []struct {
		text  string
		end   int
		steps int
	}{
		{"1", 0, 2}, {"fn x -> x", 0, 2}, {"1 + 2", 0, 6}, {"(1, 2)", 0, 6}, {"1 :: nil", 0, 6}, {"(fn x -> x) 5", 0, 7}, {"let a = 1 in a", 0, 5}, {"let rec f a = a in f", 0, 3}, {"let rec f a = a in f 1", 0, 8}, {"if true then 1 else 2", 0, 5}, {"fst (1, 2)", 0, 8}, {"print 3", 0, 4},
		{"case nil of nil -> 1 | a :: b -> 2", 0, 5}, {"case 1 :: nil of nil -> 0 | a :: b -> a", 0, 9}, {"handle 1 with ret r -> r end", 0, 5}, {"handle do ask () with ret r -> r | ask u k -> 7 end", 0, 6}, {"handle do ask () with ret r -> r | ask u k -> k 7 end", 0, 12}, {"shallow do ask () with ret r -> r + 1 | ask u k -> k 7 end", 0, 10},
		{"a", impl.EndStuck, 1}, {"fn x -> a", 0, 2}, {"1 2", impl.EndStuck, 5}, {"print ()", impl.EndStuck, 3}, {"if 1 then 2 else 3", impl.EndStuck, 3}, {"fst 1", impl.EndStuck, 3}, {"snd nil", impl.EndStuck, 3}, {"case 1 of nil -> 1 | a :: b -> 2", impl.EndStuck, 3}, {"1 :: 2", impl.EndStuck, 5}, {"1 + true", impl.EndStuck, 5}, {"true + 1", impl.EndStuck, 5}, {"1 = ()", impl.EndStuck, 5}, {"true = true", impl.EndStuck, 5}, {"do ask ()", impl.EndOp, 3}, {"handle do ask () with ret r -> r | tell u k -> k 1 end", impl.EndOp, 4},
	} {
		p := mustRead(t, c.text)
		for _, fuel := range []int{c.steps, c.steps + 1, impl.MeanMaxFuel} {
			if r := impl.MeanRun(p, fuel); r.End != c.end || r.Steps != c.steps || (r.Value != "") != (c.end == impl.EndDone) {
				t.Errorf("%q in %d: %v, not %d in %d", c.text, fuel, r, c.end, c.steps)
			}
		}
		for fuel := range c.steps {
			if r := impl.MeanRun(p, fuel); r.End != impl.EndFuel || r.Steps != fuel || r.Value != "" {
				t.Errorf("%q in %d: %v", c.text, fuel, r)
			}
		}
	}
	for _, text := range []string{"let rec f x = f x in f 1", "let rec f x = 1 + f x in f 1", "let rec f x = handle f x with ret r -> r end in f 1"} {
		if r := impl.MeanRun(mustRead(t, text), impl.MeanMaxFuel); r.End != impl.EndFuel || r.Steps != impl.MeanMaxFuel || len(r.Trace) != 0 || r.Value != "" {
			t.Errorf("%q: %v", text, r)
		}
	}
}

func TestPrintedNumbersHaveALimit(t *testing.T) {
	down := func(from, many int) []int {
		var list []int
		for i := range many {
			list = append(list, from-i)
		}
		return list
	}
	prints := func(last string, many int) impl.Result {
		return impl.MeanRun(mustRead(t, "let rec f n = if n = 0 then "+last+" else let u = print n in f (n - 1) in f "+strconv.Itoa(many)), impl.MeanMaxFuel)
	}
	for _, c := range []struct {
		last  string
		many  int
		end   int
		value string
	}{{"8", 199, impl.EndDone, "8"}, {"8", 200, impl.EndDone, "8"}, {"8", 201, impl.EndFull, ""}, {"8", 210, impl.EndFull, ""}, {"print ()", 200, impl.EndStuck, ""}, {"print 0", 200, impl.EndFull, ""}, {"do tell 0", 200, impl.EndOp, ""}} {
		r := prints(c.last, c.many)
		if r.End != c.end || r.Value != c.value || !slices.Equal(r.Trace, down(c.many, min(c.many, impl.MeanMaxTrace))) {
			t.Errorf("%q, %d: %v", c.last, c.many, r)
		}
	}
	endless := mustRead(t, "let rec f n = let u = print n in f (n + 1) in f 0")
	r := impl.MeanRun(endless, impl.MeanMaxFuel)
	if one := impl.MeanRun(endless, r.Steps-1); r.End != impl.EndFull || one.End != impl.EndFuel || len(one.Trace) != impl.MeanMaxTrace {
		t.Errorf("%v, one step less %v", r, one)
	}
}

func TestPartsOfValuesHaveALimit(t *testing.T) {
	count := func(from, to int) string {
		var texts []string
		for i := from; i >= to; i-- {
			texts = append(texts, strconv.Itoa(i))
		}
		return strings.Join(texts, " ")
	}
	list := func(last string, many int) string {
		return "let rec f n = if n = 0 then " + last + " else n :: f (n - 1) in f " + strconv.Itoa(many)
	}
	pairs := func(many int) string {
		return "let rec f n = if n = 0 then 0 else (n, f (n - 1)) in f " + strconv.Itoa(many)
	}
	nested := func(from, to int, last string) string {
		text, closing := "", ""
		for i := from; i >= to; i-- {
			text += "(" + strconv.Itoa(i) + ", "
			closing += ")"
		}
		return text + last + closing
	}
	checkMeanings(t, []meantCase{
		{list("nil", 58), "[" + count(58, 1) + "]", nil}, {list("nil", 59), "[" + count(59, 1) + "]", nil}, {list("nil", 60), "[" + count(60, 2) + " .]", nil}, {list("nil", 61), "[" + count(61, 3) + " .]", nil}, {list("nil", 300), "[" + count(300, 242) + " .]", nil},
		{pairs(29), nested(29, 1, "0"), nil}, {pairs(30), nested(30, 1, "."), nil}, {pairs(31), nested(31, 2, "."), nil},
		{list("(1, 2) :: 3 :: nil", 56), "[" + count(56, 1) + " (1, 2) .]", nil}, {list("(1, 2) :: nil", 57), "[" + count(57, 1) + " (1, .)]", nil}, {list("(1, 2) :: 3 :: nil", 57), "[" + count(57, 1) + " (1, .) .]", nil}, {list("(1, 2) :: nil", 58), "[" + count(58, 1) + " (., .)]", nil}, {list("(1, 2) :: 3 :: 4 :: nil", 58), "[" + count(58, 1) + " (., .) .]", nil}, {list("(1, 2) :: nil", 59), "[" + count(59, 1) + " .]", nil},
		{list("nil :: nil", 58), "[" + count(58, 1) + " []]", nil}, {list("nil :: 1 :: nil", 58), "[" + count(58, 1) + " [] .]", nil}, {list("(1 :: 2 :: nil) :: nil", 58), "[" + count(58, 1) + " [.]]", nil}, {list("(1 :: 2 :: nil) :: 3 :: nil", 57), "[" + count(57, 1) + " [1 .] .]", nil}, {list("(fn x -> x) :: nil", 59), "[" + count(59, 1) + " .]", nil}, {list("(fn x -> x) :: nil", 58), "[" + count(58, 1) + " fn]", nil},
		{"(" + list("nil", 58) + ", 1)", "([" + count(58, 1) + "], .)", nil}, {"(" + list("nil", 57) + ", 1)", "([" + count(57, 1) + "], 1)", nil}, {"(" + list("nil", 70) + ", nil)", "([" + count(70, 13) + " .], .)", nil},
	})
}

func TestWrongRuns(t *testing.T) {
	bad := func(what string, r impl.Result) {
		t.Helper()
		if r.End != impl.EndBad || len(r.Trace) != 0 || r.Value != "" || r.Steps != 0 {
			t.Errorf("%.200s: %v", what, r)
		}
	}
	for _, fuel := range []int{-1, impl.MeanMaxFuel + 1, math.MinInt, math.MaxInt, 1 << 32} {
		bad(strconv.Itoa(fuel), impl.MeanRun(mustRead(t, "print 1"), fuel))
	}
	for _, p := range badPrograms() {
		for _, fuel := range []int{-1, 0, 100, impl.MeanMaxFuel, impl.MeanMaxFuel + 1} {
			bad("a bad program", impl.MeanRun(p, fuel))
		}
	}
	// A program with free names is a program: it gets stuck where one is met.
	for _, c := range []meantCase{{"(print 1, a)", "", []int{1}}, {"let a = a in 1", "", nil}, {"handle print 2 with ret r -> u | tell u k -> 1 end", "", []int{2}}} {
		if r := impl.MeanRun(mustRead(t, c.text), 100); r.End != impl.EndStuck || !slices.Equal(r.Trace, c.trace) {
			t.Errorf("%q: %v", c.text, r)
		}
	}
	checkMeanings(t, []meantCase{{"if true then 1 else a", "1", nil}})
}

func TestArith(t *testing.T) {
	for _, c := range []struct{ kind, a, b, want int }{
		{impl.NAdd, 2, 3, 5}, {impl.NAdd, math.MaxInt32, 1, math.MinInt32}, {impl.NAdd, math.MinInt32, -1, math.MaxInt32}, {impl.NAdd, math.MinInt32, math.MinInt32, 0}, {impl.NAdd, math.MaxInt32, math.MaxInt32, -2}, {impl.NAdd, math.MaxInt32, 0, math.MaxInt32},
		{impl.NSub, 2, 3, -1}, {impl.NSub, math.MinInt32, 1, math.MaxInt32}, {impl.NSub, math.MaxInt32, -1, math.MinInt32}, {impl.NSub, 0, math.MinInt32, math.MinInt32},
		{impl.NMul, -3, 4, -12}, {impl.NMul, 65536, 65536, 0}, {impl.NMul, math.MinInt32, -1, math.MinInt32}, {impl.NMul, 46341, 46341, -2147479015}, {impl.NMul, math.MaxInt32, math.MaxInt32, 1},
		{impl.NEq, 4, 4, 1}, {impl.NEq, 4, 5, 0}, {impl.NEq, math.MaxInt32, math.MinInt32, 0}, {impl.NLt, 4, 5, 1}, {impl.NLt, 5, 5, 0}, {impl.NLt, 6, 5, 0}, {impl.NLt, -1, 0, 1}, {impl.NLt, math.MinInt32, math.MaxInt32, 1}, {impl.NLt, math.MaxInt32, math.MinInt32, 0},
		// Numbers beyond 32 bits are taken as ones of 32 bits first.
		{impl.NAdd, 1<<40 + 3, 4, 7}, {impl.NAdd, 1 << 31, 0, math.MinInt32}, {impl.NSub, -1<<31 - 1, 0, math.MaxInt32}, {impl.NMul, 1<<32 + 3, 1<<33 + 5, 15}, {impl.NEq, 1 << 32, 0, 1}, {impl.NEq, 1<<32 - 1, -1, 1}, {impl.NLt, 1 << 31, 0, 1}, {impl.NLt, 1 << 32, 1, 1}, {impl.NLt, 0, 1 << 32, 0}, {impl.NAdd, math.MaxInt, math.MaxInt, -2}, {impl.NAdd, math.MinInt, math.MinInt, 0},
	} {
		if got := impl.MeanArith(c.kind, c.a, c.b); got != c.want {
			t.Errorf("%d of %d and %d: %d, not %d", c.kind, c.a, c.b, got, c.want)
		}
	}
	for k := -2; k <= 40; k++ {
		if k >= impl.NAdd && k <= impl.NLt {
			continue
		}
		if got := impl.MeanArith(k, 3, 3) | impl.MeanArith(k, 1, 2); got != 0 {
			t.Errorf("%d is no sign: %d", k, got)
		}
	}
	if impl.MeanArith(math.MaxInt, 1, 1) != 0 || impl.MeanArith(math.MinInt, 1, 1) != 0 || impl.MeanArith(1<<32+impl.NAdd, 1, 1) != 0 {
		t.Error("a kind far off")
	}
}

// Promise 16: numbers wrap at 32 bits, and what is added is taken off again.
func TestNumbersWrap(t *testing.T) {
	d := dice(16)
	edges := []int{0, 1, -1, math.MaxInt32, math.MinInt32, math.MaxInt32 + 1, math.MinInt32 - 1, 1 << 32, math.MaxInt, math.MinInt, 65536, 46341}
	number := func() int {
		switch d.IntN(3) {
		case 0:
			return edges[d.IntN(len(edges))]
		case 1:
			return int(d.Uint64())
		}
		return int(int32(d.Uint32()))
	}
	for range 20000 {
		a, b := number(), number()
		sum, short := impl.MeanArith(impl.NAdd, a, b), int(modelWrap(int64(a)))
		if sum < math.MinInt32 || sum > math.MaxInt32 || impl.MeanArith(impl.NSub, sum, b) != short || impl.MeanArith(impl.NAdd, impl.MeanArith(impl.NSub, a, b), b) != short {
			t.Fatalf("%d + %d is %d", a, b, sum)
		}
		for k := impl.NAdd; k <= impl.NLt; k++ {
			if got := impl.MeanArith(k, a, b); got != modelArith(k, a, b) {
				t.Fatalf("%d of %d and %d: %d, not %d", k, a, b, got, modelArith(k, a, b))
			}
		}
	}
}

func TestModelOfMeaningsAgrees(t *testing.T) {
	m := newFitter(41)
	ends := map[int]int{}
	for i := range 1500 {
		p := m.whole(t)
		for _, p := range []prog{p, handledWhole(p, impl.NDeep), handledWhole(p, impl.NShallow), m.mixed(t), m.wildWhole(), m.wildWhole()} {
			if impl.ProgOk(p) {
				ends[checkMeant(t, p, 20+i)]++
			}
		}
	}
	for _, end := range []int{impl.EndDone, impl.EndStuck, impl.EndOp, impl.EndFuel} {
		if ends[end] < 50 {
			t.Fatalf("too few: %v", ends)
		}
	}
}

// What waits may double with each asking: it is shared, and a run ends all the same.
func TestContinuationsAreShared(t *testing.T) {
	doubles := "let rec go n = fn f -> shallow f () with ret r -> r | ask u k -> if n = 0 then k (fn w -> LAST) else go (n - 1) (fn u -> k (fn w -> k (fn w -> 1 + (do ask ()) ()))) end in go N (fn u -> 1 + (do ask ()) ())"
	with := func(n int, last string) prog {
		text := strings.NewReplacer("LAST", last, "N", strconv.Itoa(n)).Replace(doubles)
		return mustRead(t, "handle ("+text+") with ret r -> r | tell n k -> n + k () end")
	}
	for n := range 6 {
		// Each round has twice as many sums that wait, and one more.
		want := strconv.Itoa(2<<n - 1 + 7)
		if r := impl.MeanRun(with(n, "7"), impl.MeanMaxFuel); r.End != impl.EndDone || r.Value != want {
			t.Errorf("%d: %v, not %s", n, r, want)
		}
	}
	if r := impl.MeanRun(with(300, "do x nil"), impl.MeanMaxFuel); r.End != impl.EndOp {
		t.Error(r)
	}
	if r := impl.MeanRun(with(200, "let u = do tell 1 in print 5"), impl.MeanMaxFuel); r.End != impl.EndStuck || !slices.Equal(r.Trace, []int{5}) {
		t.Error(r)
	}
	if r := impl.MeanRun(with(200, "let u = do tell 1 in let v = print 5 in 1"), impl.MeanMaxFuel); r.End != impl.EndFuel || !slices.Equal(r.Trace, []int{5}) {
		t.Error(r)
	}
}

func TestMeaningsAreNewMemory(t *testing.T) {
	mark, markEff := node{Kind: 77, A: "mark"}, eff{Name: "mark"}
	for _, text := range []string{"(print 1, (print 2, print 3))", "handle print (do ask ()) with ret r -> r | ask u k -> (k 1, k 2) end", "let rec f n = let u = print n in f (n + 1) in f 0", "(print 1, 1 2)", "(print 1, do ask ())"} {
		kept := mustRead(t, text)
		p := prog{Effs: withSpare(kept.Effs, markEff), Tree: withSpare(kept.Tree, mark)}
		first := impl.MeanRun(p, impl.MeanMaxFuel)
		second := impl.MeanRun(p, impl.MeanMaxFuel)
		clear(first.Trace[:cap(first.Trace)])
		if third := impl.MeanRun(p, impl.MeanMaxFuel); !sameResult(second, third) || len(third.Trace) == 0 || third.Trace[0] != second.Trace[0] {
			t.Errorf("%q: two answers share memory", text)
		}
		if !sameProg(p, kept) || !spareKept(p.Tree, mark) || !spareKept(p.Effs, markEff) {
			t.Errorf("%q: an argument is written into", text)
		}
	}
}
