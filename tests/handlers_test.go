package tests

import (
	"slices"
	"testing"

	"loop.example/handrail/impl"
)

// sameOutcome tells whether two runs come to the same, in however many steps.
func sameOutcome(a, b impl.Result) bool {
	return a.End == b.End && a.Value == b.Value && slices.Equal(a.Trace, b.Trace)
}

// answered is a program around which each asking is answered with a number.
func answered(p prog, name string, number int) prog {
	clause := over(named(impl.NOp, name, "u", "k"), over(kind(impl.NApp), use("k"), num(number)))
	return program(p.Effs, over(kind(impl.NDeep), p.Tree, over(named(impl.NRet, "r"), use("r")), clause))
}

// replaced is a program in which a number stands for each asking, behind what would be asked with.
func replaced(p prog, number int) prog {
	tree := slices.Clone(p.Tree)
	for at := len(tree) - 1; at >= 0; at-- {
		if tree[at].Kind != impl.NDo {
			continue
		}
		given := tree[at+1 : impl.TreeEnd(tree, at)]
		stands := over(named(impl.NLet, "z"), given, num(number))
		if len(given) == 1 && given[0].Kind == impl.NUnit {
			stands = num(number)
		}
		tree = grafted(tree, at, stands)
	}
	return program(p.Effs, tree)
}

// Promise 7: a handler that answers each asking with the same number is as if that number stood there.
func TestConstantAnswers(t *testing.T) {
	for _, c := range []struct{ asks, stands string }{
		{"do ask ()", "5"}, {"do ask () + do ask ()", "5 + 5"}, {"let f = fn u -> do ask u in (f (), f ())", "let f = fn u -> 5 in (f (), f ())"}, {"let rec f n = if n = 0 then nil else print (do ask () * n) :: f (n - 1) in f 4", "let rec f n = if n = 0 then nil else print (5 * n) :: f (n - 1) in f 4"}, {"fn u -> do ask u", "fn u -> 5"}, {"1 + (print 7, do ask ())", "1 + (print 7, 5)"}, {"do ask () ()", "5 ()"}, {"case do ask () :: nil of nil -> 0 | a :: b -> a", "case 5 :: nil of nil -> 0 | a :: b -> a"},
	} {
		got := impl.MeanRun(answered(mustRead(t, c.asks), "ask", 5), impl.MeanMaxFuel)
		if want := impl.MeanRun(mustRead(t, c.stands), impl.MeanMaxFuel); !sameOutcome(got, want) {
			t.Errorf("%q: %v, not %v", c.asks, got, want)
		}
	}
	m := newFitter(7)
	m.bare = true
	asking := 0
	for i := range 4000 {
		m.effs = []eff{op("get", impl.BaseInt+i%4, impl.BaseInt)}
		p := m.whole(t)
		if i%5 == 0 {
			p = m.mixed(t)
		}
		number := m.IntN(5)
		with, without := answered(p, "get", number), replaced(p, number)
		if !impl.ProgOk(with) || !impl.ProgOk(without) {
			continue
		}
		got, want := impl.MeanRun(with, impl.MeanMaxFuel), impl.MeanRun(without, impl.MeanMaxFuel)
		if got.End == impl.EndFuel || want.End == impl.EndFuel {
			continue
		}
		if !sameOutcome(got, want) {
			t.Fatalf("%s: %v, not %v", impl.ProgText(with), got, want)
		}
		if got.Steps > want.Steps+8 {
			asking++
		}
	}
	if asking < 500 {
		t.Fatalf("only %d ask", asking)
	}
}

// spareEff is an operation that is never performed.
func spareEff() eff {
	return op("spare", impl.BaseInt, impl.BaseBool)
}

// spared is a program with a handler of the spare operation around what is at a place.
func spared(p prog, at int, k int, clause []node) prog {
	part := p.Tree[at:impl.TreeEnd(p.Tree, at)]
	handler := over(kind(k), part, over(named(impl.NRet, "r"), use("r")), over(named(impl.NOp, "spare", "u", "k"), clause))
	return program(p.Effs, grafted(p.Tree, at, handler))
}

// spareClauses fit whatever is handled.
func spareClauses() [][]node {
	again := over(kind(impl.NApp), use("k"), []node{{Kind: impl.NBool, Num: 1}})
	endless := over(named(impl.NRec, "f", "y"), over(kind(impl.NApp), use("f"), use("y")), over(kind(impl.NApp), use("f"), use("u")))
	both := over(kind(impl.NIf), over(kind(impl.NLt), use("u"), num(3)), again, again)
	return [][]node{again, endless, both}
}

// isLetFn tells whether what is at a place is a function that a let names: its variables stand for any only if nothing is around it.
func isLetFn(tree []node, at int) bool {
	return tree[at].Kind == impl.NFn && at > 0 && tree[at-1].Kind == impl.NLet
}

func checkSpared(t *testing.T, p, with prog) {
	t.Helper()
	text, code := impl.TypeOf(p)
	effs, ok := impl.TypeEffs(p)
	gotText, gotCode := impl.TypeOf(with)
	gotEffs, gotOk := impl.TypeEffs(with)
	if gotText != text || gotCode != code || gotOk != ok || !slices.Equal(gotEffs, effs) {
		t.Fatalf("%s: %q %d %q %v, not %q %d %q %v", impl.ProgText(with), gotText, gotCode, gotEffs, gotOk, text, code, effs, ok)
	}
	got, want := impl.MeanRun(with, impl.MeanMaxFuel), impl.MeanRun(p, impl.MeanMaxFuel)
	if got.End == impl.EndFuel || want.End == impl.EndFuel {
		return
	}
	if !sameOutcome(got, want) {
		t.Fatalf("%s: %v, not %v", impl.ProgText(with), got, want)
	}
}

// Promise 8: a handler of what is never performed changes neither type nor outcome.
func TestSpareHandlers(t *testing.T) {
	for _, text := range []string{"1", "fn x -> x", "do ask ()", "(print 1, do tell 2)", "1 2", "let i = fn x -> x in (i 1, i true)", "fn u -> do ask u", "handle print (do ask () + do ask ()) with ret x -> 0 | ask u k -> 1 + k 20 end", "shallow do ask () + do ask () with ret x -> x | ask u k -> k 1 end", "shallow do ask () with ret r -> fn n -> r | ask u k -> k end", "let k = handle 1 + do ask () with ret r -> fn a -> r | ask u k -> fn a -> k 1 2 end in (k 1, k 2)", "let rec f n = if n = 0 then nil else n :: f (n - 1) in f 70"} {
		p := mustRead(t, text)
		p.Effs = append(p.Effs, spareEff())
		for _, at := range places(p.Tree) {
			for _, clause := range spareClauses() {
				if !isLetFn(p.Tree, at) {
					checkSpared(t, p, spared(p, at, impl.NDeep, clause))
					checkSpared(t, p, spared(p, at, impl.NShallow, clause))
				}
			}
		}
	}
	m := newFitter(8)
	for i := range 3000 {
		p := []func() prog{func() prog { return m.whole(t) }, func() prog { return m.mixed(t) }, m.wildWhole}[i%3]()
		p.Effs = append(slices.Clone(p.Effs), spareEff())
		found := places(p.Tree)
		at := found[m.IntN(len(found))]
		with := spared(p, at, []int{impl.NDeep, impl.NShallow}[m.IntN(2)], spareClauses()[m.IntN(3)])
		if impl.ProgOk(with) && !isLetFn(p.Tree, at) {
			checkSpared(t, p, with)
		}
	}
}
