package tests

import (
	"math"
	"slices"
	"strconv"
	"testing"

	"loop.example/handrail/impl"
)

// fakes are nodes with so many kids each, and nothing else that is right.
func fakes(kids ...int) []node {
	var t []node
	for _, k := range kids {
		t = append(t, node{Kind: -5, Num: -1, A: "?", Kids: k})
	}
	return t
}

func TestTreeEnd(t *testing.T) {
	for _, c := range []struct {
		kids     []int
		at, want int
	}{
		{nil, 0, -1}, {nil, -1, -1}, {nil, 1, -1},
		{[]int{0}, 0, 1}, {[]int{0}, 1, -1}, {[]int{0}, -1, -1}, {[]int{0}, math.MaxInt, -1}, {[]int{0}, math.MinInt, -1},
		{[]int{2, 0, 0}, 0, 3}, {[]int{2, 0, 0}, 1, 2}, {[]int{2, 0, 0}, 2, 3}, {[]int{2, 0, 0}, 3, -1},
		{[]int{2, 1, 0, 3, 0, 0, 0, 0}, 0, 7}, {[]int{2, 1, 0, 3, 0, 0, 0, 0}, 1, 3}, {[]int{2, 1, 0, 3, 0, 0, 0, 0}, 3, 7}, {[]int{2, 1, 0, 3, 0, 0, 0, 0}, 7, 8},
		{[]int{1}, 0, -1}, {[]int{2, 0}, 0, -1}, {[]int{2, 0, 1}, 0, -1}, {[]int{2, 0, 1}, 1, 2},
		{[]int{-1}, 0, -1}, {[]int{1, -1}, 0, -1}, {[]int{2, -1, 0}, 0, -1}, {[]int{2, 2, -1}, 0, -1}, {[]int{0, -1}, 0, 1}, {[]int{-1, 0}, 1, 2},
		{[]int{3, 0, 0}, 0, -1}, {[]int{4, 0, 0}, 0, -1}, {[]int{0, 9, 0}, 0, 1}, {[]int{0, 9, 0}, 2, 3}, {[]int{9, 1, 0}, 1, 3},
		{[]int{math.MaxInt, 0}, 0, -1}, {[]int{1, math.MaxInt}, 0, -1}, {[]int{2, math.MaxInt, math.MinInt}, 0, -1}, {[]int{math.MinInt}, 0, -1}, {[]int{2, math.MaxInt, math.MaxInt}, 0, -1},
	} {
		if got := impl.TreeEnd(fakes(c.kids...), c.at); got != c.want {
			t.Errorf("%v at %d: %d, not %d", c.kids, c.at, got, c.want)
		}
	}
	long := fakes(make([]int, 100000)...)
	for i := range long[:len(long)-1] {
		long[i].Kids = 1
	}
	if impl.TreeEnd(long, 0) != len(long) || impl.TreeEnd(long, len(long)-1) != len(long) {
		t.Error("a long list")
	}
}

// Promise 14.
func TestPartsOfTrees(t *testing.T) {
	for _, tree := range someTrees(t, 14, 3000) {
		for at, n := range tree {
			place := at + 1
			for range n.Kids {
				place = impl.TreeEnd(tree, place)
			}
			end := impl.TreeEnd(tree, at)
			if place != end || end <= at || end > len(tree) {
				t.Fatalf("%v at %d: the kids end at %d, it ends at %d", tree, at, place, end)
			}
			clause := n.Kind == impl.NRet || n.Kind == impl.NOp
			if impl.TreeOk(tree[at:end]) == clause {
				t.Fatalf("%v at %d: a part that is a clause: %v", tree, at, clause)
			}
			if end < len(tree) && impl.TreeOk(tree[at:end+1]) {
				t.Fatalf("%v at %d: more than one node", tree, at)
			}
		}
		if impl.TreeEnd(tree, 0) != len(tree) {
			t.Fatalf("%v ends elsewhere", tree)
		}
		if impl.TreeOk(tree[:len(tree)-1]) || impl.TreeOk(tree[1:]) && tree[0].Kids != 1 {
			t.Fatalf("%v: a piece is no tree", tree)
		}
	}
}

// namesOf is how many names a kind has.
func namesOf(k int) int {
	switch k {
	case impl.NVar, impl.NFn, impl.NLet, impl.NDo, impl.NRet:
		return 1
	case impl.NRec, impl.NCase:
		return 2
	case impl.NOp:
		return 3
	}
	return 0
}

// spoilt calls for a node with each of its fields made wrong, one at a time.
func spoilt(n node, call func(what string, bad node)) {
	fields := func(n *node) []*string { return []*string{&n.A, &n.B, &n.C} }
	for i := range fields(&n) {
		wrong := []string{"q"}
		if i < namesOf(n.Kind) {
			wrong = []string{"", "let", "unit", "Q", "abcdefghi", "1", "a b", "\xff", "x_"}
		}
		for _, s := range wrong {
			bad := n
			*fields(&bad)[i] = s
			call("name "+strconv.Itoa(i)+" "+strconv.Quote(s), bad)
		}
	}
	nums := []int{-1, 1, math.MaxInt, math.MinInt}
	switch n.Kind {
	case impl.NInt:
		nums = []int{-1, impl.LexMaxNum + 1, math.MaxInt, math.MinInt}
	case impl.NBool:
		nums = []int{-1, 2, math.MaxInt, math.MinInt}
	}
	for _, num := range nums {
		bad := n
		bad.Num = num
		call("Num "+strconv.Itoa(num), bad)
	}
	for _, kids := range []int{-1, n.Kids - 1, n.Kids + 1, 7, 300, math.MaxInt, math.MinInt} {
		bad := n
		bad.Kids = kids
		call("Kids "+strconv.Itoa(kids), bad)
	}
	for _, k := range []int{0, -1, 27, impl.NRet, impl.NOp, math.MaxInt, math.MinInt} {
		if bad := n; k != n.Kind {
			bad.Kind = k
			call("Kind "+strconv.Itoa(k), bad)
		}
	}
}

func TestTreeOkAsksForEachField(t *testing.T) {
	seen := map[int]bool{}
	eachSmall(func(tree []node) {
		if !impl.TreeOk(tree) {
			t.Errorf("refused: %v", tree)
		}
		for at, n := range tree {
			seen[n.Kind] = true
			spoilt(n, func(what string, bad node) {
				t2 := slices.Clone(tree)
				t2[at] = bad
				if impl.TreeOk(t2) {
					t.Errorf("%s at %d of %v is taken", what, at, tree)
				}
			})
		}
		if impl.TreeOk(join(tree, num(1))) || impl.TreeOk(tree[:len(tree)-1]) {
			t.Errorf("%v with one more or one less is taken", tree)
		}
	})
	if len(seen) != impl.NOp {
		t.Errorf("kinds seen: %d", len(seen))
	}
}

func TestTreeOkLimits(t *testing.T) {
	for _, c := range []struct {
		what string
		tree []node
		want bool
	}{
		{"none", nil, false}, {"an empty list", []node{}, false},
		{"300 nodes", sized(300), true}, {"301 nodes", sized(301), false}, {"many nodes", sized(5000), false},
		{"40 deep", nested(40), true}, {"41 deep", nested(41), false}, {"300 deep", nested(300), false},
		{"deep to the right", over(kind(impl.NAdd), num(1), nested(39)), true}, {"too deep to the right", over(kind(impl.NAdd), num(1), nested(40)), false},
		{"deep to the left", over(kind(impl.NAdd), nested(39), num(1)), true}, {"too deep to the left", over(kind(impl.NAdd), nested(40), num(1)), false},
		{"a deep clause", over(kind(impl.NDeep), num(1), over(named(impl.NRet, "x"), nested(38))), true},
		{"a clause too deep", over(kind(impl.NDeep), num(1), over(named(impl.NRet, "x"), nested(39))), false},
		{"the least number", num(0), true}, {"the greatest number", num(999999999), true}, {"one more", num(1000000000), false},
		{"4 operations", handlerOf(impl.NDeep, "a", "b", "c", "d"), true}, {"5 operations", handlerOf(impl.NDeep, "a", "b", "c", "d", "e"), false},
		{"4 operations, shallow", handlerOf(impl.NShallow, "a", "b", "c", "d"), true}, {"5 operations, shallow", handlerOf(impl.NShallow, "a", "b", "c", "d", "e"), false},
		{"no operation", handlerOf(impl.NShallow), true},
		{"a name of 8", use("abcdefgh"), true}, {"a name of 9", use("abcdefghi"), false},
	} {
		if impl.TreeOk(c.tree) != c.want {
			t.Errorf("%s: not %v", c.what, c.want)
		}
	}
}

func TestTreeOkClauses(t *testing.T) {
	ret := over(named(impl.NRet, "r"), num(1))
	a, b := over(named(impl.NOp, "a", "u", "k"), num(1)), over(named(impl.NOp, "b", "u", "k"), num(1))
	handler := func(kids ...[]node) []node { return over(kind(impl.NDeep), kids...) }
	for _, c := range []struct {
		what string
		tree []node
		want bool
	}{
		{"ret alone", ret, false}, {"an operation alone", a, false},
		{"ret in a function", over(named(impl.NFn, "x"), ret), false}, {"an operation in a pair", over(kind(impl.NPair), num(1), a), false},
		{"ret in ret", handler(num(1), over(named(impl.NRet, "r"), ret)), false}, {"ret in an operation", handler(num(1), ret, over(named(impl.NOp, "a", "u", "k"), ret)), false},
		{"a body alone", []node{{Kind: impl.NDeep, Kids: 1}, {Kind: impl.NInt}}, false}, {"no ret", handler(num(1), a), false}, {"an expression for ret", handler(num(1), num(2)), false},
		{"ret behind an operation", handler(num(1), a, ret), false}, {"ret twice", handler(num(1), ret, ret), false}, {"ret first", handler(ret, num(1)), false}, {"ret for the body", handler(ret, ret), false}, {"an operation for the body", handler(a, ret), false},
		{"an expression behind ret", handler(num(1), ret, num(2)), false}, {"one behind an operation", handler(num(1), ret, a, num(2)), false},
		{"unlike operations", handler(num(1), ret, a, b), true}, {"the other way round", handler(num(1), ret, b, a), true}, {"alike operations", handler(num(1), ret, a, a), false}, {"alike ones apart", handler(num(1), ret, a, b, a), false},
		{"alike in two handlers", handler(handler(num(1), ret, a), ret, a), true}, {"alike within a clause", handler(num(1), ret, over(named(impl.NOp, "a", "u", "k"), handler(num(1), ret, a))), true},
		{"an operation's names alike", handler(num(1), ret, over(named(impl.NOp, "a", "u", "u"), num(1))), false}, {"named as the operation", handler(num(1), ret, over(named(impl.NOp, "a", "a", "k"), num(1))), true}, {"and the other one", handler(num(1), ret, over(named(impl.NOp, "a", "k", "a"), num(1))), true},
		{"a case's names alike", over(named(impl.NCase, "h", "h"), num(1), num(2), num(3)), false}, {"a function's names alike", over(named(impl.NRec, "f", "f"), num(1), num(2)), true},
	} {
		if impl.TreeOk(c.tree) != c.want {
			t.Errorf("%s: not %v", c.what, c.want)
		}
	}
}

func TestProgOk(t *testing.T) {
	do := over(named(impl.NDo, "h"), unit())
	for _, c := range []struct {
		what string
		p    prog
		want bool
	}{
		{"nothing", prog{}, false}, {"a number", prog{Tree: num(1)}, true}, {"operations alone", prog{Effs: manyEffs(1)}, false},
		{"8 operations", program(manyEffs(8), num(1)), true}, {"9 operations", program(manyEffs(9), num(1)), false},
		{"the last one is done", program(manyEffs(8), do), true}, {"it is not there", program(manyEffs(7), do), false},
		{"alike", program(append(manyEffs(2), manyEffs(1)...), num(1)), false},
		{"no name", program([]eff{op("", 1, 1)}, num(1)), false}, {"a key", program([]eff{op("do", 1, 1)}, num(1)), false}, {"a long name", program([]eff{op("abcdefghi", 1, 1)}, num(1)), false}, {"a name of 8", program([]eff{op("abcdefgh", 1, 1)}, num(1)), true},
		{"all bases", program([]eff{op("a", 1, 4), op("b", 2, 3), op("c", 3, 2), op("d", 4, 1)}, num(1)), true},
		{"Arg 0", program([]eff{op("a", 0, 1)}, num(1)), false}, {"Arg 5", program([]eff{op("a", 5, 1)}, num(1)), false}, {"Res 0", program([]eff{op("a", 1, 0)}, num(1)), false}, {"Res 5", program([]eff{op("a", 1, 5)}, num(1)), false}, {"Arg -1", program([]eff{op("a", -1, 1)}, num(1)), false},
		{"handled", program(manyEffs(2), handlerOf(impl.NDeep, "a", "b")), true}, {"handled, not there", program(manyEffs(2), handlerOf(impl.NDeep, "a", "c")), false}, {"shallow, not there", program(nil, handlerOf(impl.NShallow, "a")), false},
		{"free names", prog{Tree: use("x")}, true}, {"a bad tree", program(manyEffs(1), num(-1)), false}, {"301 nodes", prog{Tree: sized(301)}, false}, {"41 deep", prog{Tree: nested(41)}, false},
	} {
		if impl.ProgOk(c.p) != c.want {
			t.Errorf("%s: not %v", c.what, c.want)
		}
	}
}

// modelKnown is which names a node makes known in a kid, the last one innermost.
func modelKnown(n node, kid int) []string {
	switch n.Kind*10 + kid {
	case impl.NFn * 10, impl.NRet * 10, impl.NLet*10 + 1, impl.NRec*10 + 1:
		return []string{n.A}
	case impl.NRec * 10, impl.NCase*10 + 2:
		return []string{n.A, n.B}
	case impl.NOp * 10:
		return []string{n.B, n.C}
	}
	return nil
}

// modelVars is, for each NVar in order, how many names ahead, counted from the innermost, makes it known; -1 if none does.
func modelVars(t []node, at int, known []string, tell func(name string, ahead int)) int {
	n := t[at]
	if n.Kind == impl.NVar {
		ahead := -1
		for i, name := range known {
			if name == n.A {
				ahead = len(known) - i
			}
		}
		tell(n.A, ahead)
	}
	at++
	for kid := range n.Kids {
		at = modelVars(t, at, append(slices.Clone(known), modelKnown(n, kid)...), tell)
	}
	return at
}

func modelFree(t []node) []string {
	var free []string
	modelVars(t, 0, nil, func(name string, ahead int) {
		if ahead < 0 {
			free = append(free, name)
		}
	})
	slices.Sort(free)
	return slices.Compact(free)
}

func TestTreeFree(t *testing.T) {
	for _, c := range []struct {
		text string
		want []string
	}{
		{"x", []string{"x"}}, {"1", nil}, {"c b a b c", []string{"a", "b", "c"}}, {"a1 a b a10 ab", []string{"a", "a1", "a10", "ab", "b"}},
		{"fn x -> x y", []string{"y"}}, {"x (fn x -> x)", []string{"x"}}, {"let x = x in x", []string{"x"}}, {"let x = y in x", []string{"y"}},
		{"let rec f x = f x y in f x", []string{"x", "y"}}, {"let rec f f = f in f", nil}, {"let rec f x = g in x", []string{"g", "x"}},
		{"case h t of nil -> h | h :: t -> h t z", []string{"h", "t", "z"}}, {"case nil of nil -> t | h :: t -> t", []string{"t"}},
		{"handle r u k with ret r -> r u k | ask u k -> r u k end", []string{"k", "r", "u"}}, {"handle 1 with ret r -> r | ask u k -> u k end", nil}, {"shallow 1 with ret r -> 1 | ask u k -> r end", []string{"r"}},
		{"handle 1 with ret r -> k | ask u k -> 1 end", []string{"k"}}, {"do ask ask", []string{"ask"}}, {"handle 1 with ret x -> 1 | ask u k -> ask end", []string{"ask"}},
	} {
		p := mustRead(t, c.text)
		if got := impl.TreeFree(p.Tree); !slices.Equal(got, c.want) {
			t.Errorf("%q: %v, not %v", c.text, got, c.want)
		}
	}
	for _, tree := range someTrees(t, 15, 5000) {
		if got, want := impl.TreeFree(tree), modelFree(tree); !slices.Equal(got, want) {
			t.Fatalf("%v: %v, not %v", tree, got, want)
		}
	}
}

// Promise 15.
func TestLetMakesNamesKnown(t *testing.T) {
	for _, tree := range someTrees(t, 115, 3000) {
		free := impl.TreeFree(tree)
		for _, name := range append(slices.Clone(free), "other") {
			let := over(named(impl.NLet, name), num(1), tree)
			if len(let) > impl.TreeMaxNodes {
				continue
			}
			want := slices.DeleteFunc(slices.Clone(free), func(s string) bool { return s == name })
			if got := impl.TreeFree(let); !slices.Equal(got, want) {
				t.Fatalf("%v behind a let of %s: %v, not %v", tree, name, got, want)
			}
			inside := over(named(impl.NLet, name), tree, num(1))
			if got := impl.TreeFree(inside); !slices.Equal(got, free) {
				t.Fatalf("%v ahead of a let's in: %v, not %v", tree, got, free)
			}
		}
	}
}

func TestTreePlain(t *testing.T) {
	for _, c := range [][2]string{
		{"1", "1"}, {"fn x -> x", "fn v0 -> v0"}, {"fn v1 -> fn v0 -> v1 v0", "fn v0 -> fn v1 -> v0 v1"},
		{"let x = 1 in let x = x in x", "let v0 = 1 in let v1 = v0 in v1"}, {"let x = fn y -> y in fn z -> x z", "let v0 = fn v1 -> v1 in fn v2 -> v0 v2"},
		{"let rec f x = f x in f", "let rec v0 v1 = v0 v1 in v0"}, {"let rec f f = f in f", "let rec v0 v1 = v1 in v0"},
		{"fn l -> case l of nil -> l | h :: l -> h l", "fn v0 -> case v0 of nil -> v0 | v1 :: v2 -> v1 v2"},
		{"handle do ask () with ret ask -> ask | ask u k -> k (do ask u) | tell k u -> u k end", "handle do ask () with ret v0 -> v0 | ask v1 v2 -> v2 (do ask v1) | tell v3 v4 -> v4 v3 end"},
		{"shallow (fn x -> x) with ret x -> fn y -> x | ask x y -> fn z -> x y z end", "shallow fn v0 -> v0 with ret v1 -> fn v2 -> v1 | ask v3 v4 -> fn v5 -> v3 v4 v5 end"},
		{"fn a -> (fn b -> a b, fn c -> a c)", "fn v0 -> (fn v1 -> v0 v1, fn v2 -> v0 v2)"},
	} {
		p := mustRead(t, c[0])
		p.Tree = impl.TreePlain(p.Tree)
		p.Effs = askEffs()
		if got := impl.ProgText(p); got != impl.ProgText(mustRead(t, c[1])) {
			t.Errorf("%q: %q", c[0], got)
		}
	}
	for _, text := range []string{"x", "fn x -> y", "let x = x in x", "handle 1 with ret x -> 1 | ask u k -> x end"} {
		if got := impl.TreePlain(mustRead(t, text).Tree); len(got) != 0 {
			t.Errorf("%q: %v", text, got)
		}
	}
}

// modelPlain names anew by going through the list alone: names are counted as they come.
func modelPlain(tree []node) []node {
	plain := slices.Clone(tree)
	made := 0
	next := func(s *string) {
		*s = "v" + strconv.Itoa(made)
		made++
	}
	for i := range plain {
		switch n := &plain[i]; n.Kind {
		case impl.NFn, impl.NLet, impl.NRet:
			next(&n.A)
		case impl.NRec, impl.NCase:
			next(&n.A)
			next(&n.B)
		case impl.NOp:
			next(&n.B)
			next(&n.C)
		}
	}
	return plain
}

func TestTreePlainKeepsWhatIsMeant(t *testing.T) {
	closed := 0
	for _, tree := range someTrees(t, 16, 6000) {
		for _, name := range impl.TreeFree(tree) {
			tree = over(named(impl.NFn, name), tree)
		}
		if !impl.TreeOk(tree) {
			continue
		}
		closed++
		plain := impl.TreePlain(tree)
		want := modelPlain(tree)
		var ahead, plainAhead []int
		modelVars(tree, 0, nil, func(_ string, n int) { ahead = append(ahead, n) })
		if len(plain) != len(tree) {
			t.Fatalf("%v: %v", tree, plain)
		}
		modelVars(plain, 0, nil, func(_ string, n int) { plainAhead = append(plainAhead, n) })
		for i, n := range plain {
			if n.Kind == impl.NVar {
				n.A = want[i].A
			}
			if n != want[i] {
				t.Fatalf("%v: %v, not %v", tree, n, want[i])
			}
		}
		if !slices.Equal(ahead, plainAhead) || !impl.TreeOk(plain) || !slices.Equal(impl.TreePlain(plain), plain) {
			t.Fatalf("%v: %v", tree, plain)
		}
	}
	if closed < 3000 {
		t.Fatalf("only %d trees", closed)
	}
}

// badTrees are trees that are not ok, each for another reason.
func badTrees() [][]node {
	return [][]node{nil, sized(301), nested(41), join(num(1), num(2)), over(named(impl.NRet, "x"), use("x")), {{Kind: impl.NFn, A: "x", Kids: 1}}, num(-1), use("let"), {{Kind: 99}}, {{Kind: impl.NApp, Kids: math.MaxInt}}, {{Kind: impl.NApp, Kids: -1}}}
}

func TestBadTreesGiveNothing(t *testing.T) {
	for _, tree := range badTrees() {
		if impl.TreeOk(tree) || len(impl.TreePlain(tree)) != 0 || len(impl.TreeFree(tree)) != 0 || impl.ProgOk(prog{Tree: tree}) || impl.ProgText(prog{Tree: tree}) != "" {
			t.Errorf("%.200v", tree)
		}
	}
}

func TestTreesAreNotWrittenInto(t *testing.T) {
	mark := node{Kind: 77, A: "mark"}
	markEff := eff{Name: "mark"}
	for _, text := range []string{"let x = 1 in fn y -> x y", "fn x -> y z x", "handle do ask () with ret x -> x | ask u k -> k 1 end", "b a b"} {
		kept := mustRead(t, text)
		p := prog{Effs: withSpare(kept.Effs, markEff), Tree: withSpare(kept.Tree, mark)}
		impl.TreeEnd(p.Tree, 0)
		impl.TreeOk(p.Tree)
		impl.ProgOk(p)
		impl.ProgText(p)
		plain := impl.TreePlain(p.Tree)
		free := impl.TreeFree(p.Tree)
		wantPlain, wantFree := slices.Clone(plain), slices.Clone(free)
		for i := range p.Tree[:len(p.Tree)+3] {
			p.Tree[:len(p.Tree)+3][i].A = "spoilt"
		}
		if !slices.Equal(plain, wantPlain) || !slices.Equal(free, wantFree) {
			t.Errorf("%q: an answer shares the tree's memory", text)
		}
		p.Tree = withSpare(kept.Tree, mark)
		again := impl.TreePlain(p.Tree)
		clear(again[:cap(again)])
		names := impl.TreeFree(p.Tree)
		clear(names[:cap(names)])
		impl.ProgOk(p)
		impl.ProgText(p)
		if !slices.Equal(p.Tree, kept.Tree) || !slices.Equal(p.Effs, kept.Effs) || !spareKept(p.Tree, mark) || !spareKept(p.Effs, markEff) {
			t.Errorf("%q: an argument is written into", text)
		}
	}
}
