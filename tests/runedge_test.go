package tests

import (
	"math"
	"slices"
	"strconv"
	"strings"
	"testing"

	"loop.example/handrail/impl"
)

// Steps, and the words that each one touches, are counted by hand.
func TestStepsOfTheMachine(t *testing.T) {
	for _, c := range []struct {
		text    string
		touches []int
		end     int
		value   string
	}{
		{"1", []int{3, 2}, 0, "1"}, {"true", []int{3, 2}, 0, "true"}, {"()", []int{3, 2}, 0, "()"}, {"nil", []int{3, 2}, 0, "[]"}, {"fn x -> x", []int{6, 2}, 0, "fn"},
		{"1 + 2", []int{3, 3, 7, 2}, 0, "3"}, {"1 < 2", []int{3, 3, 7, 2}, 0, "true"}, {"(1, 2)", []int{3, 3, 10, 2}, 0, "(1, 2)"}, {"1 :: nil", []int{3, 3, 10, 2}, 0, "[1]"}, {"1 :: 2 :: nil", []int{3, 3, 3, 10, 11, 2}, 0, "[1 2]"}, {"snd (1, 2)", []int{3, 3, 10, 7, 2}, 0, "2"}, {"print 3", []int{3, 5, 2}, 0, "()"},
		{"let a = 1 in let b = 2 in a", []int{3, 5, 3, 5, 5, 1, 1, 2}, 0, "1"}, {"if true then 1 else 2", []int{3, 2, 3, 0, 2}, 0, "1"}, {"if false then 1 else 2", []int{3, 2, 3, 2}, 0, "2"},
		{"case nil of nil -> 1 | a :: b -> 2", []int{3, 2, 3, 2}, 0, "1"}, {"case 1 :: nil of nil -> 0 | a :: b -> a", []int{3, 3, 10, 11, 5, 1, 1, 0, 2}, 0, "1"},
		{"(fn x -> x) 5", []int{6, 3, 16, 4, 9, 2}, 0, "5"}, {"let rec f x = x in f 5", []int{10, 5, 4, 3, 16, 4, 9, 1, 2}, 0, "5"},
		{"handle 1 with ret r -> r end", []int{12, 3, 9, 4, 9, 2}, 0, "1"}, {"handle do ask () with ret r -> r | ask u k -> 7 end", []int{12, 3, 2, 16, 3, 9, 2}, 0, "7"},
		{"handle do ask () with ret r -> r | ask u k -> k 7 end", []int{12, 3, 2, 16, 4, 3, 22, 6, 9, 4, 9, 9, 2}, 0, "7"}, {"shallow do ask () with ret r -> r + 1 | ask u k -> k 7 end", []int{12, 3, 2, 16, 4, 3, 22, 6, 13, 9, 2}, 0, "7"},
		{"handle (handle do ask () with ret r -> r | tell u k -> 1 end) with ret r -> r | ask u k -> k 7 end", []int{12, 12, 3, 2, 5, 16, 4, 3, 22, 12, 6, 9, 4, 9, 9, 4, 9, 9, 2}, 0, "7"},
		{"1 2", []int{3, 3, 4}, impl.EndStuck, ""}, {"nil 2", []int{3, 3, 4}, impl.EndStuck, ""}, {"(1, 2) 3", []int{3, 3, 10, 3, 5}, impl.EndStuck, ""}, {"print ()", []int{3, 2}, impl.EndStuck, ""}, {"if 1 then 2 else 3", []int{3, 2}, impl.EndStuck, ""}, {"fst 1", []int{3, 2}, impl.EndStuck, ""}, {"case 1 of nil -> 1 | a :: b -> 2", []int{3, 2}, impl.EndStuck, ""}, {"1 :: 2", []int{3, 3, 4}, impl.EndStuck, ""}, {"1 + true", []int{3, 3, 4}, impl.EndStuck, ""}, {"do ask ()", []int{3, 2, 0}, impl.EndOp, ""}, {"handle do ask () with ret r -> r | tell u k -> k 1 end", []int{12, 3, 2, 5, 0}, impl.EndOp, ""},
	} {
		code, most := codeOf(t, c.text), 0
		for fuel, touches := range c.touches {
			if r, stats := impl.RunCode(code, 1000, 3, fuel); r.End != impl.EndFuel || r.Steps != fuel || r.Value != "" || stats != (impl.Stats{Touch: most}) {
				t.Errorf("%q in %d: %v %v, not %d", c.text, fuel, r, stats, most)
			}
			most = max(most, touches)
		}
		for _, fuel := range []int{len(c.touches), len(c.touches) + 1, impl.RunMaxFuel} {
			if r, stats := impl.RunCode(code, 1000, 3, fuel); r.End != c.end || r.Steps != len(c.touches) || r.Value != c.value || stats != (impl.Stats{Touch: most}) {
				t.Errorf("%q in %d: %v %v, not %d in %d touching %d", c.text, fuel, r, stats, c.end, len(c.touches), most)
			}
		}
	}
}

// wantRun asks for the end, the steps and the stats of a run.
func wantRun(t *testing.T, c []ins, size, scans, fuel int, end, steps, flips, touch int) {
	t.Helper()
	checkRun(t, c, size, scans, fuel)
	r, stats := impl.RunCode(c, size, scans, fuel)
	if r.End != end || r.Steps != steps || stats.Flips != flips || stats.Touch != touch {
		t.Errorf("on %d, scans %d, in %d: %v %v, not %d in %d, flips %d, touching %d", size, scans, fuel, r, stats, end, steps, flips, touch)
	}
}

// Changes of the spaces, and what they touch, counted by hand.
func TestChangesOfSpaces(t *testing.T) {
	// Two objects of three words a round, and none of them is needed behind it: each seventh one finds no room on 20 words.
	loop := []ins{does(impl.IUnit), does(impl.IBind), does(impl.IDrop), does(impl.IJump, 0)}
	for _, scans := range []int{0, 1, impl.HeapMaxScan} {
		for fuel, flips := range map[int]int{0: 0, 12: 0, 13: 1, 24: 1, 25: 2, 4000: 333} {
			touch := 5
			if fuel == 0 {
				touch = 0
			}
			wantRun(t, loop, 20, scans, fuel, impl.EndFuel, fuel, flips, touch)
		}
		if r, stats := impl.RunCode(loop, 20, scans, impl.RunMaxFuel); r.End != impl.EndFuel || r.Steps != impl.RunMaxFuel || stats != (impl.Stats{Flips: 16666, Touch: 5}) {
			t.Errorf("scans %d: %v %v", scans, r, stats)
		}
	}
	// Six cells fit. For the seventh one the last is copied, and both are there; what is not looked through has no room in the end.
	cells := slices.Concat(many(does(impl.IUnit), 90), spent(90))
	wantRun(t, cells, 20, 0, 100, impl.EndMemory, 12, 1, 13)
	// Looked through one by one: each time the copy leads to one more, until the sixth one has no room.
	wantRun(t, cells, 20, 1, 100, impl.EndMemory, 10, 1, 15)
	// All at once: four cells are copied, the fifth one has no room. What the last step touched counts.
	wantRun(t, cells, 20, 20, 100, impl.EndMemory, 8, 1, 52)
	wantRun(t, cells, 20, 20, 8, impl.EndMemory, 8, 1, 52)
	wantRun(t, cells, 20, 20, 7, impl.EndFuel, 7, 1, 13)
	wantRun(t, cells, 20, 20, 6, impl.EndFuel, 6, 0, 3)
	// A hundred names are moved by a step that goes to the first of them, just behind a change of spaces.
	names := slices.Concat(boundNames(100), []ins{does(impl.IBool), does(impl.ITest, 202), does(impl.IVar, 99), does(impl.IHalt)})
	wantRun(t, names, 600, 0, 1000, impl.EndDone, 204, 1, 994)
	wantRun(t, names, 600, 20, 1000, impl.EndDone, 204, 1, 1054)
	// One cell more fits: the names are read ahead of the change, and the last one alone is moved.
	wantRun(t, names, 603, 0, 1000, impl.EndDone, 204, 1, 111)
}

// askedAfresh is code in which an instruction pops what a change of spaces has just copied, with the place of that instruction. Of objects of three words six fit on 20 words: for the seventh one the spaces are changed. The body of a function is at 1.
func askedAfresh(values []ins, objects int, o int) ([]ins, int) {
	c := slices.Concat([]ins{does(impl.IJump, 3), does(impl.IUnit), does(impl.IRet)}, values)
	for ; objects <= 6; objects++ {
		c = append(c, does(impl.IBool), does(impl.ITest, len(c)+2))
	}
	at := len(c)
	switch o {
	case impl.IFst, impl.ISnd:
		return slices.Concat(c, []ins{does(o)}, spent(2)), at
	case impl.ICase:
		return slices.Concat(c, []ins{does(o, at+2)}, spent(1), spent(1)), at
	}
	return slices.Concat(c, []ins{does(o)}, spent(1)), at
}

// To ask for an object's kind touches its first word, whatever comes of it; a word that leads to no object has none to touch. Counted by hand.
func TestKindsThatAreAskedFor(t *testing.T) {
	unit, nothing, clos := does(impl.IUnit), does(impl.INil), does(impl.IClos, 1)
	pair, cons := does(impl.IPair), does(impl.ICons)
	for _, c := range []struct {
		values  []ins
		objects int
		op      int
		end     int
		touch   int
	}{
		// Two pops, in which a cell and what was called are moved, 22; the first word 1.
		{[]ins{unit, unit, pair, unit}, 5, impl.IApp, impl.EndStuck, 23}, {[]ins{unit, nothing, cons, unit}, 5, impl.IApp, impl.EndStuck, 23},
		// Behind it a frame 3, its cell 3, two fields 2; there is no room for the name.
		{[]ins{clos, unit}, 3, impl.IApp, impl.EndMemory, 31},
		// No object is called: two pops, in which one cell is moved, 13, are no more than the change of spaces.
		{[]ins{nothing, unit}, 2, impl.IApp, impl.EndStuck, 13}, {[]ins{unit, unit}, 2, impl.IApp, impl.EndStuck, 13},
		// A pop, in which the object and a cell are moved, 20; the first word 1; a field 1; a cell 3.
		{[]ins{unit, unit, unit, pair}, 5, impl.IFst, impl.EndFuel, 25}, {[]ins{unit, unit, unit, pair}, 5, impl.ISnd, impl.EndFuel, 25},
		{[]ins{unit, unit, nothing, cons}, 5, impl.IFst, impl.EndStuck, 21}, {[]ins{unit, clos}, 3, impl.ISnd, impl.EndStuck, 21},
		// Two pops 22, the first word 1; the object 3, its cell 3.
		{[]ins{unit, unit, nothing, cons}, 5, impl.ICons, impl.EndFuel, 29}, {[]ins{unit, unit, unit, pair}, 5, impl.ICons, impl.EndStuck, 23}, {[]ins{unit, clos}, 3, impl.ICons, impl.EndStuck, 23},
		// Behind no object: two pops 13; the object 3, its cell 3.
		{[]ins{unit, nothing}, 2, impl.ICons, impl.EndFuel, 19}, {[]ins{unit, unit}, 2, impl.ICons, impl.EndStuck, 13},
		// A pop 20, the first word 1; two fields 2, two cells 6.
		{[]ins{unit, unit, nothing, cons}, 5, impl.ICase, impl.EndFuel, 29}, {[]ins{unit, unit, unit, pair}, 5, impl.ICase, impl.EndStuck, 21}, {[]ins{unit, clos}, 3, impl.ICase, impl.EndStuck, 21},
	} {
		code, at := askedAfresh(c.values, c.objects, c.op)
		// The change of spaces: Stk's cell moved 8, its new address read 2, a cell 3.
		wantRun(t, code, 20, 0, at-2, impl.EndFuel, at-2, 1, 13)
		wantRun(t, code, 20, 0, at-1, c.end, at-1, 1, c.touch)
	}
}

// The limits may be met exactly; one more, or one less, is refused.
func TestLimitsOfRuns(t *testing.T) {
	c := codeOf(t, "let rec f n = if n < 1 then 0 else f (n - 1) in f 1")
	for _, size := range []int{impl.HeapMinSize, impl.HeapMinSize + 1, impl.HeapMaxSize - 1, impl.HeapMaxSize} {
		for _, scans := range []int{0, 1, impl.HeapMaxScan - 1, impl.HeapMaxScan} {
			for _, fuel := range []int{0, 1, impl.RunMaxFuel - 1, impl.RunMaxFuel} {
				if r, _ := checkRun(t, c, size, scans, fuel); r.End == impl.EndBad {
					t.Errorf("size %d, scans %d, fuel %d: %v", size, scans, fuel, r)
				}
			}
		}
	}
	far := []int{math.MaxInt, math.MinInt, 1 << 32, -1 << 32, 1<<63 - 2, 1 << 62}
	for _, size := range append(far, impl.HeapMinSize-1, impl.HeapMaxSize+1, 0, -1, -20, -4000) {
		wantBad(t, c, size, 1, 1)
	}
	for _, scans := range append(far, -1, impl.HeapMaxScan+1) {
		wantBad(t, c, 100, scans, 1)
	}
	for _, fuel := range append(far, -1, impl.RunMaxFuel+1) {
		wantBad(t, c, 100, 1, fuel)
	}
	if r, stats := impl.RunCode(c, 100, 1, 0); r.End != impl.EndFuel || r.Steps != 0 || len(r.Trace) != 0 || r.Value != "" || stats != (impl.Stats{}) {
		t.Error(r, stats)
	}
	endless := []ins{does(impl.IJump)}
	if r, stats := impl.RunCode(endless, 20, 0, impl.RunMaxFuel); r.End != impl.EndFuel || r.Steps != impl.RunMaxFuel || stats != (impl.Stats{}) {
		t.Error(r, stats)
	}
}

func wantBad(t *testing.T, c []ins, size, scans, fuel int) {
	t.Helper()
	r, stats := impl.RunCode(c, size, scans, fuel)
	if !sameResult(r, impl.Result{End: impl.EndBad}) || stats != (impl.Stats{}) {
		t.Errorf("%v on %d, scans %d, in %d: %v %v", c, size, scans, fuel, r, stats)
	}
}

// Code that is not CodeOk, in each of its ways.
func TestCodeThatIsNotRun(t *testing.T) {
	wrong := [][]ins{
		nil, {}, {does(impl.IUnit)}, {does(impl.IHalt)}, {does(impl.IUnit), does(impl.IUnit), does(impl.IHalt)}, {does(impl.IUnit), does(impl.IRet)}, {does(impl.IUnit), does(impl.IDone)}, {does(impl.ITab)}, {does(impl.ITabOp)},
		{does(impl.IVar), does(impl.IHalt)}, {does(impl.IUnit), does(impl.IApp), does(impl.IHalt)}, {does(impl.IUnit), does(impl.IPair), does(impl.IHalt)}, {does(impl.IDrop), does(impl.IUnit), does(impl.IHalt)}, {does(impl.IBind), does(impl.IUnit), does(impl.IHalt)}, {does(impl.IJump, 1)}, {does(impl.IJump, 65535)}, {does(impl.IUnit), does(impl.IJump)},
		{does(impl.IClos, 2), does(impl.IHalt)}, {does(impl.IClos, 2), does(impl.IHalt), does(impl.IRet)}, {does(impl.IClos, 2), does(impl.IHalt), does(impl.IUnit), does(impl.IHalt)}, {does(impl.IHandle, 3, 1, 2), does(impl.IUnit), does(impl.IDone)}, handled(0, 3, 4), handled(1, 5, 5), handled(99, 1, 1),
		slices.Concat(many(does(impl.IUnit), 101), spent(101)), append(boundNames(101), does(impl.IUnit), does(impl.IHalt)), append(many(does(impl.IUnit), 1), append(many(does(impl.IFst), impl.CodeMaxIns-1), does(impl.IHalt))...),
	}
	for _, i := range wrongIns() {
		wrong = append(wrong, []ins{does(impl.IUnit), does(impl.IHalt), i})
	}
	for _, c := range wrong {
		if impl.CodeOk(c) {
			t.Fatalf("%v is ok", c)
		}
		for _, fuel := range []int{0, 1, 100} {
			wantBad(t, c, 100, 2, fuel)
		}
		wantBad(t, c, 19, -1, -1)
	}
	most := append(many(does(impl.IUnit), 1), append(many(does(impl.IPrint), impl.CodeMaxIns-2), does(impl.IHalt))...)
	if r, _ := impl.RunCode(most, 100, 2, 100); r.End != impl.EndStuck || r.Steps != 2 {
		t.Error(r)
	}
}

// Each value, where each instruction asks for another one.
func TestValuesOfOtherKinds(t *testing.T) {
	values := map[string]string{"int": "1", "bool": "true", "unit": "()", "nil": "nil", "pair": "(1, 2)", "cons": "(1 :: nil)", "fn": "(fn x -> 7)", "rec": "(let rec f x = 7 in f)", "cont": "(handle do ask () with ret r -> 7 | ask u k -> k end)", "shallow": "(shallow do ask () with ret r -> r | ask u k -> k end)"}
	asked := map[string]string{
		"if V then 7 else 7": "bool", "V + 1": "int", "1 + V": "int", "V - 1": "int", "1 * V": "int", "V = 1": "int", "1 < V": "int", "V < V": "int", "fst V": "pair", "snd V": "pair", "7 :: V": "nil cons", "case V of nil -> 7 | a :: b -> 7": "nil cons", "print V": "int", "V 7": "fn rec cont shallow", "V V": "fn rec cont shallow",
		"(V, 7)": "int bool unit nil pair cons fn rec cont shallow", "V :: nil": "int bool unit nil pair cons fn rec cont shallow", "let a = V in a": "int bool unit nil pair cons fn rec cont shallow", "handle do tell V with ret r -> r | tell v k -> k v end": "int bool unit nil pair cons fn rec cont shallow",
	}
	for text, fine := range asked {
		for name, value := range values {
			whole := strings.ReplaceAll(text, "V", value)
			want := impl.EndStuck
			if slices.Contains(strings.Fields(fine), name) {
				want = impl.EndDone
			}
			for size := 60; size < 140; size++ {
				r, _ := checkRun(t, codeOf(t, whole), size, size%5, 1000)
				if r.End != want && r.End != impl.EndMemory || size > 130 && r.End != want {
					t.Errorf("%q on %d: %v, not %d", whole, size, r, want)
				}
			}
			if r, meant := first(impl.RunCode(codeOf(t, whole), 1000, 1, 1000)), impl.MeanRun(mustRead(t, whole), 1000); !sameOutcome(r, meant) {
				t.Errorf("%q: %v, but it means %v", whole, r, meant)
			}
		}
	}
}

func first(r impl.Result, _ impl.Stats) impl.Result { return r }

// Code that is CodeOk but that Compile never makes.
func TestCodeThatIsNotCompiled(t *testing.T) {
	run := func(end int, value string, c ...ins) {
		t.Helper()
		for size := 100; size < 110; size++ {
			if r, _ := checkRun(t, c, size, size%4, 1000); r.End != end || r.Value != value {
				t.Errorf("%v: %v, not %d %q", c, r, end, value)
			}
		}
	}
	one, two := does(impl.IInt, 1), does(impl.IInt, 2)
	halt, ret := does(impl.IHalt), does(impl.IRet)
	// Names that are left behind, and dropped ahead of their use's end.
	run(impl.EndDone, "1", one, does(impl.IBind), two, does(impl.IBind), does(impl.IVar, 1), halt)
	run(impl.EndDone, "2", one, two, does(impl.IBind), does(impl.IDrop), does(impl.IBind), two, halt)
	run(impl.EndDone, "fn", one, does(impl.IBind), does(impl.IClos, 5), does(impl.IDrop), halt, does(impl.IVar, 1), ret)
	// Of two clauses for one operation the first one is taken.
	run(impl.EndDone, "1", does(impl.IHandle, 5, 1, 4), does(impl.IUnit), does(impl.IDo, 9), does(impl.IDone), halt, does(impl.ITab, 11, 3), does(impl.ITabOp, 8, 10), does(impl.ITabOp, 9, 9), does(impl.ITabOp, 9, 10), does(impl.IJump, 13), does(impl.IJump, 15), does(impl.IUnit), ret, one, ret, two, ret)
	// An operation of a number that no program has, that nobody handles.
	run(impl.EndOp, "", does(impl.IUnit), does(impl.IDo, 65535), halt)
	// A handler whose end is not behind its body, and that leaves values below alone.
	run(impl.EndDone, "(1, 2)", one, does(impl.IHandle, 4, 0, 7), two, does(impl.IDone), does(impl.ITab, 5), does(impl.IVar), ret, does(impl.IPair), halt)
	// A function that is entered as another one's is, by a jump; what is tested is no boolean.
	run(impl.EndDone, "2", does(impl.IClos, 4), one, does(impl.IApp), halt, does(impl.IJump, 6), ret, two, ret)
	run(impl.EndStuck, "", does(impl.INil), does(impl.ITest, 2), one, halt)
	// The least and the most number.
	run(impl.EndDone, "-2147483648", does(impl.IInt, math.MinInt32), halt)
	run(impl.EndDone, "2147483647", does(impl.IInt, math.MinInt32), one, does(impl.IArith, impl.NSub), halt)
	run(impl.EndDone, "-2147483648", does(impl.IInt, math.MaxInt32), one, does(impl.IArith, impl.NAdd), halt)
	run(impl.EndDone, "1", does(impl.IInt, math.MaxInt32), does(impl.IInt, math.MaxInt32), does(impl.IArith, impl.NMul), halt)
	run(impl.EndDone, "true", does(impl.IInt, math.MinInt32), does(impl.IInt, math.MaxInt32), does(impl.IArith, impl.NLt), halt)
	run(impl.EndDone, "((), ())", does(impl.IInt, math.MinInt32), does(impl.IPrint), does(impl.IInt, math.MaxInt32), does(impl.IPrint), does(impl.IPair), halt)
}

// bentOften is code that is CodeOk after many changes by chance.
func bentOften(m fitter, c []ins) []ins {
	for range 2 + m.IntN(40) {
		if other := bent(m, c); impl.CodeOk(other) {
			c = other
		}
	}
	return c
}

func TestModelOfStrayCodeAgrees(t *testing.T) {
	ends, stuck := map[int]int{}, map[int]int{}
	somePrograms(t, 55, 900, func(m fitter, p prog) {
		c := bentOften(m, compiled(t, p))
		size := impl.HeapMinSize + m.IntN([]int{30, 300, 3981}[m.IntN(3)])
		scans, fuel := m.IntN(1+impl.HeapMaxScan), m.IntN(2000)
		r, _ := checkRun(t, c, size, scans, fuel)
		ends[r.End]++
		if r.End == impl.EndStuck {
			stuck[lastDone(c, size, scans, r.Steps)]++
		}
	})
	for _, end := range []int{impl.EndDone, impl.EndFuel, impl.EndStuck, impl.EndOp, impl.EndMemory} {
		if ends[end] < 50 {
			t.Errorf("too few: %v", ends)
		}
	}
	for _, o := range []int{impl.ITest, impl.IArith, impl.IFst, impl.ICase, impl.ICons, impl.IPrint, impl.IApp} {
		if stuck[o] < 3 {
			t.Errorf("%s: stuck only %d times", insForms()[o].word, stuck[o])
		}
	}
}

// lastDone is the instruction of the last one of so many steps.
func lastDone(c []ins, size, scans, steps int) int {
	m := newModelMachine(c, size, scans)
	for range steps - 1 {
		m.step()
	}
	return c[m.place].Op
}

// At heaps with too little room a run ends with EndMemory, wherever that is; ahead of it all is as with more room.
func TestMemoryEndsAtEveryStep(t *testing.T) {
	ended := map[int]bool{}
	for _, text := range ranTexts() {
		c := codeOf(t, text)
		whole, _ := impl.RunCode(c, impl.HeapMaxSize, 0, impl.RunMaxFuel)
		for size := impl.HeapMinSize; size < 300; size += 1 + size/60 {
			for _, scans := range []int{0, 1, 4, impl.HeapMaxScan} {
				r, _ := impl.RunCode(c, size, scans, impl.RunMaxFuel)
				if r.End != impl.EndMemory {
					continue
				}
				ended[r.Steps] = true
				if r.Value != "" || !isBeginning(r.Trace, whole.Trace) || r.Steps > whole.Steps {
					t.Fatalf("%q on %d, scans %d: %v, not a beginning of %v", text, size, scans, r, whole)
				}
				if less, _ := impl.RunCode(c, size, scans, r.Steps-1); less.End != impl.EndFuel {
					t.Fatalf("%q on %d, scans %d: %v, a step less %v", text, size, scans, r, less)
				}
			}
		}
	}
	for step := 9; step < 60; step++ {
		if !ended[step] {
			t.Errorf("none ended at step %d", step)
		}
	}
	// A number that is printed is printed, though the step has no room for the unit.
	full := slices.Concat(many(does(impl.INil), 10), []ins{does(impl.IInt, 5), does(impl.IPrint)}, spent(11))
	if r, _ := checkRun(t, full, 20, 0, 100); r.End != impl.EndMemory || r.Steps != 12 || !slices.Equal(r.Trace, []int{5}) {
		t.Error(r)
	}
}

func TestPrintedNumbersOfRuns(t *testing.T) {
	prints := func(last string, many int) []ins {
		return codeOf(t, "let rec f n = if n = 0 then "+last+" else let u = print n in f (n - 1) in f "+strconv.Itoa(many))
	}
	for _, c := range []struct {
		last  string
		many  int
		end   int
		value string
	}{{"8", 199, impl.EndDone, "8"}, {"8", 200, impl.EndDone, "8"}, {"8", 201, impl.EndFull, ""}, {"8", 250, impl.EndFull, ""}, {"print ()", 200, impl.EndStuck, ""}, {"print 0", 200, impl.EndFull, ""}, {"do tell 0", 200, impl.EndOp, ""}} {
		for _, scans := range []int{1, 3, impl.HeapMaxScan} {
			r, _ := checkRun(t, prints(c.last, c.many), impl.HeapMaxSize, scans, impl.RunMaxFuel)
			if r.End != c.end || r.Value != c.value || len(r.Trace) != min(c.many, impl.MeanMaxTrace) || r.Trace[0] != c.many || r.Trace[len(r.Trace)-1] != max(c.many-199, 1) {
				t.Errorf("%q, %d: %v", c.last, c.many, r)
			}
			if less, _ := impl.RunCode(prints(c.last, c.many), impl.HeapMaxSize, scans, r.Steps-1); less.End != impl.EndFuel || !slices.Equal(less.Trace, r.Trace) {
				t.Errorf("%q, %d, a step less: %v", c.last, c.many, less)
			}
		}
	}
}

// Values of as many parts as may be written, and one more, wherever they lie.
func TestPartsOfValuesOfRuns(t *testing.T) {
	list := "let rec f n = if n = 0 then LAST else n :: f (n - 1) in f "
	pairs := "let rec f n = if n = 0 then 0 else (n, f (n - 1)) in f "
	var texts []string
	for _, n := range []int{0, 1, 58, 59, 60, 61, 70} {
		for _, last := range []string{"nil", "(1, 2) :: 3 :: nil", "nil :: 1 :: nil", "(1 :: 2 :: nil) :: 3 :: nil", "(fn x -> x) :: f :: nil"} {
			texts = append(texts, strings.Replace(list, "LAST", last, 1)+strconv.Itoa(n))
		}
	}
	for _, n := range []int{1, 28, 29, 30, 31, 40} {
		texts = append(texts, pairs+strconv.Itoa(n), "("+pairs+strconv.Itoa(n)+", true)")
	}
	texts = append(texts, "let rec f n = if n = 0 then () else f (n - 1) in f", "shallow do ask () with ret r -> r | ask u k -> (k, k) end", "let rec f n = fn v -> if n = 0 then v else f (n - 1) (v, v) in f 12 ()", "let rec f n = fn v -> if n = 0 then v else f (n - 1) (v :: v) in f 9 nil")
	moving := 0
	for _, text := range texts {
		c, meant := codeOf(t, text), impl.MeanRun(mustRead(t, text), impl.MeanMaxFuel)
		if meant.End != impl.EndDone {
			t.Fatalf("%q: %v", text, meant)
		}
		for size := 100; size < 2500; size += 1 + size/20 {
			r, flips := checkRun(t, c, size, size%3, impl.RunMaxFuel)
			if r.End != impl.EndMemory && !sameOutcome(r, meant) {
				t.Fatalf("%q on %d: %v, not %v", text, size, r, meant)
			}
			if r.End == impl.EndDone && len(flips) > 0 {
				moving++
			}
		}
	}
	if moving < 300 {
		t.Errorf("only %d changed the spaces", moving)
	}
}

// Promise 5: no step of the machine is longer than told.
func TestNoStepIsLong(t *testing.T) {
	count := "let rec f n = if n < 1 then 0 else 1 + f (n - 1) in f "
	handlers := "let rec f n = if n = 0 then do ask () else handle 1 + f (n - 1) with ret r -> r | tell u k -> 1 end in handle f N with ret r -> r | ask u k -> k 1 + k 2 end"
	conts := "let rec f n = fn l -> if n = 0 then l else f (n - 1) ((handle (shallow do ask () with ret r -> r | tell u k -> 1 end) with ret r -> r | ask u k -> k end) :: l) in f N nil"
	most, changed := 0, 0
	check := func(text string, size int) {
		t.Helper()
		for _, scans := range []int{0, 1, 2, 7, impl.HeapMaxScan} {
			r, stats := impl.RunCode(codeOf(t, text), size, scans, impl.RunMaxFuel)
			if stats.Touch > impl.RunMaxTouch || stats.Touch == 0 {
				t.Fatalf("%q on %d, scans %d: %v %v", text, size, scans, r, stats)
			}
			most = max(most, stats.Touch)
			// So much is on the stack that to copy it all in one step would be longer than told.
			if strings.HasPrefix(text, count) && size >= 3300 && r.End == impl.EndDone && stats.Flips > 0 {
				changed++
			}
		}
	}
	for n := 40; n <= 280; n += 40 {
		for size := 300; size <= impl.HeapMaxSize; size += 370 {
			check(count+strconv.Itoa(n), size)
			check(strings.Replace(handlers, "N", strconv.Itoa(n/2), 1), size)
			check(strings.Replace(conts, "N", strconv.Itoa(n/4), 1), size)
		}
		check(count+strconv.Itoa(n), impl.HeapMaxSize)
	}
	somePrograms(t, 5, 300, func(m fitter, p prog) {
		for _, c := range [][]ins{compiled(t, p), bentOften(m, compiled(t, p))} {
			_, stats := impl.RunCode(c, impl.HeapMinSize+m.IntN(500), m.IntN(21), impl.RunMaxFuel)
			if stats.Touch > impl.RunMaxTouch {
				t.Fatalf("%s: %v", impl.CodeText(c), stats)
			}
			most = max(most, stats.Touch)
		}
	})
	if most < 800 || changed < 3 {
		t.Errorf("the longest step touched %d, and %d runs changed the spaces with much on the stack", most, changed)
	}
}

func TestRunsAreNewMemory(t *testing.T) {
	mark := does(77, 7, 7, 7)
	for _, text := range []string{"(print 1, (print 2, print 3))", "handle print (do ask ()) with ret r -> r | ask u k -> (k 1, k 2) end", "let rec f n = let u = print n in f (n + 1) in f 0", "(print 1, 1 2)", "(print 1, do ask ())"} {
		kept := codeOf(t, text)
		c := withSpare(kept, mark)
		before, _ := impl.RunCode(c, 500, 2, 3000)
		again, _ := impl.RunCode(c, 500, 2, 3000)
		clear(before.Trace[:cap(before.Trace)])
		third, _ := impl.RunCode(c, 500, 2, 3000)
		if !sameResult(again, third) || len(third.Trace) == 0 || third.Trace[0] == 0 && !strings.HasSuffix(text, "f 0") {
			t.Errorf("%q: two answers share memory", text)
		}
		if !slices.Equal(c, kept) || !spareKept(c, mark) {
			t.Errorf("%q: an argument is written into", text)
		}
	}
}
