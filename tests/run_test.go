package tests

import (
	"slices"
	"strconv"
	"testing"

	"loop.example/handrail/impl"
)

// codeOf is the code of an expression that may perform what askEffs has.
func codeOf(t *testing.T, text string) []ins {
	t.Helper()
	return compiled(t, mustRead(t, text))
}

func compiled(t *testing.T, p prog) []ins {
	t.Helper()
	c, ok := impl.Compile(p)
	if !ok {
		t.Fatalf("%s: no code", impl.ProgText(p))
	}
	return c
}

// ranTexts are programs of every kind that end with a value: handlers of both kinds, continuations that are gone on with never, once and many times, also in the clause of another handler; lists, pairs, functions that call themselves.
func ranTexts() []string {
	return []string{
		"let rec f n = if n < 1 then nil else n :: f (n - 1) in f 6",
		"let rec f n = if n < 1 then (true, ()) else let p = f (n - 1) in (fst p, snd p) in f 5",
		"let rec f n = if n < 1 then 0 else let u = print n in n * 3 + f (n - 1) in f 7",
		"let rec map f = fn l -> case l of nil -> nil | a :: b -> f a :: map f b in map (fn x -> (x, x = 2)) (1 :: 2 :: 3 :: nil)",
		"let rec fold l = fn a -> case l of nil -> a | h :: t -> fold t (a + h) in fold (1 :: 2 :: 3 :: 4 :: nil) 0",
		"let a = 1 in let b = true in let c = () in let d = nil in ((a, b), (c, (d, fn x -> a)))",
		"let rec f n = fn x -> if n < 1 then x else f (n - 1) (n, x) in f 5 nil",
		"handle 1 + do ask () with ret r -> r | ask u k -> 10 end",
		"handle print (do ask () + do ask ()) with ret x -> 0 | ask u k -> 1 + k 20 end",
		"handle (do ask (), do ask ()) with ret r -> r :: nil | ask u k -> (case k 1 of nil -> nil | a :: b -> a :: k 2) end",
		"let k = handle 1 + do ask () with ret r -> r * 2 | ask u k -> k end in (k 1, k 2)",
		"let k = shallow 1 + do ask () with ret r -> r * 2 | ask u k -> k end in (k, (k 1, k 2))",
		"shallow (shallow do ask () + do ask () with ret r -> 0 | tell n k -> 0 end) with ret r -> 1 | ask u k -> (shallow k 1 with ret r -> 2 | ask u k -> (k 5, 3) end) end",
		"shallow (handle do ask () + (let a = do tell 5 in 1) with ret r -> r * 10 | tell n j -> (let u = print n in j ()) end) with ret r -> r + 1 | ask u k -> k 2 + k 3 end",
		"handle (handle do ask () + (let a = do tell 5 in 1) with ret r -> r * 10 | tell n j -> (let u = print n in j ()) end) with ret r -> r + 1 | ask u k -> k 2 + k 3 end",
		"shallow do ask () + do ask () with ret x -> x | ask y k -> handle k 10 with ret z -> z | ask q j -> j 100 end end",
		"let rec go n = if n = 0 then 0 else do ask () + go (n - 1) in handle go 4 with ret r -> r | ask u k -> k 2 end",
		"(handle (let rec go n = if n = 0 then 0 else let u = do tell (do ask () + n) in go (n - 1) in go 4) with ret r -> fn s -> (r, s) | tell n k -> fn s -> k () (n :: s) | ask u k -> fn s -> k (case s of nil -> 0 | a :: b -> a) s end) nil",
		"let rec deep n = if n = 0 then do ask () else shallow deep (n - 1) with ret r -> r + 1 | tell m k -> k () end in handle deep 3 with ret r -> r :: nil | ask u k -> case k 1 of nil -> nil | a :: b -> a :: k 2 end",
		"let rec all l = case l of nil -> nil | a :: b -> (if do x (a :: nil) then a :: all b else all b) in handle all (1 :: 2 :: nil) with ret r -> r :: nil | x l k -> (let rec app p = fn q -> case p of nil -> q | a :: b -> a :: app b q in app (k true) (k false)) end",
		"let rec f n = if n < 1 then 0 else let a = handle (let rec g x = if x < 1 then n else g (x - 1) in g 2) with ret r -> r + 1 end in f (n - 1) + a in f 4",
		"let rec pump f = fn s -> shallow f () with ret r -> (r, s) | tell n k -> pump (fn v -> k ()) (n :: s) end in pump (fn v -> let a = do tell 1 in let b = do tell 2 in let c = do tell 3 in 4) nil",
	}
}

// Promise 1: what the machine runs tells what the program means, at heaps of many sizes and at every number of scans; and each run is the model's, to the last word that is touched.
func TestRunsOfEverySize(t *testing.T) {
	flips := map[string]int{}
	for _, text := range ranTexts() {
		c, meant := codeOf(t, text), impl.MeanRun(mustRead(t, text), impl.MeanMaxFuel)
		if meant.End != impl.EndDone {
			t.Fatalf("%q: %v", text, meant)
		}
		ends := map[int]int{}
		for size := impl.HeapMinSize; size < 700; size += 1 + size/100*4 {
			for scans := size % 3; scans <= impl.HeapMaxScan; scans += 3 {
				r, met := checkRun(t, c, size, scans, impl.RunMaxFuel)
				ends[r.End]++
				switch r.End {
				case impl.EndDone:
					if !sameOutcome(r, meant) {
						t.Fatalf("%q on %d, scans %d: %v, not %v", text, size, scans, r, meant)
					}
					for where, many := range met {
						flips[where] += many
					}
				case impl.EndMemory:
					if !isBeginning(r.Trace, meant.Trace) {
						t.Fatalf("%q on %d, scans %d: %v, not %v", text, size, scans, r, meant)
					}
				default:
					t.Fatalf("%q on %d, scans %d: %v", text, size, scans, r)
				}
			}
		}
		if ends[impl.EndDone] < 50 || ends[impl.EndMemory] == 0 {
			t.Errorf("%q: %v", text, ends)
		}
	}
	// The spaces were changed for every object of every kind of step, and all was well behind it.
	for step, objects := range stepObjects() {
		for n := 1; n <= objects; n++ {
			if where := step + " " + strconv.Itoa(n); flips[where] == 0 {
				t.Errorf("the spaces were never changed at %s", where)
			}
		}
	}
}

// stepObjects is how many objects each kind of step makes.
func stepObjects() map[string]int {
	return map[string]int{
		"int": 1, "bool": 1, "unit": 1, "nil": 1, "var": 1, "clos": 2, "rec": 3, "app": 3, "resume": 3, "ret": 1, "bind": 1, "arith": 1, "pair": 2, "fst": 1, "snd": 1, "cons": 2, "case": 2, "print": 1,
		"handle": 3, "done": 1, "done of none": 1, "look": 3, "look past": 1, "back": 1, "back within": 1,
	}
}

func isBeginning(a, b []int) bool {
	return len(a) <= len(b) && slices.Equal(a, b[:len(a)])
}

// checkMeantRun asks for promise 1 of a program, with so many steps and so much room.
func checkMeantRun(t *testing.T, p prog, meant impl.Result, ran impl.Result) {
	t.Helper()
	cut := ran.End == impl.EndMemory || ran.End == impl.EndFuel
	switch {
	case cut && meant.End == impl.EndFuel:
		if !isBeginning(ran.Trace, meant.Trace) && !isBeginning(meant.Trace, ran.Trace) {
			t.Fatalf("%s: %v, but it means %v", impl.ProgText(p), ran, meant)
		}
	case cut:
		if !isBeginning(ran.Trace, meant.Trace) {
			t.Fatalf("%s: %v, but it means %v", impl.ProgText(p), ran, meant)
		}
	case meant.End == impl.EndFuel:
		if !isBeginning(meant.Trace, ran.Trace) {
			t.Fatalf("%s: %v, but it means %v", impl.ProgText(p), ran, meant)
		}
	case !sameOutcome(ran, meant):
		t.Fatalf("%s: %v, but it means %v", impl.ProgText(p), ran, meant)
	}
}

// somePrograms calls for programs by chance without free names: such as fit, handled or not, and such as may get stuck.
func somePrograms(t *testing.T, seed uint64, many int, call func(m fitter, p prog)) {
	t.Helper()
	m := newFitter(seed)
	for range many {
		fits := m.whole(t)
		for _, p := range []prog{fits, handledWhole(fits, impl.NDeep), handledWhole(fits, impl.NShallow), m.mixed(t), m.wildWhole(), handledWhole(m.wildWhole(), impl.NShallow)} {
			if impl.ProgOk(p) && len(modelFree(p.Tree)) == 0 {
				call(m, p)
			}
		}
	}
}

// Promises 1 and 2, and the model, at programs by chance.
func TestRunsOfSomePrograms(t *testing.T) {
	ends := map[int]int{}
	somePrograms(t, 101, 1200, func(m fitter, p prog) {
		c, meant := compiled(t, p), impl.MeanRun(p, impl.MeanMaxFuel)
		_, code := impl.TypeOf(p)
		for range 3 {
			size := impl.HeapMinSize + m.IntN([]int{10, 60, 300, 1000}[m.IntN(4)])
			ran, _ := checkRun(t, c, size, m.IntN(1+impl.HeapMaxScan), m.IntN(3000))
			checkMeantRun(t, p, meant, ran)
			if code == impl.TypeOk && (ran.End == impl.EndStuck || ran.End == impl.EndOp) {
				t.Fatalf("%s has a type: %v", impl.ProgText(p), ran)
			}
			ends[ran.End]++
		}
		ran, _ := impl.RunCode(c, impl.HeapMaxSize, impl.HeapMaxScan, impl.RunMaxFuel)
		checkMeantRun(t, p, meant, ran)
		ends[ran.End]++
	})
	for _, end := range []int{impl.EndDone, impl.EndStuck, impl.EndOp, impl.EndFuel, impl.EndMemory} {
		if ends[end] < 100 {
			t.Errorf("too few: %v", ends)
		}
	}
}

// Promise 2: a program that has a type never gets stuck and never performs what nobody handles.
func TestTypedProgramsNeverGetStuck(t *testing.T) {
	typed := 0
	somePrograms(t, 2, 2000, func(m fitter, p prog) {
		if _, code := impl.TypeOf(p); code != impl.TypeOk {
			return
		}
		typed++
		c := compiled(t, p)
		for _, size := range []int{impl.HeapMaxSize, impl.HeapMinSize + m.IntN(200)} {
			r, _ := impl.RunCode(c, size, m.IntN(1+impl.HeapMaxScan), impl.RunMaxFuel)
			if r.End != impl.EndDone && r.End != impl.EndFuel && r.End != impl.EndFull && r.End != impl.EndMemory {
				t.Fatalf("%s on %d: %v", impl.ProgText(p), size, r)
			}
		}
		if r := impl.MeanRun(p, impl.MeanMaxFuel); r.End != impl.EndDone && r.End != impl.EndFuel && r.End != impl.EndFull {
			t.Fatalf("%s: %v", impl.ProgText(p), r)
		}
	})
	if typed < 2000 {
		t.Errorf("only %d have a type", typed)
	}
	// Those without one may.
	for text, end := range map[string]int{"1 2": impl.EndStuck, "print ()": impl.EndStuck, "do ask ()": impl.EndOp, "shallow do ask () + do ask () with ret r -> r | ask u k -> k 1 end": impl.EndOp, "1 :: 2": impl.EndStuck, "fst nil": impl.EndStuck, "handle 1 with ret r -> r 1 end": impl.EndStuck, "handle do tell 1 with ret r -> r | ask u k -> k 1 end": impl.EndOp} {
		if _, code := impl.TypeOf(mustRead(t, text)); code == impl.TypeOk {
			t.Errorf("%q has a type", text)
		}
		if r, _ := impl.RunCode(codeOf(t, text), 100, 1, 1000); r.End != end {
			t.Errorf("%q: %v", text, r)
		}
	}
}

// Promise 4: how large the heap is, and how much is collected at a time, is seen by nobody.
func TestHeapsAreNotSeen(t *testing.T) {
	both := 0
	same := func(c []ins, sizes []int, scans []int) {
		t.Helper()
		whole, _ := impl.RunCode(c, impl.HeapMaxSize, 5, 20000)
		for i, size := range sizes {
			r, _ := impl.RunCode(c, size, scans[i], 20000)
			switch {
			case r.End != impl.EndMemory && whole.End != impl.EndMemory:
				both++
				if !sameResult(r, whole) {
					t.Fatalf("%s on %d, scans %d: %v, not %v", impl.CodeText(c), size, scans[i], r, whole)
				}
			case r.Steps <= whole.Steps:
				// Ahead of the step that had no room they are the same.
				less, _ := impl.RunCode(c, size, scans[i], r.Steps-1)
				more, _ := impl.RunCode(c, impl.HeapMaxSize, 5, r.Steps-1)
				if !sameResult(less, more) || less.End != impl.EndFuel || !isBeginning(r.Trace, whole.Trace) {
					t.Fatalf("%s on %d, scans %d: %v, %v, but %v", impl.CodeText(c), size, scans[i], r, less, more)
				}
			}
		}
	}
	var sizes, scans []int
	for i := range 120 {
		sizes, scans = append(sizes, impl.HeapMinSize+5*i), append(scans, i%(1+impl.HeapMaxScan))
	}
	for _, text := range ranTexts() {
		same(codeOf(t, text), sizes, scans)
	}
	for _, text := range []string{"let rec f n = let u = print n in f (n + 1) in f 0", "let rec f n = if n = 0 then 1 2 else let u = print n in f (n - 1) in f 9", "let rec f n = if n = 0 then do ask () else let u = print n in f (n - 1) in f 9"} {
		same(codeOf(t, text), sizes, scans)
	}
	somePrograms(t, 4, 400, func(m fitter, p prog) {
		c := compiled(t, p)
		same(c, []int{impl.HeapMinSize + m.IntN(40), impl.HeapMinSize + m.IntN(300), 300 + m.IntN(3000)}, []int{m.IntN(21), m.IntN(21), m.IntN(3)})
	})
	if both < 3000 {
		t.Errorf("only %d had room", both)
	}
}

// Promise 6: more steps never change what came of fewer.
func TestMoreStepsChangeNothing(t *testing.T) {
	check := func(p prog, size, scans int) {
		t.Helper()
		c := compiled(t, p)
		whole, wholeStats := impl.RunCode(c, size, scans, impl.RunMaxFuel)
		var last impl.Result
		var lastStats impl.Stats
		for fuel := range min(whole.Steps, 300) {
			r, stats := impl.RunCode(c, size, scans, fuel)
			if r.End != impl.EndFuel || r.Steps != fuel || r.Value != "" || !isBeginning(last.Trace, r.Trace) || stats.Flips < lastStats.Flips || stats.Touch < lastStats.Touch || !isBeginning(r.Trace, whole.Trace) {
				t.Fatalf("%s on %d, scans %d, in %d: %v %v behind %v %v", impl.ProgText(p), size, scans, fuel, r, stats, last, lastStats)
			}
			last, lastStats = r, stats
		}
		for _, fuel := range []int{whole.Steps, whole.Steps + 1, whole.Steps + 77} {
			if fuel > impl.RunMaxFuel {
				continue
			}
			if r, stats := impl.RunCode(c, size, scans, fuel); !sameResult(r, whole) || stats != wholeStats {
				t.Fatalf("%s on %d, scans %d, in %d: %v %v, not %v %v", impl.ProgText(p), size, scans, fuel, r, stats, whole, wholeStats)
			}
		}
		if one, _ := impl.RunCode(c, size, scans, whole.Steps-1); one.End != impl.EndFuel || one.Steps != whole.Steps-1 {
			t.Fatalf("%s on %d, scans %d, a step less: %v", impl.ProgText(p), size, scans, one)
		}
		meant := impl.MeanRun(p, impl.MeanMaxFuel)
		for fuel := range min(meant.Steps, 100) {
			if r := impl.MeanRun(p, fuel); r.End != impl.EndFuel || r.Steps != fuel || !isBeginning(r.Trace, meant.Trace) {
				t.Fatalf("%s means in %d: %v, in more %v", impl.ProgText(p), fuel, r, meant)
			}
		}
	}
	for _, text := range ranTexts() {
		for i, size := range []int{impl.HeapMinSize, 50, 100, 170, 1000} {
			check(mustRead(t, text), size, 5*i)
		}
	}
	somePrograms(t, 6, 40, func(m fitter, p prog) {
		check(p, impl.HeapMinSize+m.IntN(200), m.IntN(21))
	})
}
