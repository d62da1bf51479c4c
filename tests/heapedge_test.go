package tests

import (
	"math"
	"slices"
	"testing"

	"loop.example/handrail/impl"
)

// wantNoMake asks HeapMake for its answer at what it cannot make.
func wantNoMake(t *testing.T, h heap, roots []int, kind int, fields []int, scans int) {
	t.Helper()
	g, r, w, ok := checkMake(t, h, roots, kind, fields, scans)
	if !sameHeap(g, heap{}) || r != nil || w != 0 || ok {
		t.Errorf("%v, kind %d of %v, scans %d: %v %v %d %v", roots, kind, fields, scans, g, r, w, ok)
	}
}

func TestObjectsThatCannotBeMade(t *testing.T) {
	for _, h := range []heap{newHeap(t, 20), halfway(t)} {
		for _, kind := range []int{0, 9, 10, 14, 15, 16, 16 + impl.ObjPair, 256 + impl.ObjRec, -1, -16 + impl.ObjPair, math.MaxInt, math.MinInt, math.MinInt + impl.ObjPair} {
			for n := range 8 {
				wantNoMake(t, h, nil, kind, slices.Repeat([]int{1}, n), 0)
			}
		}
		for kind := 1; kind <= 8; kind++ {
			for n := range 12 {
				fields := slices.Repeat([]int{nilWord}, n)
				if n != fieldCount(kind) {
					wantNoMake(t, h, nil, kind, fields, 0)
				} else if _, _, _, ok := checkMake(t, h, nil, kind, fields, 0); !ok {
					t.Errorf("kind %d has not %d fields", kind, n)
				}
			}
		}
		for _, scans := range []int{-1, 21, 22, 4000, math.MaxInt, math.MinInt} {
			wantNoMake(t, h, nil, impl.ObjPair, []int{1, 1}, scans)
		}
		for _, scans := range []int{0, 1, 19, 20} {
			if _, _, _, ok := checkMake(t, h, nil, impl.ObjPair, []int{1, 1}, scans); !ok {
				t.Errorf("scans %d", scans)
			}
		}
	}
}

// wrongWords are words that are no roots of the heap that is halfway looked through, nor of an empty one.
func wrongWords() []int {
	words := []int{5, 6, 7, 13, -1, -2, -3, math.MaxInt, math.MaxInt - 1, math.MinInt + 5, math.MinInt, ptr(1 << 59), ptr(20) + 1<<62, ptr(20) + math.MinInt}
	for _, at := range []int{-1, -20, 40, 41, 60, 21, 22, 24, 25, 26, 30, 36, 38, 39, 0, 4, 5, 6, 8, 11, 14, 19} {
		words = append(words, ptr(at))
	}
	return words
}

func TestWordsThatAreNoRoots(t *testing.T) {
	for _, h := range []heap{halfway(t), newHeap(t, 20)} {
		for _, w := range wrongWords() {
			for _, roots := range [][]int{{w}, {1, w}, {w, 1, 4}} {
				wantNoMake(t, h, roots, impl.ObjPair, []int{1, 1}, 0)
				if l, r, ok := checkGraph(t, h, roots); l != nil || r != nil || ok {
					t.Errorf("%v: %v %v %v", roots, l, r, ok)
				}
				if g, r, ok := checkFlip(t, h, roots); !sameHeap(g, heap{}) || r != nil || ok {
					t.Errorf("%v: %v %v %v", roots, g, r, ok)
				}
			}
			for i := range 5 {
				fields := []int{1, 2, 3, 4, 9}
				fields[i] = w
				wantNoMake(t, h, []int{1}, impl.ObjRec, fields, 0)
			}
			wantNoMake(t, h, nil, impl.ObjCons, []int{w, 1}, 0)
			wantNoMake(t, h, nil, impl.ObjCons, []int{1, w}, 0)
			if g, v, ok := checkField(t, h, w, 0); !sameHeap(g, heap{}) || v != 0 || ok {
				t.Errorf("%d: %v %d %v", w, g, v, ok)
			}
		}
	}
	h := halfway(t)
	for _, w := range []int{1, 2, 3, 4, -7, -6, -5, -4, 8*77 + 4, 8*77 + 3, 8*77 + 2, math.MaxInt - 6, math.MinInt + 1, ptr(20), ptr(23), ptr(37)} {
		if _, told, _, ok := checkMake(t, h, []int{w}, impl.ObjPair, []int{w, w}, 0); !ok || !slices.Equal(told, []int{w}) {
			t.Errorf("%d: %v %v", w, told, ok)
		}
	}
}

func TestHowManyRoots(t *testing.T) {
	h, pair := made(t, newHeap(t, 20), impl.ObjPair, 1, 1)
	for n := range 25 {
		for _, w := range []int{unitWord, pair} {
			roots := slices.Repeat([]int{w}, n)
			_, r, _, made := checkMake(t, h, roots, impl.ObjCell, []int{w, w}, 0)
			_, f, flipped := checkFlip(t, h, roots)
			_, g, told := checkGraph(t, h, roots)
			want := n <= 20
			if made != want || flipped != want || told != want {
				t.Errorf("%d roots: %v %v %v", n, made, flipped, told)
			}
			if want && (len(r) != n || len(f) != n || len(g) != n) || !want && (r != nil || f != nil || g != nil) {
				t.Errorf("%d roots: %v %v %v", n, r, f, g)
			}
		}
	}
}

func TestHowManyAreLookedThrough(t *testing.T) {
	h, last := filled(t, 60)
	h, roots, _ := checkFlip(t, h, []int{last})
	for n := range 25 {
		g, ok := checkScan(t, h, n)
		if !ok || g.Scan != 60+3*min(n, 20) {
			t.Errorf("%d: %d %v", n, g.Scan, ok)
		}
		if n > 20 {
			continue
		}
		g, _, _, ok = checkMake(t, h, roots, impl.ObjPair, []int{1, 1}, n)
		// each of the 20 but the last one has the next one copied: behind the 19th there is no room, behind the 20th the spaces are changed
		if ok != (n != 19) || n < 19 && (g.Flips != 1 || g.Scan != 60+3*n) || n == 20 && (g.Flips != 2 || g.Scan != 0 || g.Bottom != 3) {
			t.Errorf("%d: %v %v", n, g, ok)
		}
	}
	for _, n := range []int{-1, 4001, -4000, math.MaxInt, math.MinInt} {
		if g, ok := checkScan(t, h, n); ok || !sameHeap(g, heap{}) {
			t.Errorf("%d: %v %v", n, g, ok)
		}
	}
	for _, n := range []int{0, 1, 3999, 4000} {
		if _, ok := checkScan(t, newHeap(t, 20), n); !ok {
			t.Errorf("%d of a heap without objects", n)
		}
	}
}

func TestHeapGraphOrder(t *testing.T) {
	// roots first, then the fields of each, in order
	h, a := made(t, newHeap(t, 60), impl.ObjPair, intWord(1), unitWord)
	h, b := made(t, h, impl.ObjCons, intWord(2), nilWord)
	h, c := made(t, h, impl.ObjCell, a, b)
	h, d := made(t, h, impl.ObjClos, intWord(3), c)
	h, e := made(t, h, impl.ObjCont, d, intWord(-4), a, yesWord, d)
	want := []obj{
		{Kind: impl.ObjCont, Fields: []int{ptr(2), intWord(-4), ptr(3), yesWord, ptr(2)}},
		{Kind: impl.ObjCons, Fields: []int{intWord(2), nilWord}},
		{Kind: impl.ObjClos, Fields: []int{intWord(3), ptr(4)}},
		{Kind: impl.ObjPair, Fields: []int{intWord(1), unitWord}},
		{Kind: impl.ObjCell, Fields: []int{ptr(3), ptr(1)}},
	}
	roots := []int{noWord, e, b, intWord(9), e}
	told := []int{noWord, ptr(0), ptr(1), intWord(9), ptr(0)}
	h, moved, _ := checkFlip(t, h, roots)
	for {
		l, r, ok := checkGraph(t, h, moved)
		if !ok || !sameObjs(l, want) || !slices.Equal(r, told) {
			t.Errorf("%v %v %v", l, r, ok)
		}
		if h.Scan == h.Bottom {
			break
		}
		h, _ = checkScan(t, h, 1)
	}
	if l, r, ok := checkGraph(t, h, nil); !ok || len(l) != 0 || len(r) != 0 {
		t.Error(l, r, ok)
	}
	if l, r, ok := checkGraph(t, newHeap(t, 20), []int{1, -4}); !ok || len(l) != 0 || !slices.Equal(r, []int{1, -4}) {
		t.Error(l, r, ok)
	}
}

func TestHeapsLeadingToThemselves(t *testing.T) {
	h, a := made(t, newHeap(t, 20), impl.ObjCell, 1, 1)
	h, b := made(t, h, impl.ObjPair, a, a)
	h.Words[18], h.Words[19] = a, b
	want := []obj{{Kind: impl.ObjCell, Fields: []int{0, 8}}, {Kind: impl.ObjPair, Fields: []int{0, 0}}}
	for range 5 {
		l, told, ok := checkGraph(t, h, []int{a})
		if !ok || !sameObjs(l, want) || told[0] != 0 {
			t.Fatal(l, told, ok)
		}
		g, roots, ok := checkFlip(t, h, []int{a})
		if !ok || g.Bottom != g.To+3 {
			t.Fatal(g, ok)
		}
		l, _, _ = checkGraph(t, g, roots)
		if !sameObjs(l, want) {
			t.Fatal(l)
		}
		g, ok = checkScan(t, g, 20)
		if !ok || g.Bottom != g.To+6 || g.Scan != g.Bottom || g.Words[g.To+1] != ptr(g.To) || g.Words[g.To+2] != ptr(g.To+3) || g.Words[g.To+4] != ptr(g.To) {
			t.Fatal(g, ok)
		}
		h, a = g, roots[0]
	}
	if h.Flips != 5 {
		t.Error(h.Flips)
	}
}

func TestCountsAtTheirEnd(t *testing.T) {
	// What lies in a heap does not hang on its counts.
	h := halfway(t)
	done, _ := checkScan(t, h, 20)
	done.Flips, done.Touched = math.MaxInt, math.MaxInt-3
	g, roots, ok := checkFlip(t, done, []int{ptr(20)})
	plain, _ := checkScan(t, h, 20)
	want, wantRoots, _ := checkFlip(t, plain, []int{ptr(20)})
	if !ok || !slices.Equal(g.Words, want.Words) || !slices.Equal(roots, wantRoots) || g.Bottom != want.Bottom {
		t.Error(g, roots, ok)
	}
}

// sparedHeap is a heap with spare room behind its words.
func sparedHeap(h heap) heap {
	h.Words = withSpare(h.Words, -77)
	return h
}

func TestHeapsAreNewMemory(t *testing.T) {
	for _, from := range []heap{halfway(t), fourObjects(t)} {
		h, at := sparedHeap(from), ptr(from.To+8)
		if from.To > 0 {
			at = ptr(20)
		}
		roots, fields := withSpare([]int{at, unitWord}, -77), withSpare([]int{at, at}, -77)
		g, r, _, ok := checkMake(t, h, roots, impl.ObjPair, fields, 3)
		f, _, ok2 := checkField(t, h, at, 0)
		s, ok3 := checkScan(t, h, 2)
		zero, ok4 := checkScan(t, h, 0)
		flipped, fr, ok5 := checkFlip(t, h, roots)
		if !ok || !ok2 || !ok3 || !ok4 || ok5 != (from.To == 0) {
			t.Fatal(ok, ok2, ok3, ok4, ok5)
		}
		l, gr, _ := checkGraph(t, h, roots)
		lists := [][]int{r, fr, gr}
		for _, g := range []heap{g, f, s, zero, flipped} {
			lists = append(lists, g.Words)
		}
		for _, o := range l {
			lists = append(lists, o.Fields)
		}
		checkApart(t, lists)
		if !sameHeap(h, from) || !slices.Equal(roots, []int{at, unitWord}) || !slices.Equal(fields, []int{at, at}) || !spareKept(h.Words, -77) || !spareKept(roots, -77) || !spareKept(fields, -77) {
			t.Error("an argument is written into")
		}
		if again, _, _ := impl.HeapGraph(h, roots); len(again) != len(l) || again[0].Kind != l[0].Kind {
			t.Error(again)
		}
	}
	a, _ := impl.HeapNew(20)
	b, _ := impl.HeapNew(20)
	checkApart(t, [][]int{a.Words, b.Words})
}

// checkApart writes into each list and its spare room, and asks whether all others are as they were.
func checkApart(t *testing.T, lists [][]int) {
	t.Helper()
	for i, list := range lists {
		whole := list[:cap(list)]
		for at := range whole {
			whole[at] = -1000 - i
		}
	}
	for i, list := range lists {
		for _, w := range list[:cap(list)] {
			if w != -1000-i {
				t.Fatalf("list %d shares memory", i)
			}
		}
	}
}

func TestHeapsAreAskedTwice(t *testing.T) {
	h := halfway(t)
	first, w, _ := impl.HeapField(h, ptr(23), 0)
	second, v, _ := impl.HeapField(h, ptr(23), 0)
	if !sameHeap(first, second) || w != v {
		t.Error(first, second)
	}
}
