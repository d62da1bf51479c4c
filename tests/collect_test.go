package tests

import (
	"math"
	"math/rand/v2"
	"slices"
	"testing"

	"loop.example/handrail/impl"
)

// shade is what an object is, wherever it lies; a shadeWord leads to one, or is a word.
type shade struct {
	kind   int
	fields []shadeWord
}

type shadeWord struct {
	word int
	of   *shade
}

// shadeGraph is what HeapGraph is to tell of shades.
func shadeGraph(roots []shadeWord) ([]obj, []int) {
	places := map[*shade]int{}
	var met []*shade
	tell := func(list []shadeWord) []int {
		told := make([]int, len(list))
		for i, w := range list {
			told[i] = w.word
			if w.of == nil {
				continue
			}
			if _, known := places[w.of]; !known {
				places[w.of] = len(met)
				met = append(met, w.of)
			}
			told[i] = 8 * places[w.of]
		}
		return told
	}
	told := tell(roots)
	var objs []obj
	for i := 0; i < len(met); i++ {
		objs = append(objs, obj{Kind: met[i].kind, Fields: tell(met[i].fields)})
	}
	return objs, told
}

// wordsOf is how many words objects have.
func wordsOf(objs []obj) int {
	words := 0
	for _, o := range objs {
		words += 1 + len(o.Fields)
	}
	return words
}

// player works on a heap by chance, and knows what it is to hold.
type player struct {
	*rand.Rand
	t      *testing.T
	h      heap
	roots  []int
	shades []shadeWord
	// how many words were reached when the spaces were changed; -1 if that is not known any more
	reached int
	flips   int
	full    int
}

func newPlayer(t *testing.T, seed uint64, size int) *player {
	t.Helper()
	p := &player{Rand: dice(seed), t: t, h: newHeap(t, size), reached: -1}
	for range 1 + p.IntN(20) {
		p.roots = append(p.roots, unitWord)
		p.shades = append(p.shades, shadeWord{word: unitWord})
	}
	return p
}

// plain is a word that leads nowhere.
func (p *player) plain() int {
	words := []int{1, 9, -7, 2, 10, 3, 4, -4, 8*math.MaxInt32 + 1, 8*math.MinInt32 + 1, math.MaxInt - 6, math.MinInt + 1, math.MinInt + 3, 8*1000 + 4}
	return words[p.IntN(len(words))]
}

func (p *player) root() int { return p.IntN(len(p.roots)) }

// keep makes a word a root.
func (p *player) keep(w int, of shadeWord) {
	at := p.root()
	p.roots[at], p.shades[at] = w, of
}

func (p *player) make() {
	kind := 1 + p.IntN(8)
	made := &shade{kind: kind}
	var fields []int
	for range impl.ObjFields(kind) {
		if p.IntN(3) == 0 {
			w := p.plain()
			fields, made.fields = append(fields, w), append(made.fields, shadeWord{word: w})
			continue
		}
		at := p.root()
		fields, made.fields = append(fields, p.roots[at]), append(made.fields, p.shades[at])
	}
	objs, _ := shadeGraph(append(slices.Clone(p.shades), made.fields...))
	h, roots, w, ok := checkMake(p.t, p.h, p.roots, kind, fields, p.IntN(4)*p.IntN(8))
	if !ok {
		p.full++
		p.drop()
		return
	}
	if h.Flips > p.h.Flips {
		p.flips++
		p.reached = wordsOf(objs)
	}
	p.h, p.roots = h, roots
	p.keep(w, shadeWord{of: made})
}

// field reads a field, and asks whether it is what it was (promise 22).
func (p *player) field() {
	at := p.root()
	of := p.shades[at].of
	if of == nil {
		checkField(p.t, p.h, p.roots[at], 0)
		return
	}
	i := p.IntN(len(of.fields))
	h, w, ok := checkField(p.t, p.h, p.roots[at], i)
	if !ok {
		p.full++
		p.drop()
		return
	}
	p.h = h
	l, told, ok := impl.HeapGraph(h, []int{p.roots[at], w})
	wantL, want := shadeGraph([]shadeWord{p.shades[at], of.fields[i]})
	if !ok || !sameObjs(l, wantL) || !slices.Equal(told, want) {
		p.t.Fatalf("%v: field %d of %d is %d", h, i, p.roots[at], w)
	}
	p.keep(w, of.fields[i])
}

// scan looks through some, and counts what each touches (promise 23).
func (p *player) scan() {
	n := p.IntN(3)
	if p.IntN(8) == 0 {
		n = 4000
	}
	h, ok := checkScan(p.t, p.h, n)
	if !ok {
		p.full++
		p.drop()
		return
	}
	if n == 1 && h.Touched-p.h.Touched > 100 {
		p.t.Fatalf("%v: %d words are touched", p.h, h.Touched-p.h.Touched)
	}
	p.h = h
}

func (p *player) flip() {
	objs, _ := shadeGraph(p.shades)
	h, roots, ok := checkFlip(p.t, p.h, p.roots)
	if ok != (p.h.Scan == p.h.Bottom) {
		p.t.Fatalf("%v, %v: %v", p.h, p.roots, ok)
	}
	if !ok {
		return
	}
	p.h, p.roots = h, roots
	p.reached = wordsOf(objs)
	p.flips++
}

// tie writes a root into a field, so that objects lead to themselves and to one another.
func (p *player) tie() {
	at, other := p.root(), p.root()
	of := p.shades[at].of
	if of == nil {
		return
	}
	i := p.IntN(len(of.fields))
	p.h = cloned(p.h)
	p.h.Words[modelNum(p.roots[at])+1+i] = p.roots[other]
	of.fields[i] = p.shades[other]
	// An object that was to be copied may be reached no more.
	p.reached = -1
}

// drop forgets some roots.
func (p *player) drop() {
	for range 1 + p.IntN(3) {
		w := p.plain()
		p.keep(w, shadeWord{word: w})
	}
}

// play does one thing, and asks whether all is there (promise 20) and no more than was reached (promise 21).
func (p *player) play() {
	moves := []func(){p.make, p.make, p.make, p.make, p.field, p.field, p.scan, p.flip, p.tie, p.drop}
	weight := p.IntN(len(moves))
	if p.full > 5 {
		// A heap that stays full is looked through no more: all but its roots is forgotten.
		p.h, p.full, p.reached = newHeap(p.t, p.h.Size), 0, -1
		for i := range p.roots {
			p.roots[i], p.shades[i] = unitWord, shadeWord{word: unitWord}
		}
	}
	moves[weight]()
	if !checkOk(p.t, p.h) {
		p.t.Fatalf("%v may not be", p.h)
	}
	l, told, ok := checkGraph(p.t, p.h, p.roots)
	wantL, want := shadeGraph(p.shades)
	if !ok || !sameObjs(l, wantL) || !slices.Equal(told, want) {
		p.t.Fatalf("%v, %v:\n%v %v %v, not\n%v %v", p.h, p.roots, l, told, ok, wantL, want)
	}
	if p.h.Scan == p.h.Bottom && p.reached >= 0 {
		if p.h.Bottom-p.h.To != p.reached {
			p.t.Fatalf("%v: %d words were reached", p.h, p.reached)
		}
		p.reached = -1
	}
}

func TestHeapsThatArePlayedWith(t *testing.T) {
	flips, full := 0, 0
	for seed := range uint64(150) {
		p := newPlayer(t, seed, 20+int(seed*seed)%140)
		for range 150 {
			p.play()
		}
		flips, full = flips+p.flips, full+p.full
	}
	if flips < 1000 || full < 100 {
		t.Errorf("%d changes of spaces, %d times no room", flips, full)
	}
}

func TestGreatHeaps(t *testing.T) {
	p := newPlayer(t, 1, impl.HeapMaxSize)
	for range 600 {
		p.play()
	}
	// a list as long as there is room for is looked through at one go
	h, last := filled(t, impl.HeapMaxSize)
	h, roots, ok := checkFlip(t, h, []int{last})
	if !ok || h.Bottom != 4003 {
		t.Fatal(ok, h.Bottom)
	}
	h, ok = checkScan(t, h, impl.HeapMaxSize)
	if !ok || h.Scan != h.Bottom || h.Bottom != 4000+3*1333 {
		t.Fatal(ok, h.Bottom)
	}
	l, _, ok := impl.HeapGraph(h, roots)
	if !ok || len(l) != 1333 || l[1332].Fields[1] != nilWord || l[1332].Fields[0] != intWord(0) || l[0].Fields[0] != intWord(1332) {
		t.Error(len(l), ok)
	}
}

func TestMostWordsTouched(t *testing.T) {
	// a record of five records: each is read, copied for 14 words and written
	for _, kind := range []int{impl.ObjRec, impl.ObjCont} {
		h := newHeap(t, 60)
		var recs []int
		for range 5 {
			var w int
			h, w = made(t, h, kind, 1, 1, 1, 1, 1)
			recs = append(recs, w)
		}
		h, all := made(t, h, kind, recs...)
		flipped, _, _ := checkFlip(t, h, []int{all})
		h, ok := checkScan(t, flipped, 1)
		if !ok || h.Touched-flipped.Touched != 1+5*16 {
			t.Errorf("%d words are touched", h.Touched-flipped.Touched)
		}
		h2, _ := checkScan(t, h, 1)
		if h2.Touched-h.Touched != 6 {
			t.Errorf("%d words are touched", h2.Touched-h.Touched)
		}
	}
}

func TestWhatIsNotReachedIsGone(t *testing.T) {
	h, first := made(t, newHeap(t, 40), impl.ObjPair, intWord(1), nilWord)
	h, _ = made(t, h, impl.ObjRec, first, 1, 1, 1, 1)
	h, second := made(t, h, impl.ObjCell, first, first)
	// a circle that nobody leads to, and one that a root leads to
	h, a := made(t, h, impl.ObjCell, 1, 1)
	h, b := made(t, h, impl.ObjCell, a, 1)
	h, c := made(t, h, impl.ObjLink, second, 1)
	h, d := made(t, h, impl.ObjFrame, c, unitWord)
	h.Words[modelNum(a)+1], h.Words[modelNum(a)+2] = b, a
	h.Words[modelNum(c)+2], h.Words[modelNum(d)+2] = d, d
	h, roots, ok := checkFlip(t, h, []int{d})
	if !ok {
		t.Fatal(h)
	}
	before, _, _ := checkGraph(t, h, roots)
	h, ok = checkScan(t, h, 4)
	if !ok || h.Scan != h.Bottom || h.Bottom-h.To != 12 {
		t.Fatal(h)
	}
	after, told, ok := checkGraph(t, h, roots)
	want := []obj{{Kind: impl.ObjFrame, Fields: []int{8, 0}}, {Kind: impl.ObjLink, Fields: []int{16, 0}}, {Kind: impl.ObjCell, Fields: []int{24, 24}}, {Kind: impl.ObjPair, Fields: []int{9, 4}}}
	if !ok || told[0] != 0 || !sameObjs(before, want) || !sameObjs(after, want) {
		t.Error(before, after, told)
	}
	// all of it is gone when nothing is a root
	h, _, ok = checkFlip(t, h, []int{unitWord, 1, 4})
	if !ok || h.Bottom != h.To || h.Top != h.To+40 || h.Scan != h.To {
		t.Error(h)
	}
}
