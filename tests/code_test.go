package tests

import (
	"bytes"
	"encoding/binary"
	"fmt"
	"math"
	"slices"
	"strings"
	"testing"

	"loop.example/handrail/impl"
)

type ins = impl.Ins

// does is an instruction with its numbers.
func does(o int, numbers ...int) ins {
	numbers = append(numbers, 0, 0, 0)
	return ins{Op: o, A: numbers[0], B: numbers[1], C: numbers[2]}
}

// insForm is what the document tells of an instruction: its word, and from where to where its numbers may be.
type insForm struct {
	word   string
	ranges [][2]int
}

func insForms() []insForm {
	place := [2]int{0, 65535}
	flag := [2]int{0, 1}
	one := [][2]int{place}
	return []insForm{
		impl.IHalt: {"halt", nil}, impl.IInt: {"int", [][2]int{{-2147483648, 2147483647}}}, impl.IBool: {"bool", [][2]int{flag}}, impl.IUnit: {"unit", nil}, impl.INil: {"nil", nil}, impl.IVar: {"var", one}, impl.IClos: {"clos", one}, impl.IRec: {"rec", one}, impl.IApp: {"app", nil}, impl.IRet: {"ret", nil}, impl.ITest: {"test", one}, impl.IJump: {"jump", one}, impl.IBind: {"bind", nil},
		impl.IDrop: {"drop", nil}, impl.IArith: {"arith", [][2]int{{11, 15}}}, impl.IPair: {"pair", nil}, impl.IFst: {"fst", nil}, impl.ISnd: {"snd", nil}, impl.ICons: {"cons", nil}, impl.ICase: {"case", one}, impl.IPrint: {"print", nil}, impl.IHandle: {"handle", [][2]int{place, flag, place}}, impl.IDo: {"do", one}, impl.IDone: {"done", nil}, impl.ITab: {"tab", [][2]int{place, place}}, impl.ITabOp: {"tabop", [][2]int{place, place}},
	}
}

// least is an instruction whose numbers are as small as may be.
func least(o int) ins {
	var numbers []int
	for _, r := range insForms()[o].ranges {
		numbers = append(numbers, r[0])
	}
	return does(o, numbers...)
}

// withNumber is an instruction with another number at that place.
func withNumber(i ins, place int, n int) ins {
	*[]*int{&i.A, &i.B, &i.C}[place] = n
	return i
}

// wrongIns are instructions that may not be, each for one reason.
func wrongIns() []ins {
	wrong := []ins{does(-1), does(26), does(255), does(256), does(math.MaxInt), does(math.MinInt)}
	for o, form := range insForms() {
		for place := range 3 {
			bad := []int{-1, 1, 65535, math.MaxInt32, math.MinInt32}
			if place < len(form.ranges) {
				bad = []int{form.ranges[place][0] - 1, form.ranges[place][1] + 1}
			}
			for _, n := range append(bad, math.MaxInt, math.MinInt, 1<<32) {
				wrong = append(wrong, withNumber(least(o), place, n))
			}
		}
	}
	return wrong
}

// edgeIns are instructions whose numbers are at the ends of their ranges, and near them.
func edgeIns() []ins {
	var edges []ins
	for o, form := range insForms() {
		edges = append(edges, least(o))
		for place, r := range form.ranges {
			for _, n := range []int{r[0], r[0] + 1, (r[0] + r[1]) / 2, r[1] - 1, r[1]} {
				edges = append(edges, withNumber(least(o), place, n))
			}
		}
	}
	for _, n := range []int{-1, 1, 127, 128, -128, -129, 255, 256, -256, 32767, 32768, 65536, -65536, 1 << 23, 1 << 24, -1 << 24} {
		edges = append(edges, does(impl.IInt, n))
	}
	return edges
}

func TestInsOk(t *testing.T) {
	if forms := insForms(); len(forms) != 26 || impl.IHalt != 0 || impl.ITabOp != 25 {
		t.Fatalf("%d instructions", len(forms))
	}
	for _, i := range edgeIns() {
		if !impl.InsOk(i) {
			t.Errorf("%v may not be", i)
		}
	}
	for _, i := range wrongIns() {
		if impl.InsOk(i) {
			t.Errorf("%v may be", i)
		}
	}
}

// modelBytes are the bytes of instructions that may be.
func modelBytes(c []ins) []byte {
	out := bytes.NewBufferString("hr1")
	for _, i := range c {
		out.WriteByte(byte(i.Op))
		for _, n := range []int{i.A, i.B, i.C}[:len(insForms()[i.Op].ranges)] {
			binary.Write(out, binary.BigEndian, int32(n))
		}
	}
	return out.Bytes()
}

// modelLines is the text of instructions that may be.
func modelLines(c []ins) string {
	text := ""
	for _, i := range c {
		text += insForms()[i.Op].word
		for _, n := range []int{i.A, i.B, i.C}[:len(insForms()[i.Op].ranges)] {
			text += fmt.Sprintf(" %d", n)
		}
		text += "\n"
	}
	return text
}

// checkCode holds bytes and text of code that may be against the models, and reads it back (promises 17 and 19).
func checkCode(t *testing.T, c []ins) {
	t.Helper()
	b, ok := impl.CodeBytes(c)
	if want := modelBytes(c); !ok || !bytes.Equal(b, want) {
		t.Fatalf("%.300v: %v %v, not %v", c, b, ok, want)
	}
	if back, ok := impl.CodeRead(b); !ok || !slices.Equal(back, c) {
		t.Fatalf("%.300v is read as %.300v %v", c, back, ok)
	}
	text := impl.CodeText(c)
	if text != modelLines(c) || strings.Count(text, "\n") != len(c) {
		t.Fatalf("%.300v: %q", c, text)
	}
}

// anyIns is an instruction that may be.
func anyIns(m fitter) ins {
	edges := edgeIns()
	i := edges[m.IntN(len(edges))]
	for place, r := range insForms()[i.Op].ranges {
		if m.IntN(2) == 0 {
			i = withNumber(i, place, r[0]+m.IntN(r[1]-r[0]+1))
		}
	}
	return i
}

func TestCodeIsReadBack(t *testing.T) {
	checkCode(t, nil)
	for _, i := range edgeIns() {
		checkCode(t, []ins{i})
		checkCode(t, []ins{i, does(impl.IUnit), i})
	}
	m := newFitter(17)
	for range 300 {
		c := make([]ins, m.IntN(40))
		for at := range c {
			c[at] = anyIns(m)
		}
		checkCode(t, c)
	}
}

func TestBytesOfCode(t *testing.T) {
	c := []ins{does(impl.IInt, -2), does(impl.IUnit), does(impl.IHandle, 258, 1, 65535), does(impl.ITab, 1, 2), does(impl.IInt, -2147483648), does(impl.IInt, 2147483647), does(impl.IHalt)}
	want := []byte{'h', 'r', '1', 1, 255, 255, 255, 254, 3, 21, 0, 0, 1, 2, 0, 0, 0, 1, 0, 0, 255, 255, 24, 0, 0, 0, 1, 0, 0, 0, 2, 1, 128, 0, 0, 0, 1, 127, 255, 255, 255, 0}
	if b, ok := impl.CodeBytes(c); !ok || !bytes.Equal(b, want) {
		t.Errorf("%v %v", b, ok)
	}
	if back, ok := impl.CodeRead(want); !ok || !slices.Equal(back, c) {
		t.Errorf("%v %v", back, ok)
	}
	if text := impl.CodeText(c); text != "int -2\nunit\nhandle 258 1 65535\ntab 1 2\nint -2147483648\nint 2147483647\nhalt\n" {
		t.Errorf("%q", text)
	}
	if b, ok := impl.CodeBytes(nil); string(b) != "hr1" || !ok {
		t.Errorf("%v %v", b, ok)
	}
	if c, ok := impl.CodeRead([]byte("hr1")); len(c) != 0 || !ok {
		t.Errorf("%v %v", c, ok)
	}
}

// checkNoCode asks for the fixed answers at what is no code.
func checkNoCode(t *testing.T, c []ins) {
	t.Helper()
	b, ok := impl.CodeBytes(c)
	text := impl.CodeText(c)
	names, values, depths := impl.CodeDepths(c)
	if b != nil || ok || text != "" || impl.CodeOk(c) || names != nil || values != nil || depths {
		t.Errorf("%.200v: %v %v %q %v %v %v", c, b, ok, text, names, values, depths)
	}
}

// many is an instruction so many times.
func many(i ins, times int) []ins {
	return slices.Repeat([]ins{i}, times)
}

func TestLimitsOfCode(t *testing.T) {
	for _, i := range []ins{does(impl.IHalt), does(impl.IInt, -1), does(impl.IHandle, 65535, 1, 65535)} {
		checkCode(t, many(i, impl.CodeMaxIns))
		checkNoCode(t, many(i, impl.CodeMaxIns+1))
		if c, ok := impl.CodeRead(modelBytes(many(i, impl.CodeMaxIns+1))); c != nil || ok {
			t.Errorf("%d of %v are read", len(c), i)
		}
	}
	// No code has so many bytes; one more is refused, too.
	for _, size := range []int{impl.CodeMaxBytes, impl.CodeMaxBytes + 1, 3 * impl.CodeMaxBytes} {
		b := append([]byte("hr1"), make([]byte, size-3)...)
		if c, ok := impl.CodeRead(b); c != nil || ok {
			t.Errorf("%d bytes: %d", size, len(c))
		}
	}
}

func TestNoCode(t *testing.T) {
	for _, i := range wrongIns() {
		checkNoCode(t, []ins{i})
		checkNoCode(t, []ins{does(impl.IUnit), does(impl.IHalt), i})
		checkNoCode(t, []ins{i, does(impl.IUnit), does(impl.IHalt)})
	}
}

// modelRead reads code by trying what an instruction might be.
func modelRead(b []byte) ([]ins, bool) {
	if len(b) > 20000 || !strings.HasPrefix(string(b), "hr1") {
		return nil, false
	}
	var c []ins
	for rest := b[3:]; len(rest) > 0; {
		if rest[0] > 25 || len(c) == 1500 {
			return nil, false
		}
		i := ins{Op: int(rest[0])}
		rest = rest[1:]
		for place, r := range insForms()[i.Op].ranges {
			var n int32
			if read, err := binary.Decode(rest, binary.BigEndian, &n); err != nil || read != 4 || int(n) < r[0] || int(n) > r[1] {
				return nil, false
			}
			i = withNumber(i, place, int(n))
			rest = rest[4:]
		}
		c = append(c, i)
	}
	return c, true
}

func checkRead(t *testing.T, b []byte) bool {
	t.Helper()
	c, ok := impl.CodeRead(b)
	if want, wantOk := modelRead(b); !slices.Equal(c, want) || ok != wantOk || !ok && c != nil {
		t.Fatalf("%v: %v %v, not %v %v", b, c, ok, want, wantOk)
	}
	return ok
}

func TestBytesOfNoCode(t *testing.T) {
	for _, text := range []string{"", "h", "hr", "hr2", "HR1", "hr1\x1a", "hr1\xff", "hr1\x01", "hr1\x01\x00\x00\x00", "xhr1", " hr1", "hr1\n", "hr1hr1", "hr1\x05\x00\x01\x00\x00", "hr1\x05\xff\xff\xff\xff", "hr1\x0e\x00\x00\x00\x0a", "hr1\x0e\x00\x00\x00\x10", "hr1\x02\x00\x00\x00\x02", "hr1\x15\x00\x00\x00\x00\x00\x00\x00\x02\x00\x00\x00\x00"} {
		if c, ok := impl.CodeRead([]byte(text)); c != nil || ok {
			t.Errorf("%q: %v", text, c)
		}
	}
	if c, ok := impl.CodeRead(nil); c != nil || ok {
		t.Errorf("%v", c)
	}
	m := newFitter(171)
	read := 0
	for range 400 {
		c := make([]ins, 1+m.IntN(6))
		for at := range c {
			c[at] = anyIns(m)
		}
		whole := modelBytes(c)
		for cut := range whole {
			checkRead(t, whole[:cut])
		}
		for range 30 {
			b := slices.Clone(whole)
			b[m.IntN(len(b))] = []byte{0, 1, 25, 26, 255, byte(m.IntN(256))}[m.IntN(6)]
			if checkRead(t, append(b, make([]byte, m.IntN(3))...)) {
				read++
			}
		}
	}
	if read < 300 {
		t.Fatalf("only %d were read", read)
	}
}

func TestCodeIsNewMemory(t *testing.T) {
	mark := does(77, 7, 7, 7)
	for _, i := range []ins{does(impl.IUnit), does(impl.IInt, -5), does(impl.IHandle, 1, 1, 1), mark} {
		kept := []ins{does(impl.IUnit), i, does(impl.IHalt)}
		c := withSpare(kept, mark)
		b, _ := impl.CodeBytes(c)
		again, _ := impl.CodeBytes(c)
		impl.CodeText(c)
		given := withSpare(again, 99)
		read, _ := impl.CodeRead(given)
		other, _ := impl.CodeRead(given)
		want, wantRead := slices.Clone(again), slices.Clone(other)
		for at := range b[:cap(b)] {
			b[:cap(b)][at] = 88
		}
		for at := range read[:cap(read)] {
			read[:cap(read)][at] = does(66)
		}
		if !slices.Equal(c, kept) || !spareKept(c, mark) || !spareKept(given, 99) || !bytes.Equal(given, want) || !bytes.Equal(again, want) || !slices.Equal(other, wantRead) {
			t.Errorf("%v: an argument is written into, or two answers share memory", i)
		}
	}
}
