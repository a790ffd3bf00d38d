package wire_test

import (
	"bytes"
	"math"
	"math/rand"
	"slices"
	"testing"

	"wharf/wire"
)

// widths are the k of numbers of k bytes, with the count of those numbers.
var widths = map[int]uint64{1: 1 << 8, 2: 1 << 16, 4: 1 << 32}

// badWidths are some k for which there are no numbers of k bytes.
var badWidths = []int{0, 3, 5, 6, 7, 8, 16, -1, -2, -4, math.MaxInt, math.MinInt}

// values lie at the bounds of the numbers of 1, 2, 3 and 4 bytes.
var values = []uint32{
	0, 1, 2, 0x7f, 0x80, 0xff, 0x100, 0x101, 0x7fff, 0x8000, 0xffff, 0x10000,
	0x10002, 0xffffff, 0x1000000, 0x01020304, 0x7fffffff, 0x80000000, 0xfffffffe, 0xffffffff,
}

func mustBe(t *testing.T, c *wire.Cursor, at, left int) {
	t.Helper()
	if c.At() != at || c.Left() != left {
		t.Errorf("At %d, Left %d; want %d, %d", c.At(), c.Left(), at, left)
	}
}

// big returns a number with the highest byte first, by its definition.
func big(b []byte) uint32 {
	x := uint64(0)
	for _, v := range b {
		x = x*256 + uint64(v)
	}
	return uint32(x)
}

// P1.1

func TestNewIsAtTheBeginning(t *testing.T) {
	for _, b := range [][]byte{nil, {}, {7}, {1, 2, 3, 4, 5}} {
		c := wire.New(b)
		if c == nil {
			t.Fatalf("New(%v) is nil", b)
		}
		mustBe(t, c, 0, len(b))
	}
}

func TestNewCopies(t *testing.T) {
	b := []byte{1, 2, 3, 4}
	c := wire.New(b)
	copy(b, []byte{9, 9, 9, 9})
	if x, ok := c.Number(2); x != 0x0102 || !ok {
		t.Errorf("Number(2): %#x, %v", x, ok)
	}
	if got, ok := c.Take(2); !bytes.Equal(got, []byte{3, 4}) || !ok {
		t.Errorf("Take(2): %v, %v", got, ok)
	}
}

func TestNewIgnoresUnusedCapacity(t *testing.T) {
	c := wire.New([]byte{1, 2, 3, 4, 5, 6}[:2])
	mustBe(t, c, 0, 2)
	if got, ok := c.Take(3); len(got) != 0 || ok {
		t.Errorf("Take(3): %v, %v", got, ok)
	}
	if x, ok := c.Number(4); x != 0 || ok {
		t.Errorf("Number(4): %d, %v", x, ok)
	}
	mustBe(t, c, 0, 2)
}

func TestAtAndLeftFollowTheReading(t *testing.T) {
	c := wire.New([]byte{1, 2, 3, 4, 5, 6, 7, 8, 9, 10})
	c.Number(1)
	mustBe(t, c, 1, 9)
	c.Number(2)
	mustBe(t, c, 3, 7)
	c.Number(4)
	mustBe(t, c, 7, 3)
	c.Take(0)
	mustBe(t, c, 7, 3)
	c.Take(3)
	mustBe(t, c, 10, 0)
	c.Take(1)
	mustBe(t, c, 10, 0)
}

func TestCursorsAreSeparate(t *testing.T) {
	b := []byte{1, 2, 3}
	c, d := wire.New(b), wire.New(b)
	c.Take(2)
	mustBe(t, c, 2, 1)
	mustBe(t, d, 0, 3)
}

// P1.2

func TestTake(t *testing.T) {
	c := wire.New([]byte{1, 2, 3, 4, 5})
	for _, want := range [][]byte{{1, 2}, {}, {3}, {4, 5}, {}} {
		if got, ok := c.Take(len(want)); !bytes.Equal(got, want) || !ok {
			t.Errorf("Take(%d): %v, %v; want %v", len(want), got, ok, want)
		}
	}
	mustBe(t, c, 5, 0)
}

func TestTakeRefuses(t *testing.T) {
	c := wire.New([]byte{1, 2, 3, 4, 5})
	c.Take(2)
	for _, n := range []int{-1, -2, math.MinInt, 4, 5, 6, math.MaxInt} {
		if got, ok := c.Take(n); len(got) != 0 || ok {
			t.Errorf("Take(%d): %v, %v", n, got, ok)
		}
		mustBe(t, c, 2, 3)
	}
	if got, ok := c.Take(3); !bytes.Equal(got, []byte{3, 4, 5}) || !ok {
		t.Errorf("Take(3): %v, %v", got, ok)
	}
}

func TestTakeCopies(t *testing.T) {
	b := []byte{1, 2, 3, 4}
	c := wire.New(b)
	first, _ := c.Take(2)
	first[0] = 9
	_ = append(first, 9, 9)
	if got, ok := c.Take(2); !bytes.Equal(got, []byte{3, 4}) || !ok {
		t.Errorf("Take(2): %v, %v", got, ok)
	}
	if !bytes.Equal(b, []byte{1, 2, 3, 4}) {
		t.Errorf("the bytes given became %v", b)
	}
}

func TestNumberAndPeek(t *testing.T) {
	b := []byte{0xff, 0x01, 0x80, 0x02, 0xfe, 0x00, 0x7f}
	for k := range widths {
		c := wire.New(b)
		for at := 0; at+k <= len(b); at += k {
			want := big(b[at : at+k])
			for range 2 {
				if x, ok := c.Peek(k); x != want || !ok {
					t.Errorf("Peek(%d) at %d: %#x, %v; want %#x", k, at, x, ok, want)
				}
				mustBe(t, c, at, len(b)-at)
			}
			if x, ok := c.Number(k); x != want || !ok {
				t.Errorf("Number(%d) at %d: %#x, %v; want %#x", k, at, x, ok, want)
			}
			mustBe(t, c, at+k, len(b)-at-k)
		}
	}
}

// refuses checks that neither a number of k bytes is found, nor one read.
func refuses(t *testing.T, c *wire.Cursor, k int) {
	t.Helper()
	at, left := c.At(), c.Left()
	if x, ok := c.Peek(k); x != 0 || ok {
		t.Errorf("Peek(%d): %d, %v", k, x, ok)
	}
	if x, ok := c.Number(k); x != 0 || ok {
		t.Errorf("Number(%d): %d, %v", k, x, ok)
	}
	mustBe(t, c, at, left)
}

func TestNumberRefusesOtherWidths(t *testing.T) {
	c := wire.New([]byte{1, 2, 3, 4, 5, 6, 7, 8, 9, 10, 11, 12, 13, 14, 15, 16, 17})
	c.Take(1)
	for _, k := range badWidths {
		refuses(t, c, k)
	}
	if x, ok := c.Number(4); x != 0x02030405 || !ok {
		t.Errorf("Number(4): %#x, %v", x, ok)
	}
}

func TestNumberRefusesMoreThanIsLeft(t *testing.T) {
	for k := range widths {
		for left := range k {
			c := wire.New([]byte{9, 9, 9, 9, 9, 9, 9, 9}[:left+3])
			c.Take(3)
			refuses(t, c, k)
		}
	}
}

func TestNilCursor(t *testing.T) {
	var c *wire.Cursor
	mustBe(t, c, 0, 0)
	for _, n := range []int{0, 1, -1, 4, math.MaxInt, math.MinInt} {
		if got, ok := c.Take(n); len(got) != 0 || ok {
			t.Errorf("Take(%d): %v, %v", n, got, ok)
		}
	}
	for _, k := range append(slices.Clone(badWidths), 1, 2, 4) {
		refuses(t, c, k)
	}
}

// P1.3

func TestPut(t *testing.T) {
	for _, x := range []struct {
		k    int
		l    []uint32
		want []byte
	}{
		{1, []uint32{7, 255}, []byte{7, 255}},
		{2, []uint32{258, 3}, []byte{1, 2, 0, 3}},
		{4, []uint32{0x01020304, 5}, []byte{1, 2, 3, 4, 0, 0, 0, 5}},
		{1, nil, nil},
		{2, nil, nil},
		{4, nil, nil},
		{1, []uint32{256, 0x01020304}, []byte{0, 4}},
		{2, []uint32{65536, 0x01020304}, []byte{0, 0, 3, 4}},
		{4, []uint32{0xffffffff}, []byte{255, 255, 255, 255}},
	} {
		if got := wire.Put(x.k, x.l...); !bytes.Equal(got, x.want) {
			t.Errorf("Put(%d, %v): %v; want %v", x.k, x.l, got, x.want)
		}
	}
}

func TestPutTakesNumbersModulo(t *testing.T) {
	for k, count := range widths {
		b := wire.Put(k, values...)
		if len(b) != k*len(values) {
			t.Fatalf("Put(%d): %d bytes for %d numbers", k, len(b), len(values))
		}
		for i, x := range values {
			if got := big(b[i*k : i*k+k]); uint64(got) != uint64(x)%count {
				t.Errorf("Put(%d, %#x): %#x", k, x, got)
			}
		}
	}
}

func TestNumbers(t *testing.T) {
	for _, x := range []struct {
		k    int
		b    []byte
		want []uint32
	}{
		{1, []byte{7, 255}, []uint32{7, 255}},
		{2, []byte{1, 2, 0, 3}, []uint32{258, 3}},
		{4, []byte{1, 2, 3, 4, 255, 255, 255, 255}, []uint32{0x01020304, 0xffffffff}},
		{1, nil, nil},
		{2, []byte{}, nil},
		{4, nil, nil},
	} {
		if got := wire.Numbers(x.k, x.b); !slices.Equal(got, x.want) {
			t.Errorf("Numbers(%d, %v): %v; want %v", x.k, x.b, got, x.want)
		}
	}
}

func TestNumbersRefusesARest(t *testing.T) {
	b := []byte{1, 2, 3, 4, 5, 6, 7, 8, 9, 10}
	for k := range widths {
		for n := range b {
			want := n / k
			if n%k != 0 {
				want = 0
			}
			if got := wire.Numbers(k, b[:n]); len(got) != want {
				t.Errorf("Numbers(%d, %v): %v", k, b[:n], got)
			}
		}
	}
}

func TestOtherWidthsGiveNothing(t *testing.T) {
	for _, k := range badWidths {
		if got := wire.Put(k, 1, 2, 3); len(got) != 0 {
			t.Errorf("Put(%d): %v", k, got)
		}
		if got := wire.Put(k); len(got) != 0 {
			t.Errorf("Put(%d) without numbers: %v", k, got)
		}
		for _, n := range []int{0, 3, 5, 6, 7, 8, 16} {
			if got := wire.Numbers(k, make([]byte, n)); len(got) != 0 {
				t.Errorf("Numbers(%d) of %d bytes: %v", k, n, got)
			}
		}
	}
}

func TestArgumentsStayAsTheyAre(t *testing.T) {
	l := []uint32{0x01020304, 65538}
	b := []byte{1, 2, 3, 4, 5, 6, 7, 8}[:4]
	for k := range widths {
		wire.Put(k, l...)
		wire.Numbers(k, b)
		wire.Join(b, b)
		wire.New(b).Take(4)
	}
	if !slices.Equal(l, []uint32{0x01020304, 65538}) {
		t.Errorf("the numbers given became %v", l)
	}
	if !bytes.Equal(b[:8], []byte{1, 2, 3, 4, 5, 6, 7, 8}) {
		t.Errorf("the bytes given became %v", b[:8])
	}
}

// P1.4

func TestJoin(t *testing.T) {
	for _, x := range []struct {
		parts [][]byte
		want  []byte
	}{
		{nil, nil},
		{[][]byte{nil}, nil},
		{[][]byte{nil, {}, nil}, nil},
		{[][]byte{{1, 2}}, []byte{1, 2}},
		{[][]byte{{3}, nil, {1, 2}, {}, {0, 3}}, []byte{3, 1, 2, 0, 3}},
	} {
		if got := wire.Join(x.parts...); !bytes.Equal(got, x.want) {
			t.Errorf("Join(%v): %v; want %v", x.parts, got, x.want)
		}
	}
}

func TestJoinCopies(t *testing.T) {
	// The first part has room for the second one behind it.
	a, b := []byte{1, 2, 8, 8}[:2], []byte{3}
	for _, parts := range [][][]byte{{a}, {a, nil}, {nil, a}, {a, b}, {a, a}} {
		got := wire.Join(parts...)
		want := bytes.Join(parts, nil)
		if !bytes.Equal(got, want) {
			t.Errorf("Join(%v): %v", parts, got)
		}
		clear(got)
		if !bytes.Equal(a[:4], []byte{1, 2, 8, 8}) || b[0] != 3 {
			t.Fatalf("Join(%v) shares memory with a part: %v, %v", parts, a[:4], b)
		}
	}
}

// P1.5

func TestNumbersInvertsPut(t *testing.T) {
	random := rand.New(rand.NewSource(1))
	for k, count := range widths {
		for n := range 40 {
			l := make([]uint32, n)
			for i := range l {
				l[i] = uint32(random.Uint64() % count)
			}
			if got := wire.Numbers(k, wire.Put(k, l...)); !slices.Equal(got, l) {
				t.Errorf("k %d: %v became %v", k, l, got)
			}
		}
		for _, x := range values {
			fit := uint64(x) < count
			got := wire.Numbers(k, wire.Put(k, x))
			if slices.Equal(got, []uint32{x}) != fit {
				t.Errorf("k %d: %#x became %#x", k, x, got)
			}
		}
	}
}

func TestPutInvertsNumbers(t *testing.T) {
	random := rand.New(rand.NewSource(2))
	for k := range widths {
		for n := range 40 {
			b := make([]byte, n*k)
			random.Read(b)
			if got := wire.Put(k, wire.Numbers(k, b)...); !bytes.Equal(got, b) {
				t.Errorf("k %d: %v became %v", k, b, got)
			}
		}
	}
}

// A cursor finds the numbers that were put, whatever their widths are.
func TestCursorReadsWhatWasPut(t *testing.T) {
	random := rand.New(rand.NewSource(3))
	for range 200 {
		var ks []int
		var l []uint32
		var parts [][]byte
		for range random.Intn(12) {
			k := []int{1, 2, 4}[random.Intn(3)]
			x := uint32(random.Uint64() % widths[k])
			ks, l, parts = append(ks, k), append(l, x), append(parts, wire.Put(k, x))
		}
		c := wire.New(wire.Join(parts...))
		for i, k := range ks {
			if x, ok := c.Number(k); x != l[i] || !ok {
				t.Fatalf("Number(%d): %#x, %v; want %#x", k, x, ok, l[i])
			}
		}
		if c.Left() != 0 {
			t.Fatalf("%d bytes left", c.Left())
		}
	}
}
