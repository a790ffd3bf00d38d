package poly_test

import (
	"bytes"
	"hash/crc32"
	"math"
	"math/bits"
	"math/rand"
	"slices"
	"testing"

	"wharf/poly"
)

// most is the greatest number of coefficients of which the chapter speaks.
const most = 1 << 20

// generator has the bits of Generator().
const generator = 1<<32 | 1<<28 | 1<<27 | 1<<26 | 1<<25 | 1<<23 | 1<<22 | 1<<20 | 1<<19 | 1<<18 | 1<<14 | 1<<13 | 1<<11 | 1<<10 | 1<<9 | 1<<8 | 1<<6 | 1

// of returns the reduced polynomial with the given powers.
func of(powers ...int) poly.Poly {
	if len(powers) == 0 {
		return nil
	}
	p := make(poly.Poly, slices.Max(powers)+1)
	for _, i := range powers {
		p[i] = 1
	}
	return p
}

// fromBits returns the reduced polynomial whose coefficient of x^i is the bit i.
func fromBits(x uint64) poly.Poly {
	p := make(poly.Poly, bits.Len64(x))
	for i := range p {
		p[i] = byte(x >> i & 1)
	}
	return p
}

// toBits is the inverse of fromBits, for all lists of at most 64 coefficients.
func toBits(p poly.Poly) uint64 {
	x := uint64(0)
	for i, c := range p {
		x |= uint64(c%2) << i
	}
	return x
}

// disguised returns a list of the same polynomial that is not reduced: it has
// other coefficients that are even and odd, and some zeros at its end.
func disguised(r *rand.Rand, p poly.Poly) poly.Poly {
	d := make(poly.Poly, len(p)+r.Intn(4))
	copy(d, p)
	for i := range d {
		d[i] += 2 * byte(r.Intn(128))
	}
	return d
}

// same reports whether two lists have the same coefficients; nil and empty ones
// do.
func same(a, b poly.Poly) bool { return bytes.Equal(a, b) }

// random returns a number of at most n bits; few are as long as that.
func random(r *rand.Rand, n int) uint64 { return r.Uint64() >> (64 - r.Intn(n+1)) }

func mulBits(a, b uint64) uint64 {
	x := uint64(0)
	for ; b != 0; b >>= 1 {
		x ^= a * (b & 1)
		a <<= 1
	}
	return x
}

func modBits(a, g uint64) uint64 {
	for bits.Len64(a) >= bits.Len64(g) {
		a ^= g << (bits.Len64(a) - bits.Len64(g))
	}
	return a
}

// P4.1

func TestReduceAndDegree(t *testing.T) {
	for i, x := range []struct {
		p, want poly.Poly
		degree  int
	}{
		{nil, nil, -1},
		{poly.Poly{}, nil, -1},
		{poly.Poly{0}, nil, -1},
		{poly.Poly{0, 0, 0}, nil, -1},
		{poly.Poly{1}, poly.Poly{1}, 0},
		{poly.Poly{1, 0}, poly.Poly{1}, 0},
		{poly.Poly{0, 1}, poly.Poly{0, 1}, 1},
		{poly.Poly{1, 0, 1, 0, 0}, poly.Poly{1, 0, 1}, 2},
		{poly.Poly{2}, nil, -1},
		{poly.Poly{254, 2, 128}, nil, -1},
		{poly.Poly{3}, poly.Poly{1}, 0},
		{poly.Poly{255, 254, 7, 2, 0}, poly.Poly{1, 0, 1}, 2},
		{make(poly.Poly, most), nil, -1},
		{of(0, most-1), of(0, most-1), most - 1},
	} {
		if got := poly.Reduce(x.p); !same(got, x.want) {
			t.Errorf("%d: Reduce: %d", i, got)
		}
		if got := poly.Degree(x.p); got != x.degree {
			t.Errorf("%d: Degree: %d; want %d", i, got, x.degree)
		}
	}
}

func TestReduceAndDegreeOfEveryCoefficient(t *testing.T) {
	for c := range 256 {
		for i := range 5 {
			p := make(poly.Poly, 5)
			p[i] = byte(c)
			var want poly.Poly
			degree := -1
			if c%2 == 1 {
				want, degree = of(i), i
			}
			if got := poly.Reduce(p); !same(got, want) {
				t.Errorf("Reduce(%d): %d; want %d", p, got, want)
			}
			if got := poly.Degree(p); got != degree {
				t.Errorf("Degree(%d): %d; want %d", p, got, degree)
			}
		}
	}
}

func TestReduceAndDegreeOfRandomLists(t *testing.T) {
	r := rand.New(rand.NewSource(1))
	for range 3000 {
		x := random(r, 64)
		p := disguised(r, fromBits(x))
		if got := poly.Reduce(p); !same(got, fromBits(x)) {
			t.Errorf("Reduce(%d): %d; want %d", p, got, fromBits(x))
		}
		if got := poly.Degree(p); got != bits.Len64(x)-1 {
			t.Errorf("Degree(%d): %d; want %d", p, got, bits.Len64(x)-1)
		}
	}
}

func TestAllPolynomialsAreReduced(t *testing.T) {
	r := rand.New(rand.NewSource(2))
	for range 2000 {
		a, b := disguised(r, fromBits(random(r, 40))), disguised(r, fromBits(random(r, 40)))
		rest, _ := poly.Mod(a, b)
		for i, p := range []poly.Poly{
			poly.Reduce(a), poly.Add(a), poly.Add(a, b), poly.Add(a, b, a), poly.Add(a, a), poly.Mul(a, b),
			poly.Shift(a, r.Intn(9)), rest, poly.Of(a), poly.Ones(r.Intn(9)), poly.Generator(),
		} {
			for _, c := range p {
				if c > 1 {
					t.Fatalf("%d: of %d and %d: %d has the coefficient %d", i, a, b, p, c)
				}
			}
			if len(p) > 0 && p[len(p)-1] != 1 {
				t.Fatalf("%d: of %d and %d: %d is not reduced", i, a, b, p)
			}
		}
	}
}

// P4.2

func TestAdd(t *testing.T) {
	for i, x := range []struct {
		l    []poly.Poly
		want poly.Poly
	}{
		{[]poly.Poly{nil}, nil},
		{[]poly.Poly{of(3, 1)}, of(3, 1)},
		{[]poly.Poly{{2, 3, 0}}, of(1)},
		{[]poly.Poly{nil, nil, nil}, nil},
		{[]poly.Poly{nil, of(2)}, of(2)},
		{[]poly.Poly{of(2), nil}, of(2)},
		{[]poly.Poly{of(2, 0), of(1, 0)}, of(2, 1)},
		{[]poly.Poly{of(1, 0), of(2, 0)}, of(2, 1)},
		{[]poly.Poly{of(2, 0), of(2, 0)}, nil},
		{[]poly.Poly{of(2, 1), of(2, 0)}, of(1, 0)},
		{[]poly.Poly{of(5), of(5), of(5)}, of(5)},
		{[]poly.Poly{of(0), of(1), of(2), of(3)}, of(0, 1, 2, 3)},
		{[]poly.Poly{of(3), of(2), of(1), of(0)}, of(0, 1, 2, 3)},
		{[]poly.Poly{of(1), of(4, 2), of(1, 0), of(4)}, of(2, 0)},
		{[]poly.Poly{{255}, {254, 3, 2}, {1, 5, 7}}, of(2)},
		{[]poly.Poly{of(most - 1), of(0), of(most-1, 1)}, of(1, 0)},
		{[]poly.Poly{of(0), of(most - 1)}, of(0, most-1)},
	} {
		if got := poly.Add(x.l[0], x.l[1:]...); !same(got, x.want) {
			t.Errorf("%d: %d", i, got)
		}
	}
}

func TestAddOfRandomLists(t *testing.T) {
	r := rand.New(rand.NewSource(3))
	for range 3000 {
		l := make([]poly.Poly, 1+r.Intn(6))
		want := uint64(0)
		for i := range l {
			x := random(r, 64)
			want ^= x
			l[i] = disguised(r, fromBits(x))
		}
		if got := poly.Add(l[0], l[1:]...); !same(got, fromBits(want)) {
			t.Fatalf("Add(%d): %d; want %d", l, got, fromBits(want))
		}
	}
}

func TestMul(t *testing.T) {
	for i, x := range []struct{ a, b, want poly.Poly }{
		{nil, nil, nil},
		{nil, of(1, 0), nil},
		{of(1, 0), poly.Poly{0, 2}, nil},
		{of(0), of(4, 2), of(4, 2)},
		{of(4, 2), of(0), of(4, 2)},
		{of(1, 0), of(1, 0), of(2, 0)},
		{of(1, 0), of(2, 1, 0), of(3, 0)},
		{of(3, 1, 0), of(1), of(4, 2, 1)},
		{of(3, 1, 0), of(3, 2, 0), of(0, 1, 2, 3, 4, 5, 6)},
		{poly.Poly{3, 2, 5, 0}, poly.Poly{255, 7, 4}, of(0, 1, 2, 3)},
		{of(most-1, 0), of(1, 0), of(most, most-1, 1, 0)},
		{of(most-1, 0), of(most-1, 0), of(2*most-2, 0)},
		{of(most - 1), make(poly.Poly, most), nil},
	} {
		if got := poly.Mul(x.a, x.b); !same(got, x.want) {
			t.Errorf("%d: %d", i, got)
		}
		if got := poly.Mul(x.b, x.a); !same(got, x.want) {
			t.Errorf("%d: exchanged: %d", i, got)
		}
	}
}

func TestMulOfRandomLists(t *testing.T) {
	r := rand.New(rand.NewSource(4))
	for range 3000 {
		x, y := random(r, 32), random(r, 32)
		a, b := disguised(r, fromBits(x)), disguised(r, fromBits(y))
		if got := poly.Mul(a, b); !same(got, fromBits(mulBits(x, y))) {
			t.Fatalf("Mul(%d, %d): %d; want %d", a, b, got, fromBits(mulBits(x, y)))
		}
	}
}

func TestShift(t *testing.T) {
	for i, x := range []struct {
		p    poly.Poly
		n    int
		want poly.Poly
	}{
		{nil, 0, nil},
		{nil, 5, nil},
		{poly.Poly{0, 2, 0}, 3, nil},
		{of(2, 0), 0, of(2, 0)},
		{of(2, 0), 1, of(3, 1)},
		{of(2, 0), 7, of(9, 7)},
		{poly.Poly{3, 0, 7, 2}, 2, of(4, 2)},
		{of(0), most, of(most)},
		{of(0), most - 1, of(most - 1)},
		{of(most-1, 1), most, of(2*most-1, most+1)},
		{of(2, 0), -1, nil},
		{of(2, 0), most + 1, nil},
		{of(2, 0), math.MaxInt, nil},
		{of(2, 0), math.MinInt, nil},
		{nil, -1, nil},
		{nil, most + 1, nil},
	} {
		if got := poly.Shift(x.p, x.n); !same(got, x.want) {
			t.Errorf("%d: %d", i, got)
		}
	}
}

func TestShiftIsAProduct(t *testing.T) {
	r := rand.New(rand.NewSource(5))
	for range 1000 {
		p, n := disguised(r, fromBits(random(r, 64))), r.Intn(200)
		if got, want := poly.Shift(p, n), poly.Mul(p, of(n)); !same(got, want) {
			t.Fatalf("Shift(%d, %d): %d; want %d", p, n, got, want)
		}
	}
}

// P4.3

func TestMod(t *testing.T) {
	for i, x := range []struct {
		a, g, want poly.Poly
		ok         bool
	}{
		{nil, nil, nil, false},
		{of(2, 0), nil, nil, false},
		{of(2, 0), poly.Poly{0, 0}, nil, false},
		{of(2, 0), poly.Poly{2, 4, 128}, nil, false},
		{nil, of(1, 0), nil, true},
		{poly.Poly{2, 0}, of(1, 0), nil, true},
		{nil, of(0), nil, true},
		{of(5, 3, 0), of(0), nil, true},
		{of(2), of(1, 0), of(0), true},
		{of(2, 0), of(1, 0), nil, true},
		{of(0), of(1, 0), of(0), true},
		{of(1), of(2, 0), of(1), true},
		{of(1, 0), of(2, 0), of(1, 0), true},
		{of(2, 1), of(2, 0), of(1, 0), true},
		{of(3, 2, 0), of(3, 2, 0), nil, true},
		{of(3), of(3, 1, 0), of(1, 0), true},
		{of(6, 5, 4), of(1), nil, true},
		{of(6, 5, 0), of(1), of(0), true},
		{poly.Poly{2, 4, 255, 6, 0}, poly.Poly{7, 3, 2}, of(0), true},
		{of(most-1, 3, 0), of(most - 1), of(3, 0), true},
		{of(most - 2), of(most-1, 0), of(most - 2), true},
		{of(most - 1), of(1, 0), of(0), true},
	} {
		got, ok := poly.Mod(x.a, x.g)
		if !same(got, x.want) || ok != x.ok {
			t.Errorf("%d: %d, %t", i, got, ok)
		}
	}
}

func TestModOfRandomLists(t *testing.T) {
	r := rand.New(rand.NewSource(6))
	for range 5000 {
		x, y := random(r, 64), random(r, 40)
		a, g := disguised(r, fromBits(x)), disguised(r, fromBits(y))
		got, ok := poly.Mod(a, g)
		if ok != (y != 0) {
			t.Fatalf("Mod(%d, %d): %t", a, g, ok)
		}
		var want poly.Poly
		if ok {
			want = fromBits(modBits(x, y))
		}
		if !same(got, want) {
			t.Fatalf("Mod(%d, %d): %d; want %d", a, g, got, want)
		}
		if ok && poly.Degree(got) >= poly.Degree(g) {
			t.Fatalf("Mod(%d, %d): %d has too great a degree", a, g, got)
		}
	}
}

// P4.4

func TestOf(t *testing.T) {
	for i, x := range []struct {
		b    []byte
		want poly.Poly
	}{
		{nil, nil},
		{[]byte{}, nil},
		{[]byte{0}, nil},
		{[]byte{0, 0, 0}, nil},
		{[]byte{1}, of(7)},
		{[]byte{0x80}, of(0)},
		{[]byte{0x40}, of(1)},
		{[]byte{0x83}, of(0, 6, 7)},
		{[]byte{0xff}, of(0, 1, 2, 3, 4, 5, 6, 7)},
		{[]byte{1, 0}, of(15)},
		{[]byte{0x80, 0}, of(8)},
		{[]byte{0, 1}, of(7)},
		{[]byte{0, 0x80}, of(0)},
		{[]byte{0x10, 0x02, 0x41}, of(16+3, 8+6, 7, 1)},
		{append(make([]byte, most/8-1), 1), of(7)},
		{append([]byte{1}, make([]byte, most/8-1)...), of(most - 1)},
	} {
		if got := poly.Of(x.b); !same(got, x.want) {
			t.Errorf("%d: %d", i, got)
		}
	}
}

func TestOfEveryBit(t *testing.T) {
	for n := 1; n < 12; n++ {
		for i := range n {
			for k := range 8 {
				b := make([]byte, n)
				b[i] = 1 << k
				if got, want := poly.Of(b), of(8*n-1-8*i-k); !same(got, want) {
					t.Errorf("Of(%d): %d; want %d", b, got, want)
				}
			}
		}
	}
}

func TestWord(t *testing.T) {
	for i, x := range []struct {
		p    poly.Poly
		want uint32
		ok   bool
	}{
		{nil, 0, true},
		{poly.Poly{0, 2}, 0, true},
		{make(poly.Poly, 40), 0, true},
		{of(0), 1 << 31, true},
		{of(1), 1 << 30, true},
		{of(31), 1, true},
		{of(31, 0), 1<<31 | 1, true},
		{poly.Ones(32), math.MaxUint32, true},
		{poly.Poly{3, 4, 255}, 1<<31 | 1<<29, true},
		{append(poly.Ones(32), 2, 0, 254), math.MaxUint32, true},
		{of(32), 0, false},
		{of(32, 31, 0), 0, false},
		{poly.Ones(33), 0, false},
		{append(make(poly.Poly, 32), 3, 0), 0, false},
		{of(40), 0, false},
		{of(most-1, 5), 0, false},
		{poly.Generator(), 0, false},
	} {
		if got, ok := poly.Word(x.p); got != x.want || ok != x.ok {
			t.Errorf("%d: %#x, %t", i, got, ok)
		}
	}
}

func TestWordOfRandomLists(t *testing.T) {
	r := rand.New(rand.NewSource(7))
	for range 3000 {
		x := random(r, 34)
		want, ok := bits.Reverse32(uint32(x)), x>>32 == 0
		if !ok {
			want = 0
		}
		p := disguised(r, fromBits(x))
		if got, isWord := poly.Word(p); got != want || isWord != ok {
			t.Fatalf("Word(%d): %#x, %t; want %#x, %t", p, got, isWord, want, ok)
		}
	}
}

func TestOnes(t *testing.T) {
	for _, n := range []int{1, 2, 3, 7, 8, 31, 32, 33, 64, 1000, most - 1, most} {
		got := poly.Ones(n)
		if len(got) != n || bytes.Count(got, []byte{1}) != n {
			t.Errorf("Ones(%d) has %d coefficients, %d of them 1", n, len(got), bytes.Count(got, []byte{1}))
		}
	}
	for _, n := range []int{0, -1, -2, -most, math.MinInt, most + 1, 2 * most, math.MaxInt} {
		if got := poly.Ones(n); len(got) != 0 {
			t.Errorf("Ones(%d) has %d coefficients", n, len(got))
		}
	}
}

// P4.5

func TestGenerator(t *testing.T) {
	if got := poly.Generator(); !same(got, fromBits(generator)) {
		t.Errorf("%d", got)
	}
	if got := poly.Degree(poly.Generator()); got != 32 {
		t.Errorf("degree %d", got)
	}
}

// The generator is that of CRC-32C, of which the library has a table.
func TestGeneratorIsThatOfTheLibrary(t *testing.T) {
	lower, ok := poly.Word(poly.Add(poly.Generator(), of(32)))
	if !ok || lower != crc32.Castagnoli {
		t.Errorf("%#x, %t; want %#x", lower, ok, uint32(crc32.Castagnoli))
	}
	r := rand.New(rand.NewSource(8))
	for range 50 {
		b := make([]byte, r.Intn(80))
		r.Read(b)
		// The library inverts the first 32 bits, and those of the result.
		shifted := poly.Shift(poly.Of(b), 32)
		inverted := poly.Shift(poly.Ones(32), 8*len(b))
		rest, _ := poly.Mod(poly.Add(shifted, inverted), poly.Generator())
		got, _ := poly.Word(poly.Add(rest, poly.Ones(32)))
		if want := crc32.Checksum(b, crc32.MakeTable(crc32.Castagnoli)); got != want {
			t.Fatalf("of %d: %#x; want %#x", b, got, want)
		}
	}
}

// P4.6

func TestRemaindersOfSumsAndProducts(t *testing.T) {
	r := rand.New(rand.NewSource(9))
	divisor := func() poly.Poly {
		if r.Intn(3) == 0 {
			return poly.Generator()
		}
		return disguised(r, fromBits(random(r, 40)|1<<r.Intn(40)))
	}
	long := func() poly.Poly {
		b := make([]byte, r.Intn(30))
		r.Read(b)
		return disguised(r, poly.Of(b))
	}
	mod := func(a, g poly.Poly) poly.Poly {
		rest, ok := poly.Mod(a, g)
		if !ok || poly.Degree(rest) >= poly.Degree(g) {
			t.Fatalf("Mod(%d, %d): %d, %t", a, g, rest, ok)
		}
		return rest
	}
	for range 1000 {
		a, b, g := long(), long(), divisor()
		rest := mod(a, g)
		if got := mod(poly.Add(a, rest), g); len(got) != 0 {
			t.Fatalf("%d minus %d is not a multiple of %d", a, rest, g)
		}
		if got := mod(poly.Add(poly.Mul(b, g), rest), g); !same(got, rest) {
			t.Fatalf("a multiple of %d and %d: remainder %d", g, rest, got)
		}
		if got, want := mod(poly.Add(a, b), g), poly.Add(rest, mod(b, g)); !same(got, want) {
			t.Fatalf("%d and %d modulo %d: %d; want %d", a, b, g, got, want)
		}
	}
}

// P1 and the rules

func TestArgumentsStayAsTheyAreAndAreNotShared(t *testing.T) {
	r := rand.New(rand.NewSource(10))
	full := func(n int) []byte {
		p := make([]byte, n)
		r.Read(p)
		return p
	}
	first, second, third := full(60), full(60), full(60)
	copies := [][]byte{bytes.Clone(first), bytes.Clone(second), bytes.Clone(third)}
	for n := range 30 {
		// Each list has capacity that is not used, and that is looked at too.
		a, b, c := poly.Poly(first[:n]), poly.Poly(second[:r.Intn(30)]), poly.Poly(third[:r.Intn(30)])
		rest, _ := poly.Mod(a, b)
		zero, _ := poly.Mod(a, poly.Poly(third[:0]))
		poly.Word(a)
		poly.Degree(a)
		for i, p := range []poly.Poly{
			poly.Reduce(a), poly.Add(a), poly.Add(a, b), poly.Add(nil, a, b, c), poly.Add(a, nil, b), poly.Mul(a, b),
			poly.Mul(a, poly.Ones(1)), poly.Shift(a, 0), poly.Shift(a, 3), rest, zero, poly.Of(a), poly.Ones(n), poly.Generator(),
		} {
			p = p[:cap(p)]
			for k := range p {
				p[k] ^= 0xff
			}
			if !bytes.Equal(first, copies[0]) || !bytes.Equal(second, copies[1]) || !bytes.Equal(third, copies[2]) {
				t.Fatalf("%d: arguments changed", i)
			}
		}
	}
}

func TestTheListOfAddStays(t *testing.T) {
	l := []poly.Poly{{1, 2, 3}, {4, 5}, nil}
	poly.Add(poly.Poly{7}, l[:2]...)
	if !same(l[0], poly.Poly{1, 2, 3}) || !same(l[1], poly.Poly{4, 5}) || l[2] != nil {
		t.Errorf("%d", l)
	}
}

func TestResultsDependOnTheArgumentsOnly(t *testing.T) {
	for range 2 {
		for _, p := range []poly.Poly{poly.Generator(), poly.Ones(9)} {
			clear(p)
		}
		if !same(poly.Generator(), fromBits(generator)) || !same(poly.Ones(9), fromBits(1<<9-1)) {
			t.Error("a result was kept")
		}
	}
}

func TestLongLists(t *testing.T) {
	ones := poly.Ones(most)
	// (x + 1) times the sum of all powers is x^most + 1.
	if got := poly.Mul(of(1, 0), ones); !same(got, of(most, 0)) {
		t.Error("product of x + 1 and ones")
	}
	if got, ok := poly.Mod(ones, of(1, 0)); len(got) != 0 || !ok {
		t.Error("ones modulo x + 1", len(got), ok)
	}
	if got := poly.Add(ones, poly.Shift(poly.Ones(most-1), 1)); !same(got, of(0)) {
		t.Error("sum of ones", len(got))
	}
	if got := poly.Degree(poly.Shift(ones, most)); got != 2*most-1 {
		t.Error("degree", got)
	}
}
