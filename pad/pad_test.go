package pad_test

import (
	"bytes"
	"math"
	"math/rand"
	"slices"
	"testing"

	"wharf/pad"
)

// most is the greatest number of which the chapter speaks.
const most = 1 << 40

// gaps are the bytes of padding by what is left over of a division by 4.
var gaps = [4]int{0, 3, 2, 1}

// someNumbers are all the small ones, and those at the bounds of the widths of
// numbers and of what the chapter permits.
func someNumbers() []int {
	var l []int
	for n := range 300 {
		l = append(l, n)
	}
	for _, bound := range []int{1 << 16, 1 << 31, 1 << 32, most / 2} {
		for n := bound - 5; n <= bound+5; n++ {
			l = append(l, n)
		}
	}
	for n := most - 9; n <= most; n++ {
		l = append(l, n)
	}
	return l
}

// P3.1

func TestGapAndUp(t *testing.T) {
	for _, x := range []struct{ n, gap, up int }{
		{0, 0, 0}, {1, 3, 4}, {2, 2, 4}, {3, 1, 4}, {4, 0, 4}, {5, 3, 8}, {6, 2, 8}, {7, 1, 8}, {8, 0, 8},
		{65531, 1, 65532}, {65535, 1, 65536}, {most - 3, 3, most}, {most - 1, 1, most}, {most, 0, most},
	} {
		if got := pad.Gap(x.n); got != x.gap {
			t.Errorf("Gap(%d): %d; want %d", x.n, got, x.gap)
		}
		if got := pad.Up(x.n); got != x.up {
			t.Errorf("Up(%d): %d; want %d", x.n, got, x.up)
		}
	}
}

func TestGapIsTheNumberOfBytesOfThePadding(t *testing.T) {
	for _, n := range someNumbers() {
		if got := pad.Gap(n); got != gaps[n%4] {
			t.Errorf("Gap(%d): %d; want %d", n, got, gaps[n%4])
		}
	}
}

func TestUpIsTheSum(t *testing.T) {
	for _, n := range someNumbers() {
		if got := pad.Up(n); got != n+gaps[n%4] {
			t.Errorf("Up(%d): %d; want %d", n, got, n+gaps[n%4])
		}
	}
}

func TestBytes(t *testing.T) {
	for _, x := range []struct{ b, want []byte }{
		{nil, nil},
		{[]byte{}, nil},
		{[]byte{7}, []byte{7, 0, 0, 0}},
		{[]byte{0}, []byte{0, 0, 0, 0}},
		{[]byte{7, 8}, []byte{7, 8, 0, 0}},
		{[]byte{7, 8, 9}, []byte{7, 8, 9, 0}},
		{[]byte{7, 8, 9, 10}, []byte{7, 8, 9, 10}},
		{[]byte{0, 0, 0, 0}, []byte{0, 0, 0, 0}},
		{[]byte{7, 8, 9, 10, 11}, []byte{7, 8, 9, 10, 11, 0, 0, 0}},
	} {
		if got := pad.Bytes(x.b); !bytes.Equal(got, x.want) {
			t.Errorf("Bytes(%v): %v; want %v", x.b, got, x.want)
		}
	}
}

func TestBytesOfManySizes(t *testing.T) {
	for _, n := range []int{60, 61, 62, 63, 64, 1 << 16, 1<<16 + 1, 1<<16 + 2, 1<<16 + 3} {
		b := bytes.Repeat([]byte{0xff}, n)
		want := append(bytes.Repeat([]byte{0xff}, n), make([]byte, gaps[n%4])...)
		if got := pad.Bytes(b); !bytes.Equal(got, want) {
			t.Errorf("Bytes of %d bytes: %d bytes; want %d", n, len(got), len(want))
		}
	}
}

func TestBytesCopies(t *testing.T) {
	for n := range 9 {
		// There is room for the padding behind the bytes, and it is not 0.
		room := []byte{1, 2, 3, 4, 5, 6, 7, 8, 9, 10, 11, 12}
		before := slices.Clone(room)
		got := pad.Bytes(room[:n])
		if !bytes.Equal(room, before) {
			t.Errorf("Bytes of %d bytes changed what it was given: %v", n, room)
		}
		for i := range got {
			got[i] = 99
		}
		_ = append(got, 99)
		if !bytes.Equal(room, before) {
			t.Errorf("Bytes of %d bytes shares memory with them: %v", n, room)
		}
	}
}

// P3.2

func TestZero(t *testing.T) {
	for _, x := range []struct {
		b    []byte
		want bool
	}{
		{nil, true},
		{[]byte{}, true},
		{[]byte{0}, true},
		{[]byte{0, 0, 0}, true},
		{make([]byte, 1000), true},
		{[]byte{1}, false},
		{[]byte{0x80}, false},
		{[]byte{0xff, 0xff}, false},
		{[]byte{1, 0xff}, false}, // their sum is 0 modulo 256
		{[]byte{5, 5}, false},
	} {
		if got := pad.Zero(x.b); got != x.want {
			t.Errorf("Zero(%v): %v", x.b, got)
		}
	}
}

func TestZeroFindsOneBit(t *testing.T) {
	for n := 1; n <= 20; n++ {
		for at := range n {
			for bit := range 8 {
				b := make([]byte, n)
				b[at] = 1 << bit
				if pad.Zero(b) {
					t.Errorf("Zero of %d bytes with bit %d of byte %d: true", n, bit, at)
				}
			}
		}
	}
}

func TestZeroIgnoresUnusedCapacity(t *testing.T) {
	if b := []byte{0, 0, 1}; !pad.Zero(b[:2]) || !pad.Zero(b[:0]) {
		t.Error("Zero looks at bytes behind the slice")
	}
}

// P3.3

func mustBeNext(t *testing.T, b []byte, n, want int, found bool) {
	t.Helper()
	if end, ok := pad.Next(b, n); end != want || ok != found {
		t.Errorf("Next(%v, %d): %d, %v; want %d, %v", b, n, end, ok, want, found)
	}
}

func TestNext(t *testing.T) {
	for _, x := range []struct {
		b     []byte
		n     int
		want  int
		found bool
	}{
		{nil, 0, 0, true},
		{[]byte{9, 9}, 0, 0, true},
		{[]byte{9, 0, 0, 0}, 1, 4, true},
		{[]byte{9, 9, 0, 0}, 2, 4, true},
		{[]byte{9, 9, 9, 0}, 3, 4, true},
		{[]byte{9, 9, 9, 9}, 4, 4, true},
		{[]byte{0, 0, 0, 0}, 2, 4, true},
		{[]byte{9, 9, 9, 9, 9, 0, 0, 0}, 5, 8, true},
		{[]byte{9, 0, 0, 0, 9}, 1, 4, true}, // what follows may be anything
		{[]byte{9, 9, 9, 9, 9}, 4, 4, true},
		{[]byte{9, 1, 0, 0}, 1, 0, false},
		{[]byte{9, 0, 1, 0}, 1, 0, false},
		{[]byte{9, 0, 0, 1}, 1, 0, false},
		{[]byte{9, 9, 0, 0x80}, 2, 0, false},
		{[]byte{0, 0, 0, 1}, 3, 0, false},
		{[]byte{9, 0, 0}, 1, 0, false}, // the padding is cut off
		{[]byte{9}, 1, 0, false},
		{[]byte{9, 9, 9}, 3, 0, false},
		{[]byte{9, 9, 9, 9, 9, 0, 0}, 5, 0, false},
		{nil, 1, 0, false}, // and so are the bytes themselves
		{nil, 4, 0, false},
		{[]byte{0, 0, 0, 0}, 5, 0, false},
		{[]byte{0, 0, 0, 0}, 8, 0, false},
	} {
		mustBeNext(t, x.b, x.n, x.want, x.found)
	}
}

// nextByItsDefinition is slow, and for small n that are not negative.
func nextByItsDefinition(b []byte, n int) (int, bool) {
	up := n + gaps[n%4]
	if len(b) < up {
		return 0, false
	}
	for i := n; i < up; i++ {
		if b[i] != 0 {
			return 0, false
		}
	}
	return up, true
}

func TestNextOfManyBytes(t *testing.T) {
	random := rand.New(rand.NewSource(4))
	for size := range 14 {
		for range 60 {
			b := make([]byte, size)
			for i := range b {
				b[i] = byte(random.Intn(8) / 6 * random.Intn(256)) // most are 0
			}
			for n := range size + 6 {
				want, found := nextByItsDefinition(b, n)
				mustBeNext(t, b, n, want, found)
			}
		}
	}
}

func TestNextRefusesNegativeAndGreatNumbers(t *testing.T) {
	bad := []int{
		-1, -2, -3, -4, -5, -8, -most, math.MinInt, math.MinInt + 1, math.MinInt + 3,
		1 << 32, 1<<32 + 1, most, most + 1, math.MaxInt - 4, math.MaxInt - 3, math.MaxInt - 2, math.MaxInt - 1, math.MaxInt,
	}
	for _, b := range [][]byte{nil, {0}, {0, 0, 0, 0}, make([]byte, 12)} {
		for _, n := range bad {
			mustBeNext(t, b, n, 0, false)
		}
	}
}

func TestNextIgnoresUnusedCapacity(t *testing.T) {
	b := make([]byte, 12)
	for n := 1; n <= 8; n++ {
		if n%4 != 0 {
			mustBeNext(t, b[:n], n, 0, false)
		}
		mustBeNext(t, b[:n-1], n, 0, false)
	}
}

func TestNextFindsWhatBytesMakes(t *testing.T) {
	for n := range 40 {
		b := pad.Bytes(bytes.Repeat([]byte{0xff}, n))
		mustBeNext(t, b, n, len(b), true)
		mustBeNext(t, append(b, 0xff), n, len(b), true)
	}
}

// P3.4

func TestSizes(t *testing.T) {
	for _, x := range []struct {
		l    []int
		want int
	}{
		{nil, 0},
		{[]int{}, 0},
		{[]int{0}, 0},
		{[]int{5}, 5},
		{[]int{8}, 8},
		{[]int{5, 6}, 14},
		{[]int{6, 5}, 13},
		{[]int{4, 4}, 8},
		{[]int{1, 1, 1}, 9},
		{[]int{1, 2, 3, 4}, 16},
		{[]int{4, 3, 2, 1}, 13},
		{[]int{0, 0, 0}, 0},
		{[]int{5, 0}, 8}, // the last number is 0, but it is the last one
		{[]int{0, 5}, 5},
		{[]int{0, 5, 0, 3, 0}, 12},
		{[]int{most}, most},
		{[]int{most - 1}, most - 1},
		{[]int{most - 1, most - 1}, 2*most - 1},
		{[]int{most - 3, 1, most}, 2*most + 4},
	} {
		if got := pad.Sizes(x.l...); got != x.want {
			t.Errorf("Sizes(%v): %d; want %d", x.l, got, x.want)
		}
	}
	if got := pad.Sizes(); got != 0 {
		t.Errorf("Sizes(): %d", got)
	}
}

func TestSizesOfManyNumbers(t *testing.T) {
	random := rand.New(rand.NewSource(5))
	for count := 1; count < 30; count++ {
		for _, bound := range []int{5, 100, most} {
			l := make([]int, count)
			want := 0
			for i := range l {
				l[i] = random.Intn(bound + 1)
				want += l[i] + gaps[l[i]%4]
			}
			want -= gaps[l[count-1]%4]
			before := slices.Clone(l)
			if got := pad.Sizes(l...); got != want {
				t.Errorf("Sizes(%v): %d; want %d", l, got, want)
			}
			if !slices.Equal(l, before) {
				t.Errorf("Sizes changed %v to %v", before, l)
			}
		}
	}
}

// The sum is the size of the bytes that are put one after the other.
func TestSizesOfBytes(t *testing.T) {
	random := rand.New(rand.NewSource(6))
	for range 200 {
		var l []int
		var all []byte
		for range random.Intn(8) {
			part := make([]byte, random.Intn(11))
			all = append(pad.Bytes(all), part...)
			l = append(l, len(part))
		}
		if got := pad.Sizes(l...); got != len(all) {
			t.Errorf("Sizes(%v): %d; want %d", l, got, len(all))
		}
	}
}

// P3.5

func TestUpIsTheLeastMultiple(t *testing.T) {
	for _, n := range someNumbers() {
		up := pad.Up(n)
		if up%4 != 0 || up < n || up-4 >= n {
			t.Errorf("Up(%d): %d", n, up)
		}
		if up != n+pad.Gap(n) {
			t.Errorf("Up(%d): %d, but Gap: %d", n, up, pad.Gap(n))
		}
	}
}
