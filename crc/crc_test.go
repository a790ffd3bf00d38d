package crc_test

import (
	"bytes"
	"hash/crc32"
	"math"
	"math/bits"
	"math/rand"
	"slices"
	"sync"
	"testing"

	"wharf/crc"
)

// The greatest numbers of bytes of which the chapter speaks: those of the parts
// of Sum (and the zeros of Zeros), those of Slow, and those of P5.5.
const (
	mostBytes  = 1 << 20
	mostSlow   = 1 << 12
	mostPacket = 65535
)

// generator has the coefficients of the generator: its bit i is that of x^i.
const generator = 1<<32 | 1<<28 | 1<<27 | 1<<26 | 1<<25 | 1<<23 | 1<<22 | 1<<20 | 1<<19 | 1<<18 | 1<<14 | 1<<13 | 1<<11 | 1<<10 | 1<<9 | 1<<8 | 1<<6 | 1

// divided returns the checksum of b by its definition, without polynomials of
// layer 4: from the highest power down, one bit of M*x^32 + O*x^(8*n) at a time
// is brought down into the rest of the division.
func divided(b []byte) uint32 {
	var list []uint64
	for _, x := range append(bytes.Clone(b), 0, 0, 0, 0) {
		for k := range 8 {
			list = append(list, uint64(x>>k&1))
		}
	}
	for i := range 32 {
		list[i] ^= 1
	}
	rest := uint64(0)
	for _, bit := range list {
		rest = rest<<1 | bit
		if rest>>32 == 1 {
			rest ^= generator
		}
	}
	return ^bits.Reverse32(uint32(rest))
}

// library returns the checksum of b as the library of Go computes it.
func library(b []byte) uint32 { return crc32.Checksum(b, crc32.MakeTable(crc32.Castagnoli)) }

// random returns n random bytes.
func random(r *rand.Rand, n int) []byte {
	b := make([]byte, n)
	r.Read(b)
	return b
}

// sealed returns a random packet of n bytes that is sealed, by the library's
// checksum.
func sealed(r *rand.Rand, n int) []byte {
	b := random(r, n)
	clear(b[8:12])
	sum := library(b)
	for i := range 4 {
		b[8+i] = byte(sum >> (8 * i))
	}
	return b
}

// invert inverts a bit of b: the lowest one of the first byte has the index 0.
func invert(b []byte, bit int) { b[bit/8] ^= 1 << (bit % 8) }

// counted returns n bytes that count from first on by step.
func counted(n int, first, step byte) []byte {
	b := make([]byte, n)
	for i := range b {
		b[i] = first + byte(i)*step
	}
	return b
}

// firstResult is that of the first call of the package, which no other one has
// prepared.
var firstResult = crc.Zeros(0, 32)

// P5.1

func TestKnownChecksums(t *testing.T) {
	for i, x := range []struct {
		b    []byte
		want uint32
	}{
		{nil, 0},
		{[]byte{}, 0},
		{[]byte("123456789"), 0xe3069283},
		{[]byte("a"), 0xc1d04330},
		// The next five are those of RFC 3720, B.4.
		{make([]byte, 32), 0x8a9136aa},
		{counted(32, 255, 0), 0x62a8ab43},
		{counted(32, 0, 1), 0x46dd794e},
		{counted(32, 31, 255), 0x113fdb5c},
		{[]byte{
			0x01, 0xc0, 0, 0, 0, 0, 0, 0, 0, 0, 0, 0, 0, 0, 0, 0,
			0x14, 0, 0, 0, 0, 0, 0x04, 0, 0, 0, 0, 0x14, 0, 0, 0, 0x18,
			0x28, 0, 0, 0, 0, 0, 0, 0, 0x02, 0, 0, 0, 0, 0, 0, 0,
		}, 0xd9963a56},
	} {
		if got := crc.Sum(x.b); got != x.want {
			t.Errorf("%d: Sum: %#x; want %#x", i, got, x.want)
		}
		if got := crc.Slow(x.b); got != x.want {
			t.Errorf("%d: Slow: %#x; want %#x", i, got, x.want)
		}
		if got := divided(x.b); got != x.want {
			t.Errorf("%d: the test's own: %#x; want %#x", i, got, x.want)
		}
	}
}

func TestChecksumsOfRandomBytes(t *testing.T) {
	r := rand.New(rand.NewSource(1))
	for n := range 150 {
		for range 4 {
			b := random(r, n)
			want := divided(b)
			if sum, slow := crc.Sum(b), crc.Slow(b); sum != want || slow != want {
				t.Fatalf("of %d: Sum %#x, Slow %#x; want %#x", b, sum, slow, want)
			}
		}
	}
}

// Every byte and every power has its part in a checksum.
func TestChecksumsOfOneBit(t *testing.T) {
	for n := 1; n < 12; n++ {
		for bit := range 8 * n {
			b := make([]byte, n)
			invert(b, bit)
			want := divided(b)
			if sum, slow := crc.Sum(b), crc.Slow(b); sum != want || slow != want {
				t.Fatalf("of %d: Sum %#x, Slow %#x; want %#x", b, sum, slow, want)
			}
		}
	}
	for x := range 256 {
		b := []byte{byte(x)}
		want := divided(b)
		if sum, slow := crc.Sum(b), crc.Slow(b); sum != want || slow != want {
			t.Fatalf("of %d: Sum %#x, Slow %#x; want %#x", b, sum, slow, want)
		}
	}
}

func TestSumOfParts(t *testing.T) {
	b := []byte("123456789")
	if got := crc.Sum(); got != 0 {
		t.Errorf("without parts: %#x", got)
	}
	if got := crc.Sum(nil, []byte{}, nil); got != 0 {
		t.Errorf("of empty parts: %#x", got)
	}
	for i := range len(b) + 1 {
		for k := i; k <= len(b); k++ {
			for _, parts := range [][][]byte{
				{b[:i], b[i:k], b[k:]},
				{nil, b[:i], {}, b[i:k], nil, nil, b[k:], {}},
			} {
				if got := crc.Sum(parts...); got != 0xe3069283 {
					t.Errorf("%q: %#x", parts, got)
				}
			}
		}
	}
	if got, want := crc.Sum(b[5:], b[:5]), divided([]byte("678912345")); got != want {
		t.Errorf("parts in another order: %#x; want %#x", got, want)
	}
}

func TestSumOfManyParts(t *testing.T) {
	r := rand.New(rand.NewSource(2))
	for range 300 {
		parts := make([][]byte, r.Intn(20))
		for i := range parts {
			parts[i] = random(r, r.Intn(40))
		}
		all := slices.Concat(parts...)
		if got, want := crc.Sum(parts...), library(all); got != want {
			t.Fatalf("Sum(%d): %#x; want %#x", parts, got, want)
		}
	}
}

func TestChecksumsOfMostBytes(t *testing.T) {
	r := rand.New(rand.NewSource(3))
	b := random(r, mostBytes)
	if got, want := crc.Sum(b), library(b); got != want {
		t.Errorf("Sum: %#x; want %#x", got, want)
	}
	if got, want := crc.Sum(b[:7], b[7:mostBytes/2], b[mostBytes/2:]), library(b); got != want {
		t.Errorf("Sum of parts: %#x; want %#x", got, want)
	}
	single := make([][]byte, mostBytes)
	for i := range single {
		single[i] = b[i : i+1]
	}
	if got, want := crc.Sum(single...), library(b); got != want {
		t.Errorf("Sum of single bytes: %#x; want %#x", got, want)
	}
	for _, n := range []int{mostSlow, mostSlow - 1} {
		if got, want := crc.Slow(b[:n]), library(b[:n]); got != want {
			t.Errorf("Slow of %d bytes: %#x; want %#x", n, got, want)
		}
	}
}

// P5.2

func TestFewBytesAreNoPacket(t *testing.T) {
	whole := sealed(rand.New(rand.NewSource(4)), 40)
	for n := range 12 {
		// What follows in the array is no part of the bytes.
		for _, b := range [][]byte{whole[:n], make([]byte, n), counted(n, 255, 0)} {
			if got, ok := crc.Packet(b); got != 0 || ok {
				t.Errorf("Packet of %d bytes: %#x, %t", n, got, ok)
			}
			if got, ok := crc.Seal(b); len(got) != 0 || ok {
				t.Errorf("Seal of %d bytes: %d, %t", n, got, ok)
			}
			if crc.Sealed(b) {
				t.Errorf("Sealed of %d bytes", n)
			}
		}
	}
	if got, ok := crc.Packet(nil); got != 0 || ok {
		t.Errorf("Packet(nil): %#x, %t", got, ok)
	}
	if got, ok := crc.Seal(nil); len(got) != 0 || ok || crc.Sealed(nil) {
		t.Errorf("Seal(nil): %d, %t; Sealed(nil): %t", got, ok, crc.Sealed(nil))
	}
}

func TestPacket(t *testing.T) {
	r := rand.New(rand.NewSource(5))
	for n := 12; n < 140; n++ {
		b := random(r, n)
		empty := bytes.Clone(b)
		clear(empty[8:12])
		want := divided(empty)
		if got, ok := crc.Packet(b); got != want || !ok {
			t.Fatalf("Packet(%d): %#x, %t; want %#x", b, got, ok, want)
		}
		if got, ok := crc.Packet(empty); got != want || !ok {
			t.Fatalf("Packet(%d): %#x, %t; want %#x", empty, got, ok, want)
		}
	}
}

func TestPacketLooksNotAtTheField(t *testing.T) {
	r := rand.New(rand.NewSource(6))
	for _, n := range []int{12, 13, 16, 99} {
		b := random(r, n)
		want, _ := crc.Packet(b)
		for i := range b {
			changed := bytes.Clone(b)
			changed[i] ^= 0x5a
			field := i >= 8 && i < 12
			if got, ok := crc.Packet(changed); (got == want) != field || !ok {
				t.Errorf("%d bytes, byte %d changed: %#x, %t; without it %#x", n, i, got, ok, want)
			}
		}
	}
}

func TestSealedNeedsTheLowestByteFirst(t *testing.T) {
	b := []byte{0, 1, 0, 2, 0, 0, 0, 3, 0xff, 0xff, 0xff, 0xff, 11, 0, 0, 4}
	empty := bytes.Clone(b)
	clear(empty[8:12])
	sum := divided(empty)
	one, two, three, four := byte(sum), byte(sum>>8), byte(sum>>16), byte(sum>>24)
	for _, x := range []struct {
		field []byte
		want  bool
	}{
		{[]byte{one, two, three, four}, true},
		{[]byte{four, three, two, one}, false},
		{[]byte{two, one, four, three}, false},
		{[]byte{three, four, one, two}, false},
		{[]byte{^one, ^two, ^three, ^four}, false},
		{[]byte{0, 0, 0, 0}, false},
		{[]byte{255, 255, 255, 255}, false},
	} {
		copy(b[8:12], x.field)
		if got := crc.Sealed(b); got != x.want {
			t.Errorf("the checksum %#x, the field %#x: %t", sum, x.field, got)
		}
	}
}

func TestSealed(t *testing.T) {
	r := rand.New(rand.NewSource(7))
	for n := 12; n < 100; n++ {
		b := sealed(r, n)
		if !crc.Sealed(b) {
			t.Fatalf("%d is not sealed", b)
		}
		b[8+r.Intn(4)] ^= byte(1 + r.Intn(255))
		if crc.Sealed(b) {
			t.Fatalf("%d is sealed", b)
		}
	}
	b := sealed(r, 24)
	for _, other := range [][]byte{b[:23], b[:20], b[:12], b[4:], append(bytes.Clone(b), 0), append(bytes.Clone(b), 0, 0, 0, 0)} {
		if crc.Sealed(other) {
			t.Errorf("%d is sealed as %d", other, b)
		}
	}
}

// P5.3

func TestSeal(t *testing.T) {
	r := rand.New(rand.NewSource(8))
	for n := 12; n < 140; n++ {
		want := sealed(r, n)
		b := bytes.Clone(want)
		r.Read(b[8:12])
		for _, given := range [][]byte{b, want} {
			got, ok := crc.Seal(given)
			if !bytes.Equal(got, want) || !ok || !crc.Sealed(got) {
				t.Fatalf("Seal(%d): %d, %t; want %d", given, got, ok, want)
			}
			sum, _ := crc.Packet(given)
			if field := uint32(got[8]) | uint32(got[9])<<8 | uint32(got[10])<<16 | uint32(got[11])<<24; field != sum {
				t.Fatalf("Seal(%d): the field %#x; want %#x", given, field, sum)
			}
		}
	}
}

func TestSealOfMostBytes(t *testing.T) {
	want := sealed(rand.New(rand.NewSource(9)), mostBytes)
	b := bytes.Clone(want)
	clear(b[8:12])
	if got, ok := crc.Seal(b); !bytes.Equal(got, want) || !ok || !crc.Sealed(want) || crc.Sealed(b) {
		t.Error("not sealed", ok)
	}
}

// P5.4

func TestZeros(t *testing.T) {
	r := rand.New(rand.NewSource(10))
	for range 40 {
		b := random(r, r.Intn(30))
		for n := range 80 {
			want := divided(append(bytes.Clone(b), make([]byte, n)...))
			if got := crc.Zeros(divided(b), n); got != want {
				t.Fatalf("of %d and %d zero bytes: %#x; want %#x", b, n, got, want)
			}
		}
	}
}

func TestZerosNeedsNoOtherCall(t *testing.T) {
	if firstResult != 0x8a9136aa {
		t.Errorf("%#x", firstResult)
	}
}

// Each sum is the checksum of some 4 bytes, so that these give any sum.
func TestZerosOfAnySum(t *testing.T) {
	r := rand.New(rand.NewSource(11))
	for range 2000 {
		b, n := random(r, 4), r.Intn(300)
		if got, want := crc.Zeros(library(b), n), library(append(b, make([]byte, n)...)); got != want {
			t.Fatalf("%d and %d zero bytes: %#x; want %#x", b, n, got, want)
		}
	}
	for i, x := range []struct {
		sum  uint32
		n    int
		want uint32
	}{
		{0, 0, 0},
		{math.MaxUint32, 0, math.MaxUint32},
		{0x12345678, 0, 0x12345678},
		{0, 32, 0x8a9136aa},
		// A remainder 0 stays 0, whatever number of zeros follows.
		{math.MaxUint32, 1, math.MaxUint32},
		{math.MaxUint32, mostBytes, math.MaxUint32},
	} {
		if got := crc.Zeros(x.sum, x.n); got != x.want {
			t.Errorf("%d: %#x", i, got)
		}
	}
}

func TestZerosOfMostBytes(t *testing.T) {
	b := []byte("123456789")
	for _, n := range []int{4096, 65535, 65536, mostBytes - 1, mostBytes} {
		want := library(append(bytes.Clone(b), make([]byte, n)...))
		if got := crc.Zeros(0xe3069283, n); got != want {
			t.Errorf("%d zero bytes: %#x; want %#x", n, got, want)
		}
		if got := crc.Zeros(crc.Zeros(0xe3069283, n/3), n-n/3); got != want {
			t.Errorf("%d zero bytes, in two parts: %#x; want %#x", n, got, want)
		}
	}
}

// P5.5

// opens checks that a sealed packet is not sealed, if some bits are inverted.
// The packet stays as it is.
func opens(t *testing.T, b []byte, list ...int) {
	t.Helper()
	for _, bit := range list {
		invert(b, bit)
	}
	if crc.Sealed(b) {
		t.Fatalf("sealed with %d bytes, although the bits %d are inverted", len(b), list)
	}
	for _, bit := range list {
		invert(b, bit)
	}
}

func TestOneToThreeInvertedBitsOfSmallPackets(t *testing.T) {
	r := rand.New(rand.NewSource(12))
	for _, n := range []int{12, 16, 28} {
		b := sealed(r, n)
		for i := range 8 * n {
			opens(t, b, i)
			for j := range i {
				opens(t, b, i, j)
				for k := range j {
					// All triples of the greatest one would take long.
					if n < 28 || k%7 == 0 {
						opens(t, b, i, j, k)
					}
				}
			}
		}
		if !crc.Sealed(b) {
			t.Fatal("the packet did not stay as it was")
		}
	}
}

func TestOneToThreeInvertedBitsOfLargePackets(t *testing.T) {
	r := rand.New(rand.NewSource(13))
	for _, n := range []int{1500, 65532, mostPacket} {
		b := sealed(r, n)
		for _, bit := range []int{0, 63, 64, 95, 96, 8*n - 1} {
			opens(t, b, bit)
		}
		for range 60 {
			l := r.Perm(8 * n)[:3]
			opens(t, b, l[0])
			opens(t, b, l[0], l[1])
			opens(t, b, l...)
			// Two bits of the field, and two around it.
			opens(t, b, 64+l[0]%16, 80+l[1]%16, l[2])
			opens(t, b, l[0]%64, 96+l[1]%64)
		}
	}
}

// By how much a checksum changes when one bit of a packet is inverted depends
// only on the number of bytes behind the bit. A packet stays sealed only if the
// changes of all inverted bits cancel, a bit of the field being one of its own.
// So none of them is 0, no two are the same, and each has an odd number of
// ones, so that no three cancel either: this covers all bits of the longest
// packet.
func TestOneToThreeInvertedBitsOfTheLongestPacket(t *testing.T) {
	var changes []uint32
	for bit := range 32 {
		changes = append(changes, 1<<bit)
	}
	plain := crc.Sum([]byte{0})
	var inverted [8]uint32
	for k := range inverted {
		inverted[k] = crc.Sum([]byte{1 << k})
	}
	for behind := range mostPacket {
		if at := mostPacket - 1 - behind; at < 8 || at > 11 {
			for _, sum := range inverted {
				changes = append(changes, sum^plain)
			}
		}
		plain = crc.Zeros(plain, 1)
		for k, sum := range inverted {
			inverted[k] = crc.Zeros(sum, 1)
		}
	}
	if len(changes) != 8*mostPacket {
		t.Fatal(len(changes), "bits")
	}
	slices.Sort(changes)
	for i, change := range changes {
		if bits.OnesCount32(change)%2 == 0 {
			t.Fatalf("the change %#x has an even number of ones", change)
		}
		if i > 0 && change == changes[i-1] {
			t.Fatalf("the change %#x is that of two bits", change)
		}
	}
}

func TestInvertedBitsWithin32(t *testing.T) {
	r := rand.New(rand.NewSource(14))
	for _, n := range []int{12, 13, 16, 40, 300} {
		b := sealed(r, n)
		for _, area := range [][2]int{{0, 64}, {64, 96}, {96, 8 * n}} {
			for first := area[0]; first < area[1]; first++ {
				for range 20 {
					width := min(32, area[1]-first)
					list := []int{first}
					for k := 1; k < width; k++ {
						if r.Intn(2) == 0 {
							list = append(list, first+k)
						}
					}
					opens(t, b, list...)
				}
			}
		}
	}
}

// All patterns of 16 bits at some places, and 32 inverted bits at every place.
func TestAllPatternsOfInvertedBits(t *testing.T) {
	b := sealed(rand.New(rand.NewSource(15)), 24)
	for _, first := range []int{0, 5, 48, 64, 71, 80, 96, 103, 176} {
		for pattern := uint(1); pattern < 1<<16; pattern++ {
			var list []int
			for k := range 16 {
				if pattern>>k&1 == 1 {
					list = append(list, first+k)
				}
			}
			opens(t, b, list...)
		}
	}
	for first := range 8*len(b) - 31 {
		if first > 32 && first < 64 || first > 64 && first < 96 {
			continue // These 32 bits would be neither all in the field nor all on one side of it.
		}
		list := make([]int, 32)
		for k := range list {
			list[k] = first + k
		}
		opens(t, b, list...)
	}
}

// P1 and the rules

func TestArgumentsStayAsTheyAreAndAreNotShared(t *testing.T) {
	r := rand.New(rand.NewSource(16))
	full := random(r, 80)
	whole := bytes.Clone(full)
	for n := range 60 {
		b := full[:n]
		crc.Sum(b, full[n:n+3], b)
		crc.Slow(b)
		crc.Packet(b)
		crc.Sealed(b)
		got, _ := crc.Seal(b)
		got = got[:cap(got)]
		for i := range got {
			got[i] ^= 0xff
		}
		if !bytes.Equal(full, whole) {
			t.Fatalf("%d bytes: arguments changed", n)
		}
	}
	parts := [][]byte{{1, 2}, nil, {3}}
	crc.Sum(parts[:2]...)
	if !bytes.Equal(parts[0], []byte{1, 2}) || parts[1] != nil || !bytes.Equal(parts[2], []byte{3}) {
		t.Error("the parts given became", parts)
	}
}

func TestFunctionsMayBeCalledConcurrently(t *testing.T) {
	b := sealed(rand.New(rand.NewSource(17)), 200)
	want, sum := library(b), crc.Slow(append(bytes.Clone(b[:8]), append(make([]byte, 4), b[12:]...)...))
	var group sync.WaitGroup
	for range 16 {
		group.Go(func() {
			got, ok := crc.Packet(b)
			same, isPacket := crc.Seal(b)
			if crc.Sum(b) != want || crc.Zeros(0, 32) != 0x8a9136aa || got != sum || !ok || !bytes.Equal(same, b) || !isPacket || !crc.Sealed(b) {
				t.Error("other results than without concurrency")
			}
		})
	}
	group.Wait()
}
