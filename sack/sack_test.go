package sack_test

import (
	"encoding/binary"
	"math"
	"math/rand"
	"reflect"
	"slices"
	"sync"
	"testing"

	"wharf/api"
	"wharf/chunk"
	"wharf/sack"
)

// most is the greatest number of gaps and dups of a chunk.
const most = 16379

// gaps returns the gaps with pairs of bounds.
func gaps(bounds ...uint16) []sack.Gap {
	var l []sack.Gap
	for i := 0; i < len(bounds); i += 2 {
		l = append(l, sack.Gap{From: bounds[i], To: bounds[i+1]})
	}
	return l
}

// large returns a description with so many gaps and dups, all of which differ.
func large(gaps, dups int) sack.Sack {
	s := sack.Sack{Cum: 0x01020304, Window: 0x05060708}
	for i := range gaps {
		s.Gaps = append(s.Gaps, sack.Gap{From: uint16(i), To: uint16(3 * i)})
	}
	for i := range dups {
		s.Dups = append(s.Dups, uint32(i)*0x10001)
	}
	return s
}

// same reports whether all fields are the same, by the definition.
func same(a, b sack.Sack) bool {
	if len(a.Gaps) != len(b.Gaps) || len(a.Dups) != len(b.Dups) {
		return false
	}
	for i := range a.Gaps {
		if a.Gaps[i] != b.Gaps[i] {
			return false
		}
	}
	for i := range a.Dups {
		if a.Dups[i] != b.Dups[i] {
			return false
		}
	}
	a.Gaps, a.Dups, b.Gaps, b.Dups = nil, nil, nil, nil
	return reflect.DeepEqual(a, b)
}

// zeroChunk and zeroSack report whether a result is the zero value.
func zeroChunk(c api.Chunk) bool { return chunk.Same(c, api.Chunk{}) }
func zeroSack(s sack.Sack) bool  { return same(s, sack.Sack{}) }

// written returns the chunk of a description by its definition.
func written(s sack.Sack) api.Chunk {
	b := binary.BigEndian.AppendUint32(nil, s.Cum)
	b = binary.BigEndian.AppendUint32(b, s.Window)
	b = binary.BigEndian.AppendUint16(b, uint16(len(s.Gaps)))
	b = binary.BigEndian.AppendUint16(b, uint16(len(s.Dups)))
	for _, g := range s.Gaps {
		b = binary.BigEndian.AppendUint16(b, g.From)
		b = binary.BigEndian.AppendUint16(b, g.To)
	}
	for _, x := range s.Dups {
		b = binary.BigEndian.AppendUint32(b, x)
	}
	return api.Chunk{Type: 3, Data: b}
}

// modulo returns a - b modulo 2^32.
func modulo(a, b uint32) int64 { return (int64(a) - int64(b) + 1<<32) % (1 << 32) }

// covered reports whether a description covers a number, by the definition.
func covered(s sack.Sack, x uint32) bool {
	if modulo(s.Cum, x) < 1<<31 {
		return true
	}
	for _, g := range s.Gaps {
		if modulo(x, s.Cum) >= int64(g.From) && modulo(x, s.Cum) <= int64(g.To) {
			return true
		}
	}
	return false
}

// built returns the description of numbers that came, by its definition.
func built(cum, window uint32, came []uint32) sack.Sack {
	s := sack.Sack{Cum: cum, Window: window}
	has := map[uint32]bool{}
	for _, x := range came {
		counts := modulo(x, cum) >= 1 && modulo(x, cum) <= 1<<31-1
		if counts && has[x] || covered(sack.Sack{Cum: cum}, x) {
			s.Dups = append(s.Dups, x)
		}
		if counts {
			has[x] = true
		}
	}
	for has[uint32((int64(s.Cum)+1)%(1<<32))] {
		s.Cum = uint32((int64(s.Cum) + 1) % (1 << 32))
	}
	at := func(offset int64) bool { return has[uint32((int64(s.Cum)+offset)%(1<<32))] }
	for from := int64(1); from <= 65535; from++ {
		if !at(from) {
			continue
		}
		to := from
		for to < 65535 && at(to+1) {
			to++
		}
		s.Gaps = append(s.Gaps, sack.Gap{From: uint16(from), To: uint16(to)})
		from = to
	}
	return s
}

// builds reports an error, if Build does not return what built does.
func builds(t *testing.T, cum uint32, came ...uint32) sack.Sack {
	t.Helper()
	got, want := sack.Build(cum, 7, came...), built(cum, 7, came)
	if !same(got, want) {
		t.Fatalf("Build(%d, 7, %d): %v; want %v", cum, came[:min(len(came), 50)], got, want)
	}
	return got
}

// some returns a random description with at most n gaps and n dups, some of
// which are at the bounds.
func some(r *rand.Rand, n int) sack.Sack {
	s := sack.Sack{Cum: someCum(r), Window: r.Uint32()}
	for range r.Intn(n + 1) {
		s.Gaps = append(s.Gaps, sack.Gap{From: uint16(r.Uint32() >> r.Intn(32)), To: uint16(r.Uint32() >> r.Intn(32))})
	}
	for range r.Intn(n + 1) {
		s.Dups = append(s.Dups, r.Uint32()>>r.Intn(32))
	}
	return s
}

// someCum returns a random number; it is often near 2^32 or near 2^31.
func someCum(r *rand.Rand) uint32 {
	switch r.Intn(4) {
	case 0:
		return uint32(r.Intn(20) - 10)
	case 1:
		return uint32(1<<31 + r.Intn(20) - 10)
	}
	return r.Uint32()
}

// someOffset returns a random offset; it is often near one where something
// begins or ends.
func someOffset(r *rand.Rand, near uint32) uint32 {
	bounds := []uint32{0, 0, 0, 0, 65535, 65536, 1 << 31, 1<<32 - 65536}
	if r.Intn(20) == 0 {
		return r.Uint32()
	}
	return bounds[r.Intn(len(bounds))] + r.Uint32()%near - near/4
}

// changes are ways to change a description in one field.
func changes() []func(*sack.Sack) {
	return []func(*sack.Sack){
		func(s *sack.Sack) { s.Cum++ },
		func(s *sack.Sack) { s.Cum ^= 1 << 31 },
		func(s *sack.Sack) { s.Window++ },
		func(s *sack.Sack) { s.Window ^= 1 << 31 },
		func(s *sack.Sack) { s.Gaps = append(s.Gaps, sack.Gap{}) },
		func(s *sack.Sack) { s.Gaps[len(s.Gaps)-1].From++ },
		func(s *sack.Sack) { s.Gaps[0].From ^= 1 << 15 },
		func(s *sack.Sack) { s.Gaps[len(s.Gaps)-1].To++ },
		func(s *sack.Sack) { s.Gaps[0].To ^= 1 << 15 },
		func(s *sack.Sack) { s.Gaps = s.Gaps[1:] },
		func(s *sack.Sack) { s.Dups = append(s.Dups, 0) },
		func(s *sack.Sack) { s.Dups[len(s.Dups)-1]++ },
		func(s *sack.Sack) { s.Dups[0] ^= 1 << 31 },
		func(s *sack.Sack) { s.Dups = s.Dups[1:] },
	}
}

// filled returns a copy of a description in new memory, with unused capacity
// that is not zero.
func filled(s sack.Sack) sack.Sack {
	s.Gaps = append(slices.Clone(s.Gaps), sack.Gap{From: 0xaaaa, To: 0xbbbb})[:len(s.Gaps)]
	s.Dups = append(slices.Clone(s.Dups), 0xcccccccc)[:len(s.Dups)]
	return s
}

// isFilled reports whether a description is what filled made of another one.
func isFilled(s, from sack.Sack) bool {
	return same(s, from) && s.Gaps[:len(s.Gaps)+1][len(s.Gaps)] == sack.Gap{From: 0xaaaa, To: 0xbbbb} &&
		s.Dups[:len(s.Dups)+1][len(s.Dups)] == 0xcccccccc
}

// scribbleGaps, scribbleDups and scribbleBytes change all elements, also those
// of the unused capacity.
func scribbleGaps(l []sack.Gap) {
	l = l[:cap(l)]
	for i := range l {
		l[i].From ^= 0xffff
		l[i].To ^= 0xffff
	}
}

func scribbleDups(l []uint32) {
	l = l[:cap(l)]
	for i := range l {
		l[i] ^= 0xffffffff
	}
}

func scribbleBytes(l []byte) {
	l = l[:cap(l)]
	for i := range l {
		l[i] ^= 0xff
	}
}

// P14.1

func TestMake(t *testing.T) {
	for i, x := range []struct {
		s    sack.Sack
		want []byte
	}{
		{sack.Sack{}, make([]byte, 12)},
		{sack.Sack{Cum: 0x01020304, Window: 0x05060708}, []byte{1, 2, 3, 4, 5, 6, 7, 8, 0, 0, 0, 0}},
		{sack.Sack{Cum: 1<<32 - 1, Window: 1<<32 - 1}, []byte{255, 255, 255, 255, 255, 255, 255, 255, 0, 0, 0, 0}},
		{sack.Sack{Gaps: gaps(0x0102, 0x0304)}, []byte{0, 0, 0, 0, 0, 0, 0, 0, 0, 1, 0, 0, 1, 2, 3, 4}},
		{sack.Sack{Dups: []uint32{0x01020304}}, []byte{0, 0, 0, 0, 0, 0, 0, 0, 0, 0, 0, 1, 1, 2, 3, 4}},
		{
			sack.Sack{Cum: 1, Window: 2, Gaps: gaps(3, 4, 6, 65535), Dups: []uint32{1<<32 - 1, 0, 0}},
			[]byte{0, 0, 0, 1, 0, 0, 0, 2, 0, 2, 0, 3, 0, 3, 0, 4, 0, 6, 255, 255, 255, 255, 255, 255, 0, 0, 0, 0, 0, 0, 0, 0},
		},
		// Ranges are written as they are, also those with no offsets.
		{sack.Sack{Gaps: gaps(5, 4, 0, 0, 5, 4)}, []byte{0, 0, 0, 0, 0, 0, 0, 0, 0, 3, 0, 0, 0, 5, 0, 4, 0, 0, 0, 0, 0, 5, 0, 4}},
	} {
		want := api.Chunk{Type: 3, Data: x.want}
		got, ok := sack.Make(x.s)
		if !ok || !chunk.Same(got, want) || chunk.Check(got) != nil {
			t.Errorf("%d: Make(%v): %v, %t; want %v", i, x.s, got, ok, want)
		}
		if back, ok := sack.Of(want); !ok || !same(back, x.s) {
			t.Errorf("%d: Of(%v): %v, %t; want %v", i, want, back, ok, x.s)
		}
	}
}

func TestMakeOfMany(t *testing.T) {
	for _, x := range []struct {
		gaps, dups int
		want       bool
	}{
		{256, 0, true}, {0, 256, true}, {300, 1000, true}, {most - 1, 0, true}, {0, most - 1, true},
		{most, 0, true}, {0, most, true}, {1, most - 1, true}, {most - 1, 1, true}, {8000, most - 8000, true},
		{most + 1, 0, false}, {0, most + 1, false}, {1, most, false}, {most, 1, false}, {8000, most - 7999, false},
		{most, most, false}, {32768, 0, false}, {65535, 0, false}, {0, 65535, false}, {65536, 0, false}, {0, 65536, false},
		{65537, 1, false}, {1, 65537, false}, {65536, 65536, false}, {32768, 32768, false}, {1 << 20, 5, false},
	} {
		s := large(x.gaps, x.dups)
		c, ok := sack.Make(s)
		if ok != x.want || !ok && !zeroChunk(c) {
			t.Errorf("%d gaps and %d dups: %t, %d bytes", x.gaps, x.dups, ok, chunk.Size(c))
		}
		if !ok {
			continue
		}
		if chunk.Size(c) != 16+4*(x.gaps+x.dups) || chunk.Check(c) != nil || !chunk.Same(c, written(s)) {
			t.Errorf("%d gaps and %d dups: %d bytes", x.gaps, x.dups, chunk.Size(c))
		}
		if back, ok := sack.Of(c); !ok || !same(back, s) {
			t.Errorf("%d gaps and %d dups: %t", x.gaps, x.dups, ok)
		}
	}
}

func TestMakeOfRandomDescriptions(t *testing.T) {
	r := rand.New(rand.NewSource(1))
	for range 20000 {
		s := some(r, 6)
		c, ok := sack.Make(s)
		if !ok || !chunk.Same(c, written(s)) || chunk.Check(c) != nil {
			t.Fatalf("Make(%v): %v, %t", s, c, ok)
		}
		if back, ok := sack.Of(c); !ok || !same(back, s) {
			t.Fatalf("Of(%v): %v, %t; want %v", c, back, ok, s)
		}
	}
}

func TestOfOtherChunks(t *testing.T) {
	right := written(sack.Sack{Cum: 1, Gaps: gaps(2, 3), Dups: []uint32{4}}).Data
	counting := func(gaps, dups uint16, follow int) []byte {
		b := binary.BigEndian.AppendUint16(make([]byte, 8), gaps)
		return append(binary.BigEndian.AppendUint16(b, dups), make([]byte, follow)...)
	}
	deep := api.Node{}
	for range 20 {
		deep = api.Node{Type: 8, Kids: []api.Node{deep}}
	}
	for i, c := range []api.Chunk{
		{}, {Type: 3}, {Type: 3, Data: make([]byte, 4)}, {Type: 3, Data: make([]byte, 11)}, {Type: 3, Data: make([]byte, 13)},
		{Type: 3, Data: right[:len(right)-1]}, {Type: 3, Data: right[:len(right)-4]}, {Type: 3, Data: right[:12]},
		{Type: 3, Data: append(slices.Clone(right), 0)}, {Type: 3, Data: append(slices.Clone(right), 0, 0, 0, 0)},
		{Type: 3, Flags: 1, Data: right}, {Type: 3, Flags: 128, Data: right}, {Type: 3, Flags: 255, Data: make([]byte, 12)},
		{Type: 3, Data: right, Kids: []api.Node{{Type: 0x8000}}}, {Type: 3, Data: right, Kids: []api.Node{deep}},
		{Type: 3, Data: counting(1, 0, 0)}, {Type: 3, Data: counting(0, 1, 0)}, {Type: 3, Data: counting(0, 0, 4)},
		{Type: 3, Data: counting(2, 1, 8)}, {Type: 3, Data: counting(1, 1, 12)}, {Type: 3, Data: counting(65535, 1, 0)},
		{Type: 3, Data: counting(65535, 65535, 0)}, {Type: 3, Data: counting(32768, 32768, 0)}, {Type: 3, Data: counting(65535, 2, 4)},
		{Type: 3, Data: counting(most+1, 0, 4*most+4)}, {Type: 3, Data: counting(1, most, 4*most+4)}, {Type: 3, Data: counting(most, 0, 4*most+4)},
		{Type: 3, Data: counting(65535, 0, 4*65535)}, {Type: 3, Data: counting(0, 0, 4*65536)},
		{Type: 131, Data: right}, {Type: 67, Data: make([]byte, 12)},
	} {
		if s, ok := sack.Of(c); ok || !zeroSack(s) {
			t.Errorf("%d: %v, %t", i, s, ok)
		}
	}
	for kinds := range 256 {
		for _, data := range [][]byte{nil, {0, 0, 0, 0}, make([]byte, 12), make([]byte, 16), right} {
			c := api.Chunk{Type: byte(kinds), Data: data}
			want := kinds == 3 && (len(data) == 12 || len(data) == len(right))
			if s, ok := sack.Of(c); ok != want || !ok && !zeroSack(s) {
				t.Errorf("Of(%v): %v, %t", c, s, ok)
			}
		}
	}
}

func TestOfRandomChunks(t *testing.T) {
	r := rand.New(rand.NewSource(2))
	found := 0
	for range 50000 {
		c := api.Chunk{Type: 3, Data: make([]byte, r.Intn(8)*4)}
		if r.Intn(20) == 0 {
			c = api.Chunk{Type: byte(r.Intn(6)), Flags: byte(r.Intn(3)), Data: make([]byte, r.Intn(32))}
		}
		r.Read(c.Data)
		if len(c.Data) >= 12 {
			binary.BigEndian.PutUint16(c.Data[8:], uint16(r.Intn(4)))
			binary.BigEndian.PutUint16(c.Data[10:], uint16(r.Intn(4)))
		}
		s, ok := sack.Of(c)
		switch {
		case ok != (c.Type == 3 && chunk.Check(c) == nil):
			t.Fatalf("Of(%v): %t", c, ok)
		case !ok && !zeroSack(s):
			t.Fatalf("Of(%v): %v", c, s)
		case ok && !chunk.Same(written(s), c):
			t.Fatalf("Of(%v): %v", c, s)
		}
		if !ok {
			continue
		}
		found++
		if again, ok := sack.Make(s); !ok || !chunk.Same(again, c) {
			t.Fatalf("Make(%v): %v; want %v", s, again, c)
		}
	}
	if found < 1000 {
		t.Error(found, "sacks")
	}
}

func TestMakeAndOfShareNoMemory(t *testing.T) {
	for _, from := range []sack.Sack{
		{Cum: 1}, {Gaps: gaps(1, 2, 4, 5)}, {Dups: []uint32{1, 2, 3}}, {Cum: 1, Window: 2, Gaps: gaps(1, 2, 4, 5), Dups: []uint32{6, 7}},
	} {
		s := filled(from)
		c, _ := sack.Make(s)
		other, _ := sack.Make(s)
		if !isFilled(s, from) {
			t.Error("Make changes", s)
		}
		scribbleGaps(s.Gaps)
		scribbleDups(s.Dups)
		if !chunk.Same(c, written(from)) {
			t.Error("Make shares memory", c)
		}
		scribbleBytes(c.Data)
		if !chunk.Same(other, written(from)) {
			t.Error("Make shares memory", other)
		}
		given := written(from)
		given.Data = append(given.Data, 0xcc)[:len(given.Data)]
		back, _ := sack.Of(given)
		again, _ := sack.Of(given)
		if !chunk.Same(given, written(from)) || given.Data[:len(given.Data)+1][len(given.Data)] != 0xcc {
			t.Error("Of changes", given)
		}
		scribbleBytes(given.Data)
		if !same(back, from) {
			t.Error("Of shares memory", back)
		}
		scribbleGaps(back.Gaps)
		if !slices.Equal(back.Dups, from.Dups) {
			t.Error("gaps and dups share memory", back)
		}
		scribbleDups(back.Dups)
		if !same(again, from) {
			t.Error("Of shares memory", again)
		}
	}
}

// P14.2

func TestCovers(t *testing.T) {
	s := sack.Sack{Cum: 100, Gaps: gaps(2, 3, 5, 5, 9, 8, 10, 65535)}
	wrapping := sack.Sack{Cum: 1<<32 - 3, Gaps: gaps(2, 2, 4, 6)}
	outOfOrder := sack.Sack{Cum: 7, Gaps: gaps(20, 30, 3, 4, 25, 35)}
	for i, x := range []struct {
		s    sack.Sack
		x    uint32
		want bool
	}{
		{sack.Sack{}, 0, true}, {sack.Sack{}, 1, false}, {sack.Sack{}, 1<<32 - 1, true},
		{sack.Sack{}, 1<<31 - 1, false}, {sack.Sack{}, 1 << 31, false}, {sack.Sack{}, 1<<31 + 1, true},
		{sack.Sack{Cum: 1 << 31}, 0, false}, {sack.Sack{Cum: 1 << 31}, 1, true}, {sack.Sack{Cum: 1 << 31}, 1<<32 - 1, false},
		{sack.Sack{Cum: 5, Window: 50, Dups: []uint32{7, 8}}, 7, false}, {sack.Sack{Cum: 5, Window: 50}, 6, false},
		{s, 100, true}, {s, 99, true}, {s, 0, true}, {s, 101, false}, {s, 102, true}, {s, 103, true}, {s, 104, false},
		{s, 105, true}, {s, 106, false}, {s, 107, false}, {s, 108, false}, {s, 109, false}, {s, 110, true}, {s, 111, true},
		{s, 65634, true}, {s, 65635, true}, {s, 65636, false}, {s, 65636 + 2, false}, {s, 100 + 1<<31, false}, {s, 101 + 1<<31, true},
		{wrapping, 1<<32 - 3, true}, {wrapping, 1<<32 - 2, false}, {wrapping, 1<<32 - 1, true}, {wrapping, 0, false},
		{wrapping, 1, true}, {wrapping, 2, true}, {wrapping, 3, true}, {wrapping, 4, false},
		{outOfOrder, 10, true}, {outOfOrder, 12, false}, {outOfOrder, 27, true}, {outOfOrder, 40, true}, {outOfOrder, 42, true}, {outOfOrder, 43, false},
		{sack.Sack{Cum: 9, Gaps: gaps(0, 2)}, 11, true}, {sack.Sack{Cum: 9, Gaps: gaps(0, 2)}, 12, false}, {sack.Sack{Cum: 9, Gaps: gaps(0, 0)}, 10, false},
		{sack.Sack{Cum: 9, Gaps: gaps(65535, 0)}, 10, false}, {sack.Sack{Cum: 9, Gaps: gaps(65535, 65535)}, 9 + 65535, true},
	} {
		if got := sack.Covers(x.s, x.x); got != x.want || covered(x.s, x.x) != x.want {
			t.Errorf("%d: Covers(%v, %d): %t", i, x.s, x.x, got)
		}
	}
}

func TestCoversOfRandomNumbers(t *testing.T) {
	r := rand.New(rand.NewSource(3))
	for range 5000 {
		s := some(r, 4)
		if r.Intn(2) == 0 {
			for i := range s.Gaps {
				s.Gaps[i] = sack.Gap{From: uint16(r.Intn(12)), To: uint16(r.Intn(12))}
			}
		}
		numbers := []uint32{r.Uint32(), 0, 1, 1 << 31, 1<<32 - 1}
		for range 40 {
			numbers = append(numbers, s.Cum+someOffset(r, 16))
		}
		for _, g := range s.Gaps {
			for _, bound := range []uint16{g.From, g.To} {
				at := s.Cum + uint32(bound)
				numbers = append(numbers, at-1, at, at+1, at+65536)
			}
		}
		for _, x := range numbers {
			if got := sack.Covers(s, x); got != covered(s, x) {
				t.Fatalf("Covers(%v, %d): %t", s, x, got)
			}
		}
	}
}

// P14.3

func TestBuild(t *testing.T) {
	const end = 1<<32 - 1
	for i, x := range []struct {
		cum  uint32
		came []uint32
		want sack.Sack
	}{
		{10, []uint32{11, 13, 14, 11}, sack.Sack{Cum: 11, Gaps: gaps(2, 3), Dups: []uint32{11}}},
		{10, nil, sack.Sack{Cum: 10}},
		{10, []uint32{11}, sack.Sack{Cum: 11}},
		{10, []uint32{12}, sack.Sack{Cum: 10, Gaps: gaps(2, 2)}},
		{10, []uint32{13, 12, 11}, sack.Sack{Cum: 13}},
		{10, []uint32{19, 12, 20, 14, 13}, sack.Sack{Cum: 10, Gaps: gaps(2, 4, 9, 10)}},
		{10, []uint32{16, 14, 12}, sack.Sack{Cum: 10, Gaps: gaps(2, 2, 4, 4, 6, 6)}},
		// What is covered by the old Cum.
		{10, []uint32{10}, sack.Sack{Cum: 10, Dups: []uint32{10}}},
		{10, []uint32{9, 0, end, 9}, sack.Sack{Cum: 10, Dups: []uint32{9, 0, end, 9}}},
		// In the order given, and each time.
		{10, []uint32{14, 10, 14, 11, 9, 11, 14, 10}, sack.Sack{Cum: 11, Gaps: gaps(3, 3), Dups: []uint32{10, 14, 9, 11, 14, 10}}},
		{10, []uint32{11, 11, 11}, sack.Sack{Cum: 11, Dups: []uint32{11, 11}}},
		// What is covered by the new Cum only is no duplicate, when it comes first.
		{10, []uint32{12, 11}, sack.Sack{Cum: 12}},
		{10, []uint32{11, 12}, sack.Sack{Cum: 12}},
		// Across 2^32.
		{end, []uint32{0, 2}, sack.Sack{Cum: 0, Gaps: gaps(2, 2)}},
		{end - 1, []uint32{end, 0, 1, end - 1, 3}, sack.Sack{Cum: 1, Gaps: gaps(2, 2), Dups: []uint32{end - 1}}},
		{end - 2, []uint32{0, end, 1, 1}, sack.Sack{Cum: end - 2, Gaps: gaps(2, 4), Dups: []uint32{1}}},
		{1<<31 - 1, []uint32{1 << 31, 1<<31 + 2}, sack.Sack{Cum: 1 << 31, Gaps: gaps(2, 2)}},
		// The farthest offsets of gaps, which begin at the new Cum.
		{10, []uint32{10 + 65535}, sack.Sack{Cum: 10, Gaps: gaps(65535, 65535)}},
		{10, []uint32{10 + 65536}, sack.Sack{Cum: 10}},
		{10, []uint32{10 + 65534, 10 + 65535, 10 + 65536}, sack.Sack{Cum: 10, Gaps: gaps(65534, 65535)}},
		{10, []uint32{11, 10 + 65536}, sack.Sack{Cum: 11, Gaps: gaps(65535, 65535)}},
		{10, []uint32{11, 10 + 65537}, sack.Sack{Cum: 11}},
		{10, []uint32{10 + 65536, 10 + 65536, 12}, sack.Sack{Cum: 10, Gaps: gaps(2, 2), Dups: []uint32{10 + 65536}}},
		// The farthest numbers that count.
		{10, []uint32{10 + 1<<31 - 1, 10 + 1<<31 - 1}, sack.Sack{Cum: 10, Dups: []uint32{10 + 1<<31 - 1}}},
		{10, []uint32{10 + 1<<31, 10 + 1<<31}, sack.Sack{Cum: 10}},
		{10, []uint32{10 + 1<<31 + 1}, sack.Sack{Cum: 10, Dups: []uint32{10 + 1<<31 + 1}}},
		{10, []uint32{11, 10 + 1<<31, 10 + 1<<31}, sack.Sack{Cum: 11}}, // by the old Cum
		{10, []uint32{11, 11 + 1<<31}, sack.Sack{Cum: 11, Dups: []uint32{11 + 1<<31}}},
	} {
		for _, window := range []uint32{0, 1, 0x01020304, end} {
			x.want.Window = window
			if got := sack.Build(x.cum, window, x.came...); !same(got, x.want) {
				t.Errorf("%d: Build(%d, %d, %d): %v; want %v", i, x.cum, window, x.came, got, x.want)
			}
		}
		builds(t, x.cum, x.came...)
	}
}

func TestBuildOfFewNumbers(t *testing.T) {
	// All lists of up to five numbers around a Cum.
	for _, cum := range []uint32{0, 1<<32 - 2, 1<<31 - 2, 70000} {
		var try func(came []uint32)
		try = func(came []uint32) {
			if got := sack.Build(cum, 7, came...); !same(got, small(cum, came)) {
				t.Fatalf("Build(%d, 7, %d): %v; want %v", cum, came, got, small(cum, came))
			}
			for offset := range uint32(7) {
				if len(came) < 5 {
					try(append(came[:len(came):len(came)], cum+offset-1))
				}
			}
		}
		try(nil)
	}
}

// small returns the description of numbers that came whose offsets are from -1
// to 9, with the Window 7.
func small(cum uint32, came []uint32) sack.Sack {
	s := sack.Sack{Cum: cum, Window: 7}
	var has [12]bool
	for _, x := range came {
		offset := int32(x - cum)
		if offset <= 0 || has[offset] {
			s.Dups = append(s.Dups, x)
		} else {
			has[offset] = true
		}
	}
	reached := 0
	for has[reached+1] {
		reached++
	}
	s.Cum = cum + uint32(reached)
	for i := reached + 1; i < len(has)-1; i++ {
		if has[i] && !has[i-1] {
			s.Gaps = append(s.Gaps, sack.Gap{From: uint16(i - reached)})
		}
		if has[i] && !has[i+1] {
			s.Gaps[len(s.Gaps)-1].To = uint16(i - reached)
		}
	}
	return s
}

func TestBuildOfRandomNumbers(t *testing.T) {
	r := rand.New(rand.NewSource(4))
	for range 1000 {
		cum, near := someCum(r), uint32(4+r.Intn(100))
		var came []uint32
		for range r.Intn(150) {
			came = append(came, cum+someOffset(r, near))
		}
		builds(t, cum, came...)
	}
}

func TestBuildOfManyNumbers(t *testing.T) {
	r := rand.New(rand.NewSource(5))
	list := func(n int, number func(i int) uint32) []uint32 {
		l := make([]uint32, n)
		for i := range l {
			l[i] = number(i)
		}
		return l
	}
	const all = 1 << 16
	up := func(i int) uint32 { return uint32(i) }
	for i, x := range []struct {
		cum        uint32
		came       []uint32
		want       uint32 // the new Cum
		gaps, dups int
	}{
		{1<<32 - 1, list(all, up), all - 1, 0, 0},
		{1<<32 - 1, list(all, func(i int) uint32 { return all - 1 - uint32(i) }), all - 1, 0, 0},
		{1<<32 - 2, list(all, up), 1<<32 - 2, 1, 0},
		{1<<32 - 3, list(all, up), 1<<32 - 3, 1, 0},
		{0, list(all, up), all - 1, 0, 1},
		{all - 1, list(all, up), all - 1, 0, all},
		{0, list(all, func(i int) uint32 { return 2 + 2*uint32(i) }), 0, 32767, 0},
		{0, list(all, func(i int) uint32 { return 1 + 2*uint32(i) }), 1, 32767, 0},
		{0, list(all, func(i int) uint32 { return 7 }), 0, 1, all - 1},
		{0, list(all, func(i int) uint32 { return uint32(i % 1000) }), 999, 0, all - 999},
		{1 << 31, list(all, func(i int) uint32 { return uint32(i) * 99991 }), 1 << 31, -1, -1},
		{1<<32 - 5, list(all, func(i int) uint32 { return uint32(r.Intn(1 << 17)) }), 1<<32 - 5, -1, -1},
	} {
		got := builds(t, x.cum, x.came...)
		if got.Cum != x.want || x.gaps >= 0 && len(got.Gaps) != x.gaps || x.dups >= 0 && len(got.Dups) != x.dups {
			t.Errorf("%d: %d, %d gaps, %d dups", i, got.Cum, len(got.Gaps), len(got.Dups))
		}
		if _, ok := sack.Make(got); ok != (len(got.Gaps)+len(got.Dups) <= most) {
			t.Errorf("%d: Make: %t", i, ok)
		}
	}
	// A Cum that goes over 2^16 numbers, and one gap of all offsets after it.
	if got := sack.Build(5, 0, list(all, func(i int) uint32 { return 6 + uint32(i) })...); !same(got, sack.Sack{Cum: 5 + all}) {
		t.Error(got)
	}
	if got := sack.Build(5, 0, list(all-1, func(i int) uint32 { return 7 + uint32(i) })...); !same(got, sack.Sack{Cum: 5, Gaps: gaps(2, 65535)}) {
		t.Error(got)
	}
}

func TestBuildDoesNotDependOnTheOrder(t *testing.T) {
	r := rand.New(rand.NewSource(6))
	for range 300 {
		cum := someCum(r)
		var came []uint32
		for range 1 + r.Intn(60) {
			came = append(came, cum+r.Uint32()%50)
		}
		want := sack.Build(cum, 7, came...)
		slices.Sort(want.Dups)
		for range 5 {
			r.Shuffle(len(came), func(i, j int) { came[i], came[j] = came[j], came[i] })
			got := sack.Build(cum, 7, came...)
			slices.Sort(got.Dups)
			if !same(got, want) {
				t.Fatalf("Build(%d, 7, %d): %v; want %v", cum, came, got, want)
			}
		}
	}
}

func TestBuildSharesNoMemory(t *testing.T) {
	from := []uint32{11, 13, 11, 9, 17, 18}
	want := sack.Sack{Cum: 11, Window: 7, Gaps: gaps(2, 2, 6, 7), Dups: []uint32{11, 9}}
	came := append(slices.Clone(from), 0xcccc)[:len(from)]
	s := sack.Build(10, 7, came...)
	if !slices.Equal(came[:len(from)+1], append(slices.Clone(from), 0xcccc)) {
		t.Error("Build changes", came)
	}
	scribbleDups(came)
	if !same(s, want) {
		t.Error("Build shares memory", s)
	}
	came = slices.Clone(from)
	s = sack.Build(10, 7, came...)
	other := sack.Build(10, 7, came...)
	scribbleDups(s.Dups)
	if !slices.Equal(s.Gaps, want.Gaps) {
		t.Error("gaps and dups share memory", s)
	}
	scribbleGaps(s.Gaps)
	if !slices.Equal(came, from) || !same(other, want) {
		t.Error("Build shares memory", came, other)
	}
}

// P14.4

func TestSame(t *testing.T) {
	for i, x := range []struct {
		a, b sack.Sack
		want bool
	}{
		{sack.Sack{}, sack.Sack{}, true}, {sack.Sack{}, sack.Sack{Gaps: []sack.Gap{}, Dups: []uint32{}}, true},
		{sack.Sack{Gaps: gaps(0, 0)}, sack.Sack{}, false}, {sack.Sack{Dups: []uint32{0}}, sack.Sack{}, false},
		{sack.Sack{Gaps: gaps(0, 0)}, sack.Sack{Dups: []uint32{0}}, false}, {sack.Sack{Cum: 1}, sack.Sack{Window: 1}, false},
		{sack.Sack{Gaps: gaps(1, 2)}, sack.Sack{Gaps: gaps(2, 1)}, false}, {sack.Sack{Gaps: gaps(1, 2, 3, 4)}, sack.Sack{Gaps: gaps(3, 4, 1, 2)}, false},
		{sack.Sack{Gaps: gaps(1, 2, 3, 4)}, sack.Sack{Gaps: gaps(1, 2)}, false}, {sack.Sack{Gaps: gaps(1, 4)}, sack.Sack{Gaps: gaps(1, 2, 3, 4)}, false},
		{sack.Sack{Dups: []uint32{1, 2}}, sack.Sack{Dups: []uint32{2, 1}}, false}, {sack.Sack{Dups: []uint32{1, 2}}, sack.Sack{Dups: []uint32{1}}, false},
		{sack.Sack{Dups: []uint32{1}}, sack.Sack{Dups: []uint32{1<<16 + 1}}, false}, {sack.Sack{Dups: []uint32{1, 2}}, sack.Sack{Dups: []uint32{1, 2}}, true},
		{large(most, 0), large(most, 0), true}, {large(40000, 40000), large(40000, 40000), true}, {large(9, 40000), large(9, 40001), false},
	} {
		if sack.Same(x.a, x.b) != x.want || sack.Same(x.b, x.a) != x.want {
			t.Errorf("%d: Same is not %t", i, x.want)
		}
	}
	r := rand.New(rand.NewSource(7))
	for range 1000 {
		s := some(r, 5)
		s.Gaps = append(s.Gaps, sack.Gap{From: 1, To: 2})
		s.Dups = append(s.Dups, 3)
		if !sack.Same(s, filled(s)) {
			t.Fatalf("%v is not the same as itself", s)
		}
		for i, change := range changes() {
			other := filled(s)
			change(&other)
			if sack.Same(s, other) || sack.Same(other, s) {
				t.Fatalf("%d: %v and %v are the same", i, s, other)
			}
		}
	}
	// All fields count: a new one would need a change of its own.
	if n := reflect.TypeFor[sack.Sack]().NumField(); n != 4 {
		t.Error(n, "fields")
	}
	if n := reflect.TypeFor[sack.Gap]().NumField(); n != 2 {
		t.Error(n, "fields of a gap")
	}
}

// P14.5; that Of inverts Make is checked with P14.1 too.

func TestWhatIsBuiltCoversWhatCame(t *testing.T) {
	r := rand.New(rand.NewSource(8))
	for range 1000 {
		cum, near := someCum(r), uint32(4+r.Intn(100))
		var came []uint32
		has := map[uint32]bool{}
		for range r.Intn(100) {
			x := cum + someOffset(r, near)
			came = append(came, x)
			has[x] = true
		}
		s := sack.Build(cum, r.Uint32(), came...)
		asked := slices.Clone(came)
		for range 100 {
			asked = append(asked, cum+someOffset(r, near), s.Cum+r.Uint32()%near)
		}
		for _, x := range asked {
			offset := x - s.Cum
			after := offset >= 1 && offset <= 1<<31
			if got := sack.Covers(s, x); got != (!after || has[x] && offset <= 65535) {
				t.Fatalf("%v of %d after %d: %d: %t", s, came, cum, x, got)
			}
		}
	}
}

func TestBuiltAsChunks(t *testing.T) {
	r := rand.New(rand.NewSource(9))
	for range 500 {
		cum := someCum(r)
		var came []uint32
		for range r.Intn(100) {
			came = append(came, cum+r.Uint32()%150-9)
		}
		s := sack.Build(cum, r.Uint32(), came...)
		c, made := sack.Make(s)
		b, err := chunk.Encode(c)
		if !made || err != nil {
			t.Fatal(s, made, err)
		}
		c, err = chunk.Parse(b)
		back, read := sack.Of(c)
		if err != nil || !read || !same(back, s) || !sack.Same(back, s) {
			t.Fatal(s, back, read, err)
		}
	}
}

// P1, and the rules: all arguments are allowed, and the functions may be called
// concurrently.

func TestAnyArguments(t *testing.T) {
	for _, x := range []uint32{0, 1, 65535, 65536, 1<<31 - 1, 1 << 31, 1<<31 + 1, math.MaxUint32} {
		for _, y := range []uint32{0, 1, 65535, 65536, 1<<31 - 1, 1 << 31, 1<<31 + 1, math.MaxUint32} {
			s := builds(t, x, y, y, x, x+y, x+1, y+1, 0, math.MaxUint32)
			if got := sack.Covers(s, y); got != covered(s, y) {
				t.Errorf("Covers(%v, %d): %t", s, y, got)
			}
		}
	}
	// More than a chunk can have, and than Build is promised for.
	s := large(100000, 100000)
	sack.Covers(s, s.Cum+65535)
	if !sack.Same(s, filled(s)) {
		t.Error("a large description")
	}
	long := make([]uint32, 1<<18)
	for i := range long {
		long[i] = uint32(i)
	}
	builds(t, math.MaxUint32, long...)
	builds(t, 0, append(long[2:], 1)...)
}

func TestConcurrently(t *testing.T) {
	came := []uint32{11, 13, 11, 9, 17, 18}
	s := sack.Sack{Cum: 11, Window: 7, Gaps: gaps(2, 2, 6, 7), Dups: []uint32{11, 9}}
	want := written(s)
	var group sync.WaitGroup
	for range 8 {
		group.Go(func() {
			for range 50 {
				c, made := sack.Make(s)
				back, read := sack.Of(want)
				if !made || !read || !chunk.Same(c, want) || !same(back, s) {
					t.Error("Make or Of")
				}
				if !same(sack.Build(10, 7, came...), s) || !sack.Same(back, s) || !sack.Covers(s, 13) || sack.Covers(s, 14) {
					t.Error("Build, Same or Covers")
				}
			}
		})
	}
	group.Wait()
}
