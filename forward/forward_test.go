package forward_test

import (
	"bytes"
	"encoding/binary"
	"math"
	"math/rand"
	"reflect"
	"slices"
	"sync"
	"testing"

	"wharf/api"
	"wharf/chunk"
	"wharf/forward"
)

// The greatest numbers of skips of a chunk: of a forward-tsn chunk, and of an
// i-forward-tsn chunk.
const (
	most      = 16381
	mostInter = 8190
)

// plain returns an ordered skip, and loose an unordered one.
func plain(stream uint16, seq uint32) forward.Skip { return forward.Skip{Stream: stream, Seq: seq} }
func loose(stream uint16, seq uint32) forward.Skip {
	return forward.Skip{Stream: stream, Unordered: true, Seq: seq}
}

// list returns several skips.
func list(l ...forward.Skip) []forward.Skip { return l }

// many returns so many skips, which differ.
func many(count int) []forward.Skip {
	var l []forward.Skip
	for i := range count {
		l = append(l, plain(uint16(i), uint32(3*i%65536)))
	}
	return l
}

// greatest returns the number of skips that a chunk has at most.
func greatest(inter bool) int {
	if inter {
		return mostInter
	}
	return most
}

// same and sameLists report whether chunks and lists are the same, by the
// definition.
func same(a, b api.Chunk) bool {
	return a.Type == b.Type && a.Flags == b.Flags && bytes.Equal(a.Data, b.Data) && len(a.Kids) == 0 && len(b.Kids) == 0
}

func sameLists(a, b []forward.Skip) bool {
	if len(a) != len(b) {
		return false
	}
	for i := range a {
		if a[i].Stream != b[i].Stream || a[i].Unordered != b[i].Unordered || a[i].Seq != b[i].Seq {
			return false
		}
	}
	return true
}

// zeroChunk reports whether a chunk is the zero value.
func zeroChunk(c api.Chunk) bool { return same(c, api.Chunk{}) }

// written returns the chunk of a number and skips by its definition, be it right
// or not, and whether there is one.
func written(inter bool, tsn uint32, l []forward.Skip) (api.Chunk, bool) {
	b := binary.BigEndian.AppendUint32(nil, tsn)
	for _, s := range l {
		b = binary.BigEndian.AppendUint16(b, s.Stream)
		switch {
		case inter && s.Unordered:
			b = binary.BigEndian.AppendUint32(append(b, 0, 1), s.Seq)
		case inter:
			b = binary.BigEndian.AppendUint32(append(b, 0, 0), s.Seq)
		case s.Unordered || s.Seq > 65535:
			return api.Chunk{}, false
		default:
			b = binary.BigEndian.AppendUint16(b, uint16(s.Seq))
		}
	}
	if inter {
		return api.Chunk{Type: 194, Data: b}, true
	}
	return api.Chunk{Type: 192, Data: b}, true
}

// isForward reports whether c is a right chunk of one of the two types, by the
// definitions of layers 11 and 12.
func isForward(c api.Chunk) bool {
	unit := map[byte]int{192: 4, 194: 8}[c.Type]
	if unit == 0 || c.Flags != 0 || len(c.Kids) != 0 || len(c.Data) < 4 || len(c.Data) > 65531 || (len(c.Data)-4)%unit != 0 {
		return false
	}
	for at := 4; c.Type == 194 && at < len(c.Data); at += 8 {
		if c.Data[at+2] != 0 || c.Data[at+3] > 1 {
			return false
		}
	}
	return true
}

// makes checks Make against its definition, and, if there is a chunk, that Of
// inverts it. It reports whether there is one.
func makes(t *testing.T, inter bool, tsn uint32, l ...forward.Skip) bool {
	t.Helper()
	want, wantOK := written(inter, tsn, l)
	if wantOK = wantOK && isForward(want); !wantOK {
		want = api.Chunk{}
	}
	got, ok := forward.Make(inter, tsn, l...)
	if ok != wantOK || !same(got, want) {
		t.Fatalf("Make(%t, %d, %.200v): %.200v, %t; want %.200v, %t", inter, tsn, l, got, ok, want, wantOK)
	}
	if !ok {
		return false
	}
	if err := chunk.Check(got); err != nil {
		t.Fatalf("Make(%t, %d, %.200v): %.200v: %v", inter, tsn, l, got, err)
	}
	if back, skips, ok := forward.Of(got); !ok || back != tsn || !sameLists(skips, l) {
		t.Fatalf("Of(%.200v): %d, %.200v, %t; want %d, %.200v", got, back, skips, ok, tsn, l)
	}
	return true
}

// reads checks Of against its definition, and, if c is such a chunk, that Make
// inverts it. It reports whether c is one.
func reads(t *testing.T, c api.Chunk) bool {
	t.Helper()
	want := isForward(c)
	tsn, l, ok := forward.Of(c)
	if ok != want || ok != ((c.Type == 192 || c.Type == 194) && chunk.Check(c) == nil) || !ok && (tsn != 0 || len(l) != 0) {
		t.Fatalf("Of(%.200v): %d, %.200v, %t; want %t", c, tsn, l, ok, want)
	}
	if !ok {
		return false
	}
	if again, there := written(c.Type == 194, tsn, l); !there || !same(again, c) {
		t.Fatalf("Of(%.200v): %d, %.200v", c, tsn, l)
	}
	if again, made := forward.Make(c.Type == 194, tsn, l...); !made || !same(again, c) {
		t.Fatalf("Make(%t, %d, %.200v): %.200v, %t; want %.200v", c.Type == 194, tsn, l, again, made, c)
	}
	return true
}

// compared returns what Compare does, by the definition.
func compared(a, b forward.Skip) int {
	switch {
	case a.Stream < b.Stream:
		return -1
	case a.Stream > b.Stream:
		return 1
	case !a.Unordered && b.Unordered:
		return -1
	case a.Unordered && !b.Unordered:
		return 1
	}
	return 0
}

// merged returns what Merge does, by the definition: each skip is put in its
// place among those that are there.
func merged(l []forward.Skip) []forward.Skip {
	var out []forward.Skip
	for i, s := range l {
		if slices.ContainsFunc(l[i+1:], func(later forward.Skip) bool { return compared(s, later) == 0 }) {
			continue
		}
		at := 0
		for at < len(out) && compared(out[at], s) < 0 {
			at++
		}
		out = slices.Insert(out, at, s)
	}
	return out
}

// merges checks Merge against its definition, and that merging twice changes
// nothing.
func merges(t *testing.T, l ...forward.Skip) {
	t.Helper()
	want := merged(l)
	got := forward.Merge(l...)
	if !sameLists(got, want) {
		t.Fatalf("Merge(%.200v): %.200v; want %.200v", l, got, want)
	}
	if again := forward.Merge(got...); !sameLists(again, want) {
		t.Fatalf("Merge(%.200v): %.200v", got, again)
	}
}

// someSkip returns a random skip; its stream is often less than n, and its
// number often at a bound.
func someSkip(r *rand.Rand, n int) forward.Skip {
	bounds := []uint32{0, 1, 65534, 65535, 65536, math.MaxUint32}
	s := forward.Skip{Stream: uint16(r.Intn(n)), Unordered: r.Intn(2) == 0, Seq: r.Uint32() >> r.Intn(32)}
	if r.Intn(10) == 0 {
		s.Stream = uint16(r.Uint32())
	}
	if r.Intn(3) == 0 {
		s.Seq = bounds[r.Intn(len(bounds))]
	}
	return s
}

// someList returns at most n random skips. Most lists have a forward-tsn chunk.
func someList(r *rand.Rand, n int) []forward.Skip {
	var l []forward.Skip
	short := r.Intn(3) > 0
	for range r.Intn(n + 1) {
		s := someSkip(r, 5)
		if short {
			s.Unordered, s.Seq = false, s.Seq%65536
		}
		l = append(l, s)
	}
	return l
}

// filled returns a copy of a list in new memory, with unused capacity that is
// not zero, and isFilled reports whether a list still is one.
func filled(l []forward.Skip) []forward.Skip {
	return append(slices.Clone(l), loose(0xaaaa, 0xbbbbbbbb))[:len(l)]
}

func isFilled(l, from []forward.Skip) bool {
	return sameLists(l[:len(l)+1], append(slices.Clone(from), loose(0xaaaa, 0xbbbbbbbb)))
}

// scribble and scribbleBytes change all elements, also those of the unused
// capacity.
func scribble(l []forward.Skip) {
	l = l[:cap(l)]
	for i := range l {
		l[i] = forward.Skip{Stream: ^l[i].Stream, Unordered: !l[i].Unordered, Seq: ^l[i].Seq}
	}
}

func scribbleBytes(l []byte) {
	l = l[:cap(l)]
	for i := range l {
		l[i] ^= 0xff
	}
}

// P16.1

func TestMake(t *testing.T) {
	for i, x := range []struct {
		inter bool
		tsn   uint32
		l     []forward.Skip
		want  []byte
	}{
		{false, 0, nil, []byte{0, 0, 0, 0}},
		{true, 0, nil, []byte{0, 0, 0, 0}},
		{false, 0x01020304, nil, []byte{1, 2, 3, 4}},
		{true, math.MaxUint32, nil, []byte{255, 255, 255, 255}},
		{false, 0x01020304, list(plain(0x0506, 0x0708)), []byte{1, 2, 3, 4, 5, 6, 7, 8}},
		{true, 0x01020304, list(plain(0x0506, 0x0708090a)), []byte{1, 2, 3, 4, 5, 6, 0, 0, 7, 8, 9, 10}},
		{true, 0x01020304, list(loose(0x0506, 0x0708090a)), []byte{1, 2, 3, 4, 5, 6, 0, 1, 7, 8, 9, 10}},
		{false, 1, list(plain(65535, 65535), plain(0, 0)), []byte{0, 0, 0, 1, 255, 255, 255, 255, 0, 0, 0, 0}},
		{true, 1, list(plain(0, 0), loose(65535, 65535)), []byte{0, 0, 0, 1, 0, 0, 0, 0, 0, 0, 0, 0, 255, 255, 0, 1, 0, 0, 255, 255}},
		{true, 1, list(plain(2, 65536), loose(2, math.MaxUint32)), []byte{0, 0, 0, 1, 0, 2, 0, 0, 0, 1, 0, 0, 0, 2, 0, 1, 255, 255, 255, 255}},
		// In the order given, and each of them, also those of the same stream.
		{false, 1, list(plain(5, 1), plain(2, 7), plain(5, 3)), []byte{0, 0, 0, 1, 0, 5, 0, 1, 0, 2, 0, 7, 0, 5, 0, 3}},
		{true, 1, list(loose(5, 1), plain(5, 1), loose(5, 1)), []byte{
			0, 0, 0, 1, 0, 5, 0, 1, 0, 0, 0, 1, 0, 5, 0, 0, 0, 0, 0, 1, 0, 5, 0, 1, 0, 0, 0, 1,
		}},
	} {
		want := api.Chunk{Type: 192, Data: x.want}
		if x.inter {
			want.Type = 194
		}
		got, ok := forward.Make(x.inter, x.tsn, x.l...)
		if !ok || !same(got, want) {
			t.Errorf("%d: Make(%t, %d, %v): %v, %t; want %v", i, x.inter, x.tsn, x.l, got, ok, want)
		}
		if tsn, l, ok := forward.Of(want); !ok || tsn != x.tsn || !sameLists(l, x.l) {
			t.Errorf("%d: Of(%v): %d, %v, %t; want %d, %v", i, want, tsn, l, ok, x.tsn, x.l)
		}
		makes(t, x.inter, x.tsn, x.l...)
	}
}

func TestMakeOfOtherSkips(t *testing.T) {
	for i, l := range [][]forward.Skip{
		list(loose(1, 2)), list(loose(0, 0)), list(plain(1, 65536)), list(plain(1, 1<<31)), list(plain(1, math.MaxUint32)), list(loose(1, 65536)),
		list(plain(1, 2), loose(1, 2)), list(loose(1, 2), plain(1, 2)), list(plain(1, 2), plain(3, 65536), plain(5, 6)), list(plain(1, 65535), plain(1, 65536)),
		append(many(most-1), loose(1, 2)), append(many(most-1), plain(1, 65536)),
	} {
		if c, ok := forward.Make(false, 9, l...); ok || !zeroChunk(c) {
			t.Errorf("%d: Make(false, 9, %.200v): %.200v, %t", i, l, c, ok)
		}
		if makes(t, false, 9, l...) || makes(t, true, 9, l...) != (len(l) < most) {
			t.Errorf("%d: %.200v", i, l)
		}
	}
}

func TestMakeOfMany(t *testing.T) {
	for _, inter := range []bool{false, true} {
		n := greatest(inter)
		for _, count := range []int{1, 255, 256, 257, 4095, 4096, n / 2, n - 1, n, n + 1, 2 * n, 16384, 65535, 65536, 65537, 1 << 17, 1 << 20} {
			if ok := makes(t, inter, 0x01020304, many(count)...); ok != (count <= n) {
				t.Errorf("%t: %d skips: %t", inter, count, ok)
			}
		}
		c, _ := forward.Make(inter, 1, many(n)...)
		if want := map[bool]int{false: 65532, true: 65528}[inter]; chunk.Size(c) != want {
			t.Errorf("%t: %d bytes; want %d", inter, chunk.Size(c), want)
		}
	}
}

func TestMakeOfRandomSkips(t *testing.T) {
	r := rand.New(rand.NewSource(1))
	made := 0
	for range 20000 {
		if makes(t, r.Intn(2) == 0, r.Uint32()>>r.Intn(32), someList(r, 6)...) {
			made++
		}
	}
	if made < 5000 || made > 19000 {
		t.Error(made, "chunks")
	}
}

func TestOfOtherChunks(t *testing.T) {
	right := []byte{0, 0, 0, 9, 0, 1, 0, 0, 0, 0, 0, 3, 0, 2, 0, 1, 0, 0, 0, 4}
	with := func(at int, x byte) []byte {
		b := bytes.Clone(right)
		b[at] = x
		return b
	}
	deep := api.Node{}
	for range 5000 {
		deep = api.Node{Type: 8, Kids: []api.Node{deep}}
	}
	for _, kind := range []byte{192, 194} {
		if !reads(t, api.Chunk{Type: kind, Data: right}) || !reads(t, api.Chunk{Type: kind, Data: right[:4]}) {
			t.Error(kind, "is not read")
		}
		for i, c := range []api.Chunk{
			{}, {Type: kind}, {Type: kind, Data: right[:1]}, {Type: kind, Data: right[:3]}, {Type: kind, Data: right[:5]}, {Type: kind, Data: right[:19]},
			{Type: kind, Data: append(bytes.Clone(right), 0)}, {Type: kind, Data: append(bytes.Clone(right), 0, 0)}, {Type: kind, Data: append(bytes.Clone(right), 0, 0, 0)},
			{Type: kind, Flags: 1, Data: right}, {Type: kind, Flags: 128, Data: right}, {Type: kind, Flags: 255, Data: right[:4]},
			{Type: kind, Data: right, Kids: []api.Node{{Type: 0x8000}}}, {Type: kind, Data: right[:4], Kids: []api.Node{{}}}, {Type: kind, Data: right, Kids: []api.Node{deep}},
			{Type: kind, Data: make([]byte, 65532)}, {Type: kind, Data: make([]byte, 65536)}, {Type: kind, Data: make([]byte, 4+1<<20)},
			{Type: 193, Data: right}, {Type: 195, Data: right}, {Type: 64, Data: right}, {Type: 3, Data: right[:4]},
		} {
			if tsn, l, ok := forward.Of(c); ok || tsn != 0 || len(l) != 0 {
				t.Errorf("%d, %d: Of(%.200v): %d, %.200v, %t", kind, i, c, tsn, l, ok)
			}
			reads(t, c)
		}
	}
	// Whole skips only: 8 bytes each, and with 0 or 1 for unordered.
	for i, c := range []api.Chunk{
		{Type: 194, Data: right[:8]}, {Type: 194, Data: right[:16]}, {Type: 194, Data: with(7, 2)}, {Type: 194, Data: with(7, 255)},
		{Type: 194, Data: with(6, 1)}, {Type: 194, Data: with(15, 2)}, {Type: 194, Data: with(14, 1)}, {Type: 194, Data: with(14, 128)},
	} {
		if reads(t, c) {
			t.Errorf("%d: Of(%v)", i, c)
		}
		if c.Type = 192; !reads(t, c) {
			t.Errorf("%d: Of(%v)", i, c)
		}
	}
	for kinds := range 256 {
		for _, data := range [][]byte{nil, right[:4], right[:8], right[:12], right} {
			want := kinds == 192 && len(data) > 0 || kinds == 194 && len(data) > 0 && len(data) != 8
			if reads(t, api.Chunk{Type: byte(kinds), Data: data}) != want {
				t.Errorf("%d with %v", kinds, data)
			}
		}
	}
}

func TestOfLongChunks(t *testing.T) {
	for size := 65500; size < 65560; size++ {
		plain, inter := api.Chunk{Type: 192, Data: make([]byte, size)}, api.Chunk{Type: 194, Data: make([]byte, size)}
		if got, want := reads(t, plain), size%4 == 0 && size <= 4+4*most; got != want {
			t.Errorf("192 with %d bytes: %t", size, got)
		}
		if got, want := reads(t, inter), size%8 == 4 && size <= 4+8*mostInter; got != want {
			t.Errorf("194 with %d bytes: %t", size, got)
		}
	}
}

func TestOfRandomChunks(t *testing.T) {
	r := rand.New(rand.NewSource(2))
	found := 0
	for range 50000 {
		c := api.Chunk{Type: byte(192 + 2*r.Intn(2)), Data: make([]byte, r.Intn(8)*4)}
		if r.Intn(20) == 0 {
			c = api.Chunk{Type: byte(190 + r.Intn(6)), Flags: byte(r.Intn(3)), Data: make([]byte, r.Intn(32))}
		}
		r.Read(c.Data)
		for at := 6; at < len(c.Data) && r.Intn(10) > 0; at += 8 {
			c.Data[at] = 0
			if at+1 < len(c.Data) {
				c.Data[at+1] %= 2
			}
		}
		if reads(t, c) {
			found++
		}
	}
	if found < 10000 || found > 45000 {
		t.Error(found, "chunks")
	}
}

// P16.2

func TestCompare(t *testing.T) {
	ordered := list(plain(0, 9), loose(0, 1), plain(1, 8), loose(1, 0), plain(2, 7), loose(2, 7), plain(255, 6), plain(256, 0), loose(256, 5),
		plain(257, 5), plain(32767, 4), plain(32768, 3), loose(32768, 2), plain(65534, 2), loose(65534, 2), plain(65535, 1), loose(65535, 0))
	for i, a := range ordered {
		for j, b := range ordered {
			want := 0
			if i < j {
				want = -1
			} else if i > j {
				want = 1
			}
			for _, seq := range []uint32{0, 1, 65535, 65536, math.MaxUint32, b.Seq} {
				b.Seq = seq
				if got := forward.Compare(a, b); got != want || compared(a, b) != want {
					t.Errorf("Compare(%v, %v): %d; want %d", a, b, got, want)
				}
			}
		}
	}
	// All fields count, but for Seq: a new one would need a place of its own.
	if n := reflect.TypeFor[forward.Skip]().NumField(); n != 3 {
		t.Error(n, "fields")
	}
}

func TestCompareOfRandomSkips(t *testing.T) {
	r := rand.New(rand.NewSource(3))
	for range 50000 {
		a, b := someSkip(r, 3), someSkip(r, 3)
		if got := forward.Compare(a, b); got != compared(a, b) || got != -forward.Compare(b, a) {
			t.Fatalf("Compare(%v, %v): %d; want %d", a, b, got, compared(a, b))
		}
	}
}

func TestMerge(t *testing.T) {
	for i, x := range []struct{ l, want []forward.Skip }{
		{nil, nil},
		{list(), nil},
		{list(plain(0, 0)), list(plain(0, 0))},
		{list(plain(5, 1), plain(2, 7), plain(5, 3)), list(plain(2, 7), plain(5, 3))},
		// The last one given, not the greatest one.
		{list(plain(5, 3), plain(5, 1)), list(plain(5, 1))},
		{list(plain(5, 1), plain(5, 3), plain(5, 2)), list(plain(5, 2))},
		{list(plain(5, 65535), plain(5, 0)), list(plain(5, 0))},
		{list(plain(5, 7), plain(5, 7)), list(plain(5, 7))},
		// Ordered and unordered ones of a stream do not compare as 0.
		{list(loose(5, 1), plain(5, 2)), list(plain(5, 2), loose(5, 1))},
		{list(loose(5, 1), plain(5, 2), loose(5, 0), plain(4, 9), loose(4, 9)), list(plain(4, 9), loose(4, 9), plain(5, 2), loose(5, 0))},
		{list(plain(5, 4), loose(5, 4), plain(5, 3)), list(plain(5, 3), loose(5, 4))},
		// By the numbers of the streams, not by those of the messages.
		{list(plain(256, 1), plain(255, 3), plain(65535, 0), plain(0, 9)), list(plain(0, 9), plain(255, 3), plain(256, 1), plain(65535, 0))},
		{list(loose(1, math.MaxUint32), plain(2, 1<<16), plain(2, 1<<31)), list(loose(1, math.MaxUint32), plain(2, 1<<31))},
		{list(loose(65535, 1), plain(0, 1), plain(65535, 1), loose(0, 1)), list(plain(0, 1), loose(0, 1), plain(65535, 1), loose(65535, 1))},
		{list(loose(0, 1), loose(256, 2), plain(1, 3)), list(loose(0, 1), plain(1, 3), loose(256, 2))},
	} {
		if got := forward.Merge(x.l...); !sameLists(got, x.want) {
			t.Errorf("%d: Merge(%v): %v; want %v", i, x.l, got, x.want)
		}
		merges(t, x.l...)
	}
}

func TestMergeOfFewSkips(t *testing.T) {
	// All lists of up to five skips of two streams, which are numbered.
	var try func(l []forward.Skip)
	try = func(l []forward.Skip) {
		merges(t, l...)
		for i := range 4 {
			if len(l) < 5 {
				s := forward.Skip{Stream: uint16(i / 2), Unordered: i%2 == 1, Seq: uint32(9 - len(l))}
				try(append(l[:len(l):len(l)], s))
			}
		}
	}
	try(nil)
}

func TestMergeOfRandomSkips(t *testing.T) {
	r := rand.New(rand.NewSource(4))
	for range 3000 {
		var l []forward.Skip
		streams := 1 + r.Intn(40)
		for range r.Intn(60) {
			l = append(l, someSkip(r, streams))
		}
		merges(t, l...)
	}
}

func TestMergeOfMany(t *testing.T) {
	// All streams, with both skips of each, from the last one to the first one.
	var l, want []forward.Skip
	for i := range uint32(2) {
		for stream := 65535; stream >= 0; stream-- {
			l = append(l, loose(uint16(stream), 2*i), plain(uint16(stream), 2*i+1))
		}
	}
	for stream := range 65536 {
		want = append(want, plain(uint16(stream), 3), loose(uint16(stream), 2))
	}
	if got := forward.Merge(l...); !sameLists(got, want) {
		t.Error(len(got), "skips")
	}
	if got := forward.Merge(slices.Repeat(list(loose(7, 1), loose(7, 2)), 1<<18)...); !sameLists(got, list(loose(7, 2))) {
		t.Errorf("%.200v", got)
	}
}

// P16.3

func TestMost(t *testing.T) {
	for i, x := range []struct {
		size, plain, inter int
	}{
		{0, 0, 0}, {1, 0, 0}, {4, 0, 0}, {7, 0, 0}, {8, 0, 0}, {9, 0, 0}, {11, 0, 0}, {12, 1, 0}, {13, 1, 0}, {15, 1, 0}, {16, 2, 1}, {19, 2, 1},
		{20, 3, 1}, {23, 3, 1}, {24, 4, 2}, {1480, 368, 184}, {1487, 369, 184}, {1488, 370, 185},
		{65527, 16379, 8189}, {65528, 16380, 8190}, {65531, 16380, 8190}, {65532, 16381, 8190}, {65535, 16381, 8190},
	} {
		if plain, inter := forward.Most(false, x.size), forward.Most(true, x.size); plain != x.plain || inter != x.inter {
			t.Errorf("%d: Most of %d bytes: %d and %d; want %d and %d", i, x.size, plain, inter, x.plain, x.inter)
		}
	}
}

func TestMostOfAllSizes(t *testing.T) {
	for _, inter := range []bool{false, true} {
		unit := map[bool]int{false: 4, true: 8}[inter]
		want := 0
		for size := range 65536 {
			for 8+unit*(want+1) <= size {
				want++
			}
			if got := forward.Most(inter, size); got != want {
				t.Fatalf("Most(%t, %d): %d; want %d", inter, size, got, want)
			}
		}
		if want != greatest(inter) {
			t.Error(inter, want)
		}
		// Chunks with so many skips fit, and those with more do not.
		for _, size := range []int{8, 11, 12, 15, 16, 31, 32, 1000, 1006, 1007, 65527, 65528, 65531, 65532, 65535} {
			n := forward.Most(inter, size)
			c, ok := forward.Make(inter, 9, many(n)...)
			if !ok || chunk.Size(c) > size {
				t.Errorf("%t: %d skips have %d bytes, not %d", inter, n, chunk.Size(c), size)
			}
			if c, ok = forward.Make(inter, 9, many(n+1)...); ok && chunk.Size(c) <= size {
				t.Errorf("%t: %d skips have %d bytes, not over %d", inter, n+1, chunk.Size(c), size)
			}
		}
	}
}

// P16.4: both are checked with P16.1 and P16.2 too; here through bytes, and for
// skips that are merged.

func TestMergedAsChunks(t *testing.T) {
	r := rand.New(rand.NewSource(5))
	made := 0
	for range 5000 {
		inter, tsn, l := r.Intn(2) == 0, r.Uint32(), forward.Merge(someList(r, 20)...)
		c, ok := forward.Make(inter, tsn, l...)
		if !ok {
			continue
		}
		made++
		b, err := chunk.Encode(c)
		if err != nil {
			t.Fatal(c, err)
		}
		c, err = chunk.Parse(b)
		back, skips, ok := forward.Of(c)
		if err != nil || !ok || back != tsn || !sameLists(skips, l) || (c.Type == 194) != inter {
			t.Fatalf("Of(%v): %d, %v, %t; want %d, %v", c, back, skips, ok, tsn, l)
		}
		if again := forward.Merge(skips...); !sameLists(again, l) {
			t.Fatalf("Merge(%v): %v", skips, again)
		}
	}
	if made < 1000 {
		t.Error(made, "chunks")
	}
}

// The rules: arguments stay as they are, and no memory is shared.

func TestMakeAndOfShareNoMemory(t *testing.T) {
	for _, from := range [][]forward.Skip{{}, {plain(1, 2)}, {plain(5, 1), plain(2, 7), plain(5, 3)}} {
		for _, inter := range []bool{false, true} {
			want, _ := written(inter, 0x01020304, from)
			l := filled(from)
			c, _ := forward.Make(inter, 0x01020304, l...)
			other, _ := forward.Make(inter, 0x01020304, l...)
			if !isFilled(l, from) {
				t.Error("Make changes", l)
			}
			scribble(l)
			if !same(c, want) {
				t.Error("Make shares memory", c)
			}
			scribbleBytes(c.Data)
			if !same(other, want) {
				t.Error("Make shares memory", other)
			}
			given := want
			given.Data = append(bytes.Clone(want.Data), 0xcc)[:len(want.Data)]
			_, back, _ := forward.Of(given)
			_, again, _ := forward.Of(given)
			if !same(given, want) || given.Data[:len(want.Data)+1][len(want.Data)] != 0xcc {
				t.Error("Of changes", given)
			}
			scribbleBytes(given.Data)
			if !sameLists(back, from) {
				t.Error("Of shares memory", back)
			}
			scribble(back)
			if !sameLists(again, from) {
				t.Error("Of shares memory", again)
			}
		}
	}
}

func TestMergeSharesNoMemory(t *testing.T) {
	for _, from := range [][]forward.Skip{{}, {plain(1, 2)}, {plain(1, 2), loose(2, 2), plain(3, 0)}, {loose(5, 1), plain(2, 7), loose(5, 3), plain(5, 9)}} {
		l, want := filled(from), merged(from)
		got, other := forward.Merge(l...), forward.Merge(l...)
		if !isFilled(l, from) {
			t.Error("Merge changes", l)
		}
		scribble(l)
		if !sameLists(got, want) {
			t.Error("Merge shares memory", got)
		}
		scribble(got)
		if !sameLists(other, want) {
			t.Error("Merge shares memory", other)
		}
	}
}

// P1: all arguments are allowed, and the functions may be called concurrently.

func TestAnyArguments(t *testing.T) {
	r := rand.New(rand.NewSource(6))
	kids := [][]api.Node{nil, nil, nil, {{}}, {{Type: 8, Kids: []api.Node{{Type: 5}}}}, make([]api.Node, 1<<15)}
	for kinds := range 256 {
		for range 16 {
			c := api.Chunk{Type: byte(kinds), Flags: byte(r.Uint32() >> r.Intn(32)), Data: make([]byte, r.Intn(40)), Kids: kids[r.Intn(len(kids))]}
			r.Read(c.Data)
			reads(t, c)
		}
	}
	// Sizes that are not promised.
	for _, size := range []int{math.MinInt, math.MinInt + 7, -65536, -9, -8, -4, -1, 65536, 1 << 20, math.MaxInt - 1, math.MaxInt} {
		for _, inter := range []bool{false, true} {
			if n := forward.Most(inter, size); n < 0 || size < 0 && n != 0 {
				t.Errorf("Most(%t, %d): %d", inter, size, n)
			}
		}
	}
}

func TestConcurrently(t *testing.T) {
	l := list(loose(5, 1), plain(2, 7), loose(5, 3), plain(5, 9))
	want, _ := written(true, 7, l)
	order := list(plain(2, 7), plain(5, 9), loose(5, 3))
	var group sync.WaitGroup
	for range 8 {
		group.Go(func() {
			for range 50 {
				c, made := forward.Make(true, 7, l...)
				tsn, skips, read := forward.Of(want)
				if !made || !read || !same(c, want) || tsn != 7 || !sameLists(skips, l) {
					t.Error("Make or Of")
				}
				if !sameLists(forward.Merge(l...), order) || forward.Compare(l[0], l[3]) != 1 || forward.Most(true, 40) != 4 {
					t.Error("Merge, Compare or Most")
				}
			}
		})
	}
	group.Wait()
}
