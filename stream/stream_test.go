package stream_test

import (
	"bytes"
	"encoding/binary"
	"math"
	"math/rand"
	"slices"
	"sync"
	"testing"

	"wharf/api"
	"wharf/chunk"
	"wharf/node"
	"wharf/stream"
)

// The greatest numbers of streams of the parameters 13 and 14.
const (
	mostOut = 32759
	mostIn  = 32763
)

// plain returns a node with some bytes and none inside, and sized one with so
// many bytes.
func plain(t uint16, data ...byte) api.Node { return api.Node{Type: t, Data: data} }
func sized(t uint16, size int) api.Node     { return plain(t, make([]byte, size)...) }

// with returns a node with some nodes inside and no bytes in front of them.
func with(t uint16, kids ...api.Node) api.Node { return api.Node{Type: t, Kids: kids} }

// nested returns so many nodes, one in the other.
func nested(t uint16, count int) api.Node {
	n := plain(t)
	for range count - 1 {
		n = with(t, n)
	}
	return n
}

// list returns several streams, and nodes several nodes.
func list(l ...uint16) []uint16      { return l }
func nodes(l ...api.Node) []api.Node { return l }

// many returns so many streams, which differ from those next to them.
func many(count int) []uint16 {
	var l []uint16
	for i := range count {
		l = append(l, uint16(40503*i))
	}
	return l
}

// same and sameChunks report whether nodes and chunks are the same, by the
// definition.
func same(a, b api.Node) bool {
	return a.Type == b.Type && bytes.Equal(a.Data, b.Data) && slices.EqualFunc(a.Kids, b.Kids, same)
}

func sameChunks(a, b api.Chunk) bool {
	return a.Type == b.Type && a.Flags == b.Flags && bytes.Equal(a.Data, b.Data) && slices.EqualFunc(a.Kids, b.Kids, same)
}

// written returns the parameter with numbers of 4 bytes and then some of 2
// bytes, be it right or not.
func written(t uint16, numbers []uint32, l ...uint16) api.Node {
	n := api.Node{Type: t}
	for _, x := range numbers {
		n.Data = binary.BigEndian.AppendUint32(n.Data, x)
	}
	for _, x := range l {
		n.Data = binary.BigEndian.AppendUint16(n.Data, x)
	}
	return n
}

// isRight reports whether a node is a right parameter of this layer, by the
// table of layer 7: its bytes are right, and there are none inside.
func isRight(n api.Node) bool {
	size := len(n.Data)
	if len(n.Kids) > 0 || size > 65531 {
		return false
	}
	switch n.Type {
	case 13:
		return size >= 12 && size%2 == 0
	case 14:
		return size >= 4 && size%2 == 0
	case 15:
		return size == 4
	case 16:
		return size == 8 || size == 16
	case 17, 18:
		return size == 8
	}
	return false
}

// wanted returns a node and true, or, if it is not to be there, a zero Node and
// false.
func wanted(n api.Node, ok bool) (api.Node, bool) {
	if !ok {
		return api.Node{}, false
	}
	return n, true
}

// makes checks a parameter that was made against the one that is wanted, and
// whether it is a right one.
func makes(t *testing.T, name string, got api.Node, ok bool, want api.Node, wantOK bool) {
	t.Helper()
	want, wantOK = wanted(want, wantOK)
	if ok != wantOK || !same(got, want) {
		t.Fatalf("%s: %.200v, %t; want %.200v, %t", name, got, ok, want, wantOK)
	}
	if ok && (node.Check(api.Param, got) != nil || !isRight(got)) {
		t.Fatalf("%s: %.200v is not right", name, got)
	}
	if seq, read := stream.Seq(got); read != ok || ok && seq != binary.BigEndian.Uint32(got.Data) {
		t.Fatalf("%s: Seq(%.200v): %d, %t", name, got, seq, read)
	}
}

// makesOutgoing and makesIncoming check Outgoing and Incoming against their
// definitions, and that Seq and Streams return what they were given. They report
// whether there is a parameter.
func makesOutgoing(t *testing.T, seq, answered, last uint32, l ...uint16) bool {
	t.Helper()
	got, ok := stream.Outgoing(seq, answered, last, l...)
	makes(t, "Outgoing", got, ok, written(13, []uint32{seq, answered, last}, l...), len(l) <= mostOut)
	return gives(t, got, ok, seq, l)
}

func makesIncoming(t *testing.T, seq uint32, l ...uint16) bool {
	t.Helper()
	got, ok := stream.Incoming(seq, l...)
	makes(t, "Incoming", got, ok, written(14, []uint32{seq}, l...), len(l) <= mostIn)
	return gives(t, got, ok, seq, l)
}

// gives checks that a parameter has a sequence number and streams, if it is
// there.
func gives(t *testing.T, n api.Node, there bool, seq uint32, l []uint16) bool {
	t.Helper()
	if !there {
		seq, l = 0, nil
	}
	if back, ok := stream.Seq(n); ok != there || back != seq {
		t.Fatalf("Seq(%.200v): %d, %t; want %d", n, back, ok, seq)
	}
	if back := stream.Streams(n); !slices.Equal(back, l) {
		t.Fatalf("Streams(%.200v): %.200v; want %.200v", n, back, l)
	}
	return there
}

// makesResponse checks Response against its definition. It reports whether there
// is a parameter.
func makesResponse(t *testing.T, seq, result uint32, l ...uint32) bool {
	t.Helper()
	got, ok := stream.Response(seq, result, l...)
	makes(t, "Response", got, ok, written(16, append([]uint32{seq, result}, l...)), len(l) == 0 || len(l) == 2)
	return ok
}

// makesMore checks More against its definition. It reports whether there is a
// parameter.
func makesMore(t *testing.T, kind uint16, seq uint32, n uint16) bool {
	t.Helper()
	got, ok := stream.More(kind, seq, n)
	makes(t, "More", got, ok, written(kind, []uint32{seq}, n, 0), kind == 17 || kind == 18)
	return ok
}

// reads checks Seq and Streams against their definitions. It reports whether n
// is a right parameter of this layer.
func reads(t *testing.T, n api.Node) bool {
	t.Helper()
	var seq uint32
	var l []uint16
	right := isRight(n)
	if right {
		seq = binary.BigEndian.Uint32(n.Data)
	}
	if front := map[uint16]int{13: 12, 14: 4}[n.Type]; right && front > 0 {
		for at := front; at < len(n.Data); at += 2 {
			l = append(l, uint16(n.Data[at])<<8|uint16(n.Data[at+1]))
		}
	}
	if right != (n.Type >= 13 && n.Type <= 18 && node.Check(api.Param, n) == nil) {
		t.Fatalf("%.200v: right is %t", n, right)
	}
	return gives(t, n, right, seq, l)
}

// puts checks Make against its definition. It reports whether there is a chunk.
func puts(t *testing.T, l ...api.Node) bool {
	t.Helper()
	size := 4
	for _, n := range l {
		// There is padding in front of the next one only.
		size = (size+3)/4*4 + 4 + len(n.Data)
	}
	right := (len(l) == 1 || len(l) == 2) && !slices.ContainsFunc(l, func(n api.Node) bool { return !isRight(n) }) && size <= 65535
	want := api.Chunk{}
	if right {
		want = api.Chunk{Type: 130, Kids: l}
	}
	got, ok := stream.Make(l...)
	if ok != right || !sameChunks(got, want) {
		t.Fatalf("Make(%.200v): %.200v, %t; want %t", l, got, ok, right)
	}
	if ok && (chunk.Check(got) != nil || chunk.Size(got) != size) {
		t.Fatalf("Make(%.200v): %.200v is not right, or has not %d bytes", l, got, size)
	}
	return ok
}

// answers checks Answers against its definition, and returns what it reports.
func answers(t *testing.T, q, a api.Node) bool {
	t.Helper()
	want := isRight(q) && isRight(a) && q.Type != 16 && a.Type == 16 && bytes.Equal(q.Data[:4], a.Data[:4])
	got := stream.Answers(q, a)
	if got != want {
		t.Fatalf("Answers(%.200v, %.200v): %t", q, a, got)
	}
	return got
}

// samples returns a right parameter of each type with a sequence number, and of
// those that have several sizes, each one.
func samples(seq uint32) []api.Node {
	return nodes(
		written(13, []uint32{seq, 2, 3}), written(13, []uint32{seq, 2, 3}, 4), written(13, []uint32{seq, 2, 3}, 4, 5, 6), written(14, []uint32{seq}),
		written(14, []uint32{seq}, 7), written(14, []uint32{seq}, 7, 8, 9), written(15, []uint32{seq}), written(16, []uint32{seq, 1}),
		written(16, []uint32{seq, 1, 2, 3}), written(17, []uint32{seq}, 5, 0), written(18, []uint32{seq}, 6, 0),
	)
}

// someNode returns a random node; most are parameters of this layer, and many
// are right ones.
func someNode(r *rand.Rand) api.Node {
	n := sized(uint16(13+r.Intn(6)), []int{4, 8, 12, 16, 2 * r.Intn(20), r.Intn(20)}[r.Intn(6)])
	if r.Intn(12) == 0 {
		n.Type = uint16(11 + r.Intn(10))
	}
	r.Read(n.Data)
	if r.Intn(2) == 0 {
		clear(n.Data[:min(3, len(n.Data))])
	}
	if r.Intn(12) == 0 {
		n.Kids = nodes(someNode(r))
	}
	return n
}

// scribble changes all bytes and all nodes, also those of the unused capacity.
func scribble(l []api.Node) {
	l = l[:cap(l)]
	for i, n := range l {
		scribbleBytes(n.Data)
		scribble(n.Kids)
		l[i] = plain(^n.Type, 0xee)
	}
}

func scribbleBytes(b []byte) {
	b = b[:cap(b)]
	for i := range b {
		b[i] ^= 0xff
	}
}

// copied returns the same nodes in new memory, with unused capacity that is not
// zero, and whole returns them with that capacity as parts of them.
func copied(l []api.Node) []api.Node {
	c := make([]api.Node, len(l), len(l)+1)
	c[:len(l)+1][len(l)] = plain(0xcccc, 0xdd)
	for i, n := range l {
		data := append(bytes.Clone(n.Data), 0xaa, 0xbb)
		c[i] = api.Node{Type: n.Type, Data: data[:len(n.Data)], Kids: copied(n.Kids)}
	}
	return c
}

func whole(l []api.Node) []api.Node {
	c := slices.Clone(l[:cap(l)])
	for i, n := range c {
		c[i].Data, c[i].Kids = bytes.Clone(n.Data[:cap(n.Data)]), whole(n.Kids)
	}
	return c
}

// P17.1

func TestOutgoing(t *testing.T) {
	for i, x := range []struct {
		seq, answered, last uint32
		l                   []uint16
		want                []byte
	}{
		{0, 0, 0, nil, []byte{0, 0, 0, 0, 0, 0, 0, 0, 0, 0, 0, 0}},
		{258, 1, 2, list(), []byte{0, 0, 1, 2, 0, 0, 0, 1, 0, 0, 0, 2}},
		{0x01020304, 0x05060708, 0x090a0b0c, list(0x0d0e), []byte{1, 2, 3, 4, 5, 6, 7, 8, 9, 10, 11, 12, 13, 14}},
		{1, 2, 3, list(4, 5), []byte{0, 0, 0, 1, 0, 0, 0, 2, 0, 0, 0, 3, 0, 4, 0, 5}},
		// In the order given, and each of them.
		{1, 2, 3, list(65535, 0, 7, 7, 256), []byte{0, 0, 0, 1, 0, 0, 0, 2, 0, 0, 0, 3, 255, 255, 0, 0, 0, 7, 0, 7, 1, 0}},
		{math.MaxUint32, 0, 1 << 31, list(0), []byte{255, 255, 255, 255, 0, 0, 0, 0, 128, 0, 0, 0, 0, 0}},
	} {
		got, ok := stream.Outgoing(x.seq, x.answered, x.last, x.l...)
		if !ok || !same(got, plain(13, x.want...)) {
			t.Errorf("%d: Outgoing(%d, %d, %d, %v): %v, %t; want %v", i, x.seq, x.answered, x.last, x.l, got, ok, x.want)
		}
		makesOutgoing(t, x.seq, x.answered, x.last, x.l...)
	}
}

func TestIncoming(t *testing.T) {
	for i, x := range []struct {
		seq  uint32
		l    []uint16
		want []byte
	}{
		{0, nil, []byte{0, 0, 0, 0}},
		{258, list(), []byte{0, 0, 1, 2}},
		{0x01020304, list(0x0506), []byte{1, 2, 3, 4, 5, 6}},
		{1, list(65535, 0, 7, 7, 256), []byte{0, 0, 0, 1, 255, 255, 0, 0, 0, 7, 0, 7, 1, 0}},
		{math.MaxUint32, list(0, 1), []byte{255, 255, 255, 255, 0, 0, 0, 1}},
	} {
		got, ok := stream.Incoming(x.seq, x.l...)
		if !ok || !same(got, plain(14, x.want...)) {
			t.Errorf("%d: Incoming(%d, %v): %v, %t; want %v", i, x.seq, x.l, got, ok, x.want)
		}
		makesIncoming(t, x.seq, x.l...)
	}
}

func TestManyStreams(t *testing.T) {
	for _, count := range []int{1, 255, 256, 257, 16384, 32752, mostOut - 1, mostOut, mostOut + 1, mostIn - 1, mostIn, mostIn + 1, 32766, 32768, 65535, 65536, 65537, 98304, 1 << 17, 1 << 20} {
		l := many(count)
		if ok := makesOutgoing(t, 0x01020304, 0x05060708, 0x090a0b0c, l...); ok != (count <= mostOut) {
			t.Errorf("Outgoing with %d streams: %t", count, ok)
		}
		if ok := makesIncoming(t, 0x01020304, l...); ok != (count <= mostIn) {
			t.Errorf("Incoming with %d streams: %t", count, ok)
		}
	}
}

func TestReset(t *testing.T) {
	for seq, want := range map[uint32][]byte{
		258: {0, 0, 1, 2}, 0: {0, 0, 0, 0}, 1: {0, 0, 0, 1}, 0x01020304: {1, 2, 3, 4}, 1 << 31: {128, 0, 0, 0}, math.MaxUint32: {255, 255, 255, 255},
	} {
		got := stream.Reset(seq)
		if !same(got, plain(15, want...)) {
			t.Errorf("Reset(%d): %v; want %v", seq, got, want)
		}
		makes(t, "Reset", got, true, written(15, []uint32{seq}), true)
	}
}

func TestResponse(t *testing.T) {
	for i, x := range []struct {
		seq, result uint32
		l           []uint32
		want        []byte
	}{
		{0, 0, nil, []byte{0, 0, 0, 0, 0, 0, 0, 0}},
		{258, 6, []uint32{}, []byte{0, 0, 1, 2, 0, 0, 0, 6}},
		{0x01020304, 0x05060708, nil, []byte{1, 2, 3, 4, 5, 6, 7, 8}},
		{0x01020304, 0x05060708, []uint32{0x090a0b0c, 0x0d0e0f10}, []byte{1, 2, 3, 4, 5, 6, 7, 8, 9, 10, 11, 12, 13, 14, 15, 16}},
		{1, 2, []uint32{0, 0}, []byte{0, 0, 0, 1, 0, 0, 0, 2, 0, 0, 0, 0, 0, 0, 0, 0}},
		{math.MaxUint32, 1 << 31, []uint32{65536, math.MaxUint32}, []byte{255, 255, 255, 255, 128, 0, 0, 0, 0, 1, 0, 0, 255, 255, 255, 255}},
	} {
		got, ok := stream.Response(x.seq, x.result, x.l...)
		if !ok || !same(got, plain(16, x.want...)) {
			t.Errorf("%d: Response(%d, %d, %v): %v, %t; want %v", i, x.seq, x.result, x.l, got, ok, x.want)
		}
	}
	for _, count := range []int{0, 1, 2, 3, 4, 5, 6, 8, 10, 16, 16381, 16382, 1 << 20} {
		l := make([]uint32, count)
		for i := range l {
			l[i] = uint32(i) * 0x01010101
		}
		if ok := makesResponse(t, 1, 2, l...); ok != (count == 0 || count == 2) {
			t.Errorf("Response with %d numbers: %t", count, ok)
		}
	}
}

func TestMore(t *testing.T) {
	for i, x := range []struct {
		kind uint16
		seq  uint32
		n    uint16
		want []byte
	}{
		{17, 0, 0, []byte{0, 0, 0, 0, 0, 0, 0, 0}},
		{17, 258, 3, []byte{0, 0, 1, 2, 0, 3, 0, 0}},
		{18, 0x01020304, 0x0506, []byte{1, 2, 3, 4, 5, 6, 0, 0}},
		{17, math.MaxUint32, 65535, []byte{255, 255, 255, 255, 255, 255, 0, 0}},
		{18, 1 << 31, 256, []byte{128, 0, 0, 0, 1, 0, 0, 0}},
	} {
		got, ok := stream.More(x.kind, x.seq, x.n)
		if !ok || !same(got, plain(x.kind, x.want...)) {
			t.Errorf("%d: More(%d, %d, %d): %v, %t; want %v", i, x.kind, x.seq, x.n, got, ok, x.want)
		}
	}
	for kind := range 1 << 16 {
		if ok := makesMore(t, uint16(kind), 0x01020304, uint16(kind)); ok != (kind == 17 || kind == 18) {
			t.Errorf("More of the type %d: %t", kind, ok)
		}
	}
}

func TestRandomNumbers(t *testing.T) {
	r := rand.New(rand.NewSource(1))
	number := func() uint32 { return r.Uint32() >> r.Intn(32) }
	for range 10000 {
		l := many(r.Intn(40))
		for i := range l {
			l[i] = uint16(number())
		}
		makesOutgoing(t, number(), number(), number(), l...)
		makesIncoming(t, number(), l...)
		makesResponse(t, number(), number(), []uint32{number(), number(), number()}[:r.Intn(4)]...)
		makesMore(t, uint16(16+r.Intn(4)), number(), uint16(number()))
		seq := number()
		makes(t, "Reset", stream.Reset(seq), true, written(15, []uint32{seq}), true)
	}
}

// P17.2

func TestSeqAndStreams(t *testing.T) {
	for i, x := range []struct {
		n   api.Node
		seq uint32
		l   []uint16
	}{
		{plain(13, 0, 0, 1, 2, 0, 0, 0, 1, 0, 0, 0, 2), 258, nil},
		{plain(13, 1, 2, 3, 4, 5, 6, 7, 8, 9, 10, 11, 12, 13, 14, 0, 1, 255, 255), 0x01020304, list(0x0d0e, 1, 65535)},
		{plain(14, 0, 0, 1, 2), 258, nil},
		{plain(14, 255, 255, 255, 255, 1, 2, 0, 0, 128, 0), math.MaxUint32, list(258, 0, 32768)},
		{plain(14, 1, 2, 3, 4, 5, 6, 7, 8, 9, 10, 11, 12), 0x01020304, list(0x0506, 0x0708, 0x090a, 0x0b0c)},
		// Streams only of the parameters 13 and 14.
		{plain(15, 0, 0, 1, 2), 258, nil},
		{plain(16, 0, 0, 1, 2, 0, 0, 0, 3), 258, nil},
		{plain(16, 0, 0, 1, 2, 0, 0, 0, 3, 0, 4, 0, 5, 0, 6, 0, 7), 258, nil},
		{plain(17, 0, 0, 1, 2, 0, 3, 0, 0), 258, nil},
		{plain(18, 128, 0, 0, 0, 0, 3, 0, 0), 1 << 31, nil},
		// For the layer 8, the last two bytes need not be zero.
		{plain(17, 0, 0, 1, 2, 0, 3, 0, 1), 258, nil},
		{plain(18, 0, 0, 1, 2, 0, 3, 255, 255), 258, nil},
	} {
		if seq, ok := stream.Seq(x.n); !ok || seq != x.seq {
			t.Errorf("%d: Seq(%v): %d, %t; want %d", i, x.n, seq, ok, x.seq)
		}
		if l := stream.Streams(x.n); !slices.Equal(l, x.l) {
			t.Errorf("%d: Streams(%v): %v; want %v", i, x.n, l, x.l)
		}
		if !reads(t, x.n) {
			t.Errorf("%d: %v is not read", i, x.n)
		}
	}
}

func TestOfOtherNodes(t *testing.T) {
	for kind := uint16(13); kind <= 18; kind++ {
		for _, size := range []int{0, 1, 2, 3, 5, 7, 9, 11, 13, 15, 17, 65531, 65532, 65533, 65534, 65535, 65536, 1 << 20} {
			if reads(t, sized(kind, size)) {
				t.Errorf("%d with %d bytes is read", kind, size)
			}
		}
		for _, n := range samples(9) {
			kids := [][]api.Node{nodes(plain(0x8000)), nodes(n), nodes(n, n), nodes(plain(5, 1, 2, 3, 4)), nodes(nested(8, 5000)), make([]api.Node, 1<<15)}
			for _, l := range kids {
				if reads(t, api.Node{Type: n.Type, Data: n.Data, Kids: l}) || reads(t, api.Node{Type: kind, Kids: l}) {
					t.Errorf("%d with %d inside is read", n.Type, len(l))
				}
			}
			// What is inside others does not count.
			if reads(t, with(8, n)) || reads(t, with(kind, n)) {
				t.Errorf("%v inside another one is read", n)
			}
		}
	}
}

func TestOfAllSizes(t *testing.T) {
	sizes := []int{65526, 65527, 65528, 65529, 65530, 65531, 65532}
	for size := range 100 {
		sizes = append(sizes, size)
	}
	for kind := uint16(13); kind <= 18; kind++ {
		for _, size := range sizes {
			n := sized(kind, size)
			for i := range n.Data {
				n.Data[i] = byte(7 * i)
			}
			want := map[uint16]bool{
				13: size >= 12 && size%2 == 0, 14: size >= 4 && size%2 == 0, 15: size == 4, 16: size == 8 || size == 16, 17: size == 8, 18: size == 8,
			}[kind] && size <= 65530
			if reads(t, n) != want {
				t.Errorf("%d with %d bytes: %t", kind, size, !want)
			}
		}
	}
}

func TestOfAllTypes(t *testing.T) {
	for kind := range 1 << 16 {
		for _, size := range []int{0, 4, 8, 12, 16, 18} {
			n := sized(uint16(kind), size)
			for i := range n.Data {
				n.Data[i] = byte(i + 1)
			}
			if seq, ok := stream.Seq(n); ok != isRight(n) || ok && seq != 0x01020304 || !ok && seq != 0 {
				t.Fatalf("Seq(%v): %d, %t", n, seq, ok)
			}
			reads(t, n)
		}
	}
}

func TestOfRandomNodes(t *testing.T) {
	r := rand.New(rand.NewSource(2))
	found := 0
	for range 50000 {
		if reads(t, someNode(r)) {
			found++
		}
	}
	if found < 10000 || found > 40000 {
		t.Error(found, "parameters")
	}
}

// P17.3

func TestMake(t *testing.T) {
	all := samples(9)
	if c, ok := stream.Make(); ok || !sameChunks(c, api.Chunk{}) {
		t.Errorf("Make(): %v, %t", c, ok)
	}
	for _, a := range all {
		if c, ok := stream.Make(a); !ok || !sameChunks(c, api.Chunk{Type: 130, Kids: nodes(a)}) {
			t.Errorf("Make(%v): %v, %t", a, c, ok)
		}
		for _, b := range all {
			// Whatever they are, in the order given.
			if c, ok := stream.Make(a, b); !ok || !sameChunks(c, api.Chunk{Type: 130, Kids: nodes(a, b)}) {
				t.Errorf("Make(%v, %v): %v, %t", a, b, c, ok)
			}
			for _, l := range [][]api.Node{{a, b, a}, {a, a, b, b}, slices.Repeat(nodes(a, b), 1000)} {
				if c, ok := stream.Make(l...); ok || !sameChunks(c, api.Chunk{}) || puts(t, l...) {
					t.Errorf("Make of %d parameters: %v, %t", len(l), c, ok)
				}
			}
		}
	}
}

func TestMakeOfOtherNodes(t *testing.T) {
	good := stream.Reset(9)
	others := nodes(
		api.Node{}, plain(1, 1, 2, 3, 4), plain(5, 1, 2, 3, 4), sized(6, 16), plain(7), plain(9, 1, 2, 3, 4), plain(11, 65, 0), plain(12, 0, 5), plain(19, 0, 0, 0, 9), plain(0x8000),
		plain(0xc005, 1, 2, 3, 4), plain(0xffff), plain(0x0f00, 0, 0, 0, 9), plain(0x010f, 0, 0, 0, 9), plain(0x800f, 0, 0, 0, 9), with(8, good),
	)
	for kind := uint16(13); kind <= 18; kind++ {
		others = append(others,
			sized(kind, 0), sized(kind, 2), sized(kind, 3), sized(kind, 5), sized(kind, 7), sized(kind, 9), sized(kind, 15), sized(kind, 17), sized(kind, 65532), sized(kind, 1<<20),
			with(kind, good), nested(kind, 5000), api.Node{Type: kind, Data: make([]byte, 8), Kids: nodes(plain(0x8000))},
		)
	}
	for i, n := range others {
		for _, l := range [][]api.Node{{n}, {good, n}, {n, good}, {n, n}, {good, good, n}, {n, good, good}} {
			if c, ok := stream.Make(l...); ok || !sameChunks(c, api.Chunk{}) || puts(t, l...) {
				t.Errorf("%d: Make(%.200v): %.200v, %t", i, l, c, ok)
			}
		}
	}
	for kind := range 1 << 16 {
		if ok := puts(t, sized(uint16(kind), 8)); ok != (kind == 14 || kind == 16 || kind == 17 || kind == 18) {
			t.Errorf("Make of the type %d: %t", kind, ok)
		}
	}
}

func TestMakeOfLongNodes(t *testing.T) {
	// All bytes of a chunk are at most 65535: those of its kids, at most 65531.
	for i, x := range []struct {
		l  []api.Node
		ok bool
	}{
		{nodes(sized(14, 65524)), true}, {nodes(sized(14, 65526)), true}, {nodes(sized(14, 65528)), false}, {nodes(sized(14, 65530)), false}, {nodes(sized(14, 65532)), false},
		{nodes(sized(13, 65526)), true}, {nodes(sized(13, 65528)), false}, {nodes(sized(13, 65530)), false},
		{nodes(sized(15, 4), sized(14, 65518)), true}, {nodes(sized(15, 4), sized(14, 65520)), false}, {nodes(sized(15, 4), sized(14, 65522)), false},
		{nodes(sized(14, 65518), sized(15, 4)), false}, {nodes(sized(14, 65516), sized(15, 4)), true}, {nodes(sized(14, 65514), sized(15, 4)), true}, {nodes(sized(14, 65520), sized(15, 4)), false},
		{nodes(sized(13, 32760), sized(13, 32762)), true}, {nodes(sized(13, 32760), sized(13, 32764)), false}, {nodes(sized(13, 32762), sized(13, 32760)), false}, {nodes(sized(13, 32758), sized(13, 32762)), true},
		{nodes(sized(13, 65530), sized(13, 65530)), false}, {nodes(sized(14, 65526), sized(16, 8)), false},
	} {
		if ok := puts(t, x.l...); ok != x.ok {
			t.Errorf("%d: Make: %t", i, ok)
		}
	}
}

func TestMakeOfRandomNodes(t *testing.T) {
	r := rand.New(rand.NewSource(3))
	made := 0
	for range 50000 {
		l := nodes(someNode(r), someNode(r), someNode(r))
		if puts(t, l[:[]int{0, 1, 1, 1, 2, 2, 2, 3}[r.Intn(8)]]...) {
			made++
		}
	}
	if made < 5000 || made > 40000 {
		t.Error(made, "chunks")
	}
}

// P17.4

func TestAnswers(t *testing.T) {
	all := append(samples(9), samples(10)...)
	for _, q := range all {
		for _, a := range all {
			want := q.Type != 16 && a.Type == 16 && q.Data[3] == a.Data[3]
			if answers(t, q, a) != want {
				t.Errorf("Answers(%v, %v): %t", q, a, !want)
			}
		}
	}
}

func TestAnswersByTheSequenceNumber(t *testing.T) {
	numbers := []uint32{0, 1, 9, 255, 256, 65535, 65536, 1 << 24, 1<<31 - 1, 1 << 31, math.MaxUint32}
	for _, x := range numbers {
		for _, y := range numbers {
			// Other numbers in the parameters do not count.
			a, _ := stream.Response(y, x, x, x)
			out, _ := stream.Outgoing(x, y, y)
			in, _ := stream.Incoming(x, uint16(y), uint16(y))
			add, _ := stream.More(17, x, uint16(y))
			for _, q := range nodes(out, in, stream.Reset(x), add) {
				if answers(t, q, a) != (x == y) || answers(t, a, q) {
					t.Errorf("Answers(%v, %v)", q, a)
				}
			}
		}
	}
}

func TestAnswersOfOtherNodes(t *testing.T) {
	q, a := stream.Reset(9), written(16, []uint32{9, 1})
	if !answers(t, q, a) {
		t.Errorf("Answers(%v, %v)", q, a)
	}
	inside := nodes(plain(0x8000))
	for i, n := range nodes(
		api.Node{}, plain(15), plain(15, 0, 0, 9), plain(15, 0, 0, 0, 9, 0), sized(15, 65532), plain(13, 0, 0, 0, 9), plain(13, 0, 0, 0, 9, 0, 0, 0, 0, 0, 0), plain(14, 0, 0, 0, 9, 0),
		plain(17, 0, 0, 0, 9), plain(18, 0, 0, 0, 9, 0, 1), plain(12, 0, 0, 0, 9), plain(19, 0, 0, 0, 9), plain(9, 0, 0, 0, 9), plain(5, 0, 0, 0, 9), plain(0xc005, 0, 0, 0, 9), plain(0x0f00, 0, 0, 0, 9),
		with(8, q), with(15, q), api.Node{Type: 15, Data: q.Data, Kids: inside}, nested(15, 5000),
	) {
		if answers(t, n, a) || answers(t, a, n) {
			t.Errorf("%d: Answers(%.200v, %v)", i, n, a)
		}
	}
	for i, n := range nodes(
		api.Node{}, plain(16), plain(16, 0, 0, 0, 9), plain(16, 0, 0, 0, 9, 0, 0, 1), plain(16, 0, 0, 0, 9, 0, 0, 0, 1, 0, 0, 0, 2), sized(16, 12), sized(16, 24), sized(16, 65536),
		plain(15, 0, 0, 0, 9), plain(17, 0, 0, 0, 9, 0, 1, 0, 0), plain(0x1000, 0, 0, 0, 9, 0, 0, 0, 1), plain(0x8010, 0, 0, 0, 9, 0, 0, 0, 1), with(8, a), with(16, a),
		api.Node{Type: 16, Data: a.Data, Kids: inside}, nested(16, 5000),
	) {
		if answers(t, q, n) || answers(t, n, q) {
			t.Errorf("%d: Answers(%v, %.200v)", i, q, n)
		}
	}
	// Wrong ones do not answer each other by the number that they do not have.
	if answers(t, plain(15), plain(16)) || answers(t, api.Node{}, api.Node{}) || answers(t, stream.Reset(0), plain(16)) || answers(t, plain(15), written(16, []uint32{0, 0})) {
		t.Error("Answers of wrong parameters")
	}
}

func TestAnswersOfRandomNodes(t *testing.T) {
	r := rand.New(rand.NewSource(4))
	found := 0
	for range 100000 {
		q, a := someNode(r), someNode(r)
		if r.Intn(4) > 0 {
			a.Type = 16
			copy(a.Data, q.Data[:min(4, len(q.Data))])
		}
		if answers(t, q, a) {
			found++
		}
	}
	if found < 5000 || found > 90000 {
		t.Error(found, "answers")
	}
}

// P17.5: all of it is checked with P17.1 too; here through the bytes of a chunk.

func TestThroughBytes(t *testing.T) {
	r := rand.New(rand.NewSource(5))
	for range 5000 {
		seq, l := r.Uint32(), many(r.Intn(30))
		out, _ := stream.Outgoing(seq, r.Uint32(), r.Uint32(), l...)
		in, _ := stream.Incoming(^seq, l...)
		c, ok := stream.Make(out, in)
		b, err := chunk.Encode(c)
		if !ok || err != nil {
			t.Fatal(c, ok, err)
		}
		c, err = chunk.Parse(b)
		if err != nil || len(c.Kids) != 2 {
			t.Fatal(c, err)
		}
		gives(t, c.Kids[0], true, seq, l)
		gives(t, c.Kids[1], true, ^seq, l)
		a, _ := stream.Response(seq, 1)
		if !answers(t, c.Kids[0], a) || answers(t, c.Kids[1], a) {
			t.Fatal(c, a)
		}
	}
}

// The rules: arguments stay as they are, and no memory is shared.

func TestParametersShareNoMemory(t *testing.T) {
	for _, from := range [][]uint16{{}, {1}, {5, 2, 5}} {
		l := append(slices.Clone(from), 0xaaaa)[:len(from)]
		out, _ := stream.Outgoing(1, 2, 3, l...)
		in, _ := stream.Incoming(1, l...)
		wants := nodes(written(13, []uint32{1, 2, 3}, from...), written(14, []uint32{1}, from...))
		if !slices.Equal(l[:len(from)+1], append(slices.Clone(from), 0xaaaa)) {
			t.Error("the streams are changed", l)
		}
		for i := range l[:cap(l)] {
			l[:cap(l)][i] ^= 0xffff
		}
		for i, n := range nodes(out, in) {
			if !same(n, wants[i]) {
				t.Error("a parameter shares memory with the streams", n)
			}
			back, again := stream.Streams(n), stream.Streams(n)
			scribbleBytes(n.Data)
			if !slices.Equal(back, from) {
				t.Error("the streams share memory with a parameter", back)
			}
			for i := range back[:cap(back)] {
				back[:cap(back)][i] ^= 0xffff
			}
			if !slices.Equal(again, from) {
				t.Error("the streams share memory", again)
			}
		}
	}
	numbers := []uint32{3, 4, 0xaaaa}
	made := func() []api.Node {
		response, _ := stream.Response(1, 2, numbers[:2]...)
		more, _ := stream.More(17, 1, 2)
		return nodes(response, more, stream.Reset(1))
	}
	first, second := made(), made()
	if !slices.Equal(numbers, []uint32{3, 4, 0xaaaa}) {
		t.Error("Response changes", numbers)
	}
	numbers[0], numbers[1] = 7, 8
	scribble(first)
	if want := nodes(written(16, []uint32{1, 2, 3, 4}), written(17, []uint32{1}, 2, 0), written(15, []uint32{1})); !slices.EqualFunc(second, want, same) {
		t.Error("parameters share memory", second)
	}
}

func TestChunksShareNoMemory(t *testing.T) {
	for _, from := range [][]api.Node{samples(9)[1:2], samples(9)[2:4], {stream.Reset(1), stream.Reset(2)}} {
		l := copied(from)
		before := whole(l)
		c, _ := stream.Make(l...)
		other, _ := stream.Make(l...)
		stream.Answers(l[0], l[len(l)-1])
		for _, n := range l {
			stream.Streams(n)
		}
		if !slices.EqualFunc(whole(l), before, same) {
			t.Error("the parameters are changed", l)
		}
		scribble(l)
		if !slices.EqualFunc(c.Kids, from, same) {
			t.Error("a chunk shares memory with the parameters", c)
		}
		// No two slices of one result share memory.
		scribbleBytes(c.Kids[0].Data)
		if !slices.EqualFunc(c.Kids[1:], from[1:], same) || !slices.EqualFunc(other.Kids, from, same) {
			t.Error("chunks share memory", c, other)
		}
	}
	// One parameter that is given twice is put in a chunk twice.
	n := stream.Reset(1)
	c, _ := stream.Make(n, n)
	scribbleBytes(c.Kids[0].Data)
	if !same(c.Kids[1], written(15, []uint32{1})) || !same(n, written(15, []uint32{1})) {
		t.Error("a chunk shares memory with itself", c, n)
	}
}

// P1: all arguments are allowed, and the functions may be called concurrently.

func TestAnyArguments(t *testing.T) {
	r := rand.New(rand.NewSource(6))
	deep, wide := nested(13, 5000), api.Node{Type: 13, Kids: make([]api.Node, 1<<15)}
	l := nodes(deep, wide, nested(8, 5000), sized(13, 1<<20), api.Node{}, stream.Reset(9), written(16, []uint32{9, 1}))
	for range 200 {
		l = append(l, someNode(r))
	}
	for _, n := range l {
		reads(t, n)
		puts(t, n)
		puts(t, stream.Reset(9), n)
		answers(t, l[5], n)
		answers(t, n, l[6])
		answers(t, n, n)
	}
	puts(t, l...)
	if c, ok := stream.Make(make([]api.Node, 1<<20)...); ok || !sameChunks(c, api.Chunk{}) {
		t.Error("Make of many nodes")
	}
	if c, ok := stream.Make(slices.Repeat(nodes(stream.Reset(9)), 1<<20)...); ok || !sameChunks(c, api.Chunk{}) {
		t.Error("Make of many parameters")
	}
}

func TestConcurrently(t *testing.T) {
	l := list(5, 2, 7)
	q := written(13, []uint32{9, 1, 2}, l...)
	a := written(16, []uint32{9, 1})
	var group sync.WaitGroup
	for range 8 {
		group.Go(func() {
			for range 50 {
				out, made := stream.Outgoing(9, 1, 2, l...)
				seq, ok := stream.Seq(q)
				if !made || !same(out, q) || !ok || seq != 9 || !slices.Equal(stream.Streams(q), l) || !stream.Answers(q, a) {
					t.Error("Outgoing, Seq, Streams or Answers")
				}
				in, _ := stream.Incoming(9, l...)
				response, _ := stream.Response(9, 1)
				more, _ := stream.More(18, 9, 2)
				if !same(in, written(14, []uint32{9}, l...)) || !same(response, a) || !same(more, written(18, []uint32{9}, 2, 0)) || !same(stream.Reset(9), written(15, []uint32{9})) {
					t.Error("Incoming, Response, More or Reset")
				}
				if c, ok := stream.Make(q, a); !ok || !sameChunks(c, api.Chunk{Type: 130, Kids: nodes(q, a)}) {
					t.Error("Make")
				}
			}
		})
	}
	group.Wait()
}
