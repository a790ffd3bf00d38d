package cause_test

import (
	"bytes"
	"encoding/binary"
	"math/rand"
	"slices"
	"strings"
	"sync"
	"testing"

	"wharf/api"
	"wharf/cause"
	"wharf/node"
)

// plain returns a node with some bytes and none inside.
func plain(t uint16, data ...byte) api.Node { return api.Node{Type: t, Data: data} }

// with returns a node with some nodes inside and no bytes in front of them.
func with(t uint16, kids ...api.Node) api.Node { return api.Node{Type: t, Kids: kids} }

// long returns a node with some zero bytes.
func long(t uint16, size int) api.Node { return plain(t, make([]byte, size)...) }

// ip4 returns an address with a last byte, and ecn a parameter without bytes.
func ip4(last byte) api.Node { return plain(5, 10, 0, 0, last) }
func ecn() api.Node          { return plain(0x8000) }

// same reports whether two nodes are the same.
func same(a, b api.Node) bool {
	return a.Type == b.Type && bytes.Equal(a.Data, b.Data) && slices.EqualFunc(a.Kids, b.Kids, same)
}

// zero reports whether a node is the zero Node.
func zero(n api.Node) bool { return n.Type == 0 && len(n.Data) == 0 && len(n.Kids) == 0 }

// fails reports what a result has that is not as it should be: the wanted node
// with true, which must be a right cause, or the zero Node with false.
func fails(got api.Node, ok bool, want api.Node, wantOK bool) string {
	switch {
	case ok != wantOK:
		return "the bool is wrong"
	case !ok && !zero(got):
		return "the node is not zero"
	case ok && !same(got, want):
		return "the node is another one"
	case ok && node.Check(api.Cause, got) != nil:
		return "the node is not right"
	}
	return ""
}

// copied returns the same nodes in new memory, with unused capacity that is not
// zero.
func copied(l []api.Node) []api.Node {
	if l == nil {
		return nil
	}
	c := make([]api.Node, len(l), len(l)+1)
	c[:len(l)+1][len(l)] = plain(0xcccc, 0xdd)
	for i, n := range l {
		data := append(bytes.Clone(n.Data), 0xaa, 0xbb)
		c[i] = api.Node{Type: n.Type, Data: data[:len(n.Data)], Kids: copied(n.Kids)}
	}
	return c
}

// whole returns the nodes with their unused capacity as parts of them.
func whole(l []api.Node) []api.Node {
	c := slices.Clone(l[:cap(l)])
	for i, n := range c {
		c[i].Data, c[i].Kids = bytes.Clone(n.Data[:cap(n.Data)]), whole(n.Kids)
	}
	return c
}

// scribble changes all of the memory of nodes.
func scribble(l []api.Node) {
	l = l[:cap(l)]
	for i, n := range l {
		invert(n.Data)
		scribble(n.Kids)
		l[i] = plain(^n.Type, 0xee)
	}
}

// invert changes all of the memory of bytes.
func invert(b []byte) {
	b = b[:cap(b)]
	for i := range b {
		b[i] ^= 0xff
	}
}

// P10.1

// numbers are causes with their numbers.
var numbers = []struct {
	t    uint16
	x    uint32
	data []byte
}{
	{1, 258, []byte{1, 2, 0, 0}}, {1, 0, []byte{0, 0, 0, 0}}, {1, 1, []byte{0, 1, 0, 0}}, {1, 0x8000, []byte{0x80, 0, 0, 0}}, {1, 65535, []byte{255, 255, 0, 0}},
	{3, 258, []byte{0, 0, 1, 2}}, {3, 0, []byte{0, 0, 0, 0}}, {3, 65535, []byte{0, 0, 255, 255}}, {3, 65536, []byte{0, 1, 0, 0}}, {3, 0xffffffff, []byte{255, 255, 255, 255}},
	{9, 258, []byte{0, 0, 1, 2}}, {9, 0, []byte{0, 0, 0, 0}}, {9, 0x01020304, []byte{1, 2, 3, 4}}, {9, 0x80000000, []byte{0x80, 0, 0, 0}}, {9, 0xffffffff, []byte{255, 255, 255, 255}},
}

func TestNumber(t *testing.T) {
	for _, x := range numbers {
		n, ok := cause.Number(x.t, x.x)
		if s := fails(n, ok, plain(x.t, x.data...), true); s != "" {
			t.Errorf("Number(%d, %d): %v, %v: %s", x.t, x.x, n, ok, s)
		}
		if got, ok := cause.Value(plain(x.t, x.data...)); !ok || got != x.x {
			t.Errorf("Value of %d with %d: %d, %v; want %d", x.t, x.data, got, ok, x.x)
		}
	}
}

func TestNumberOfAStreamThatIsTooGreat(t *testing.T) {
	for _, x := range []uint32{65536, 65537, 0x10102, 0x1020000, 0x80000000, 0xffff0000, 0xffffffff} {
		n, ok := cause.Number(1, x)
		if s := fails(n, ok, api.Node{}, false); s != "" {
			t.Errorf("Number(1, %d): %v, %v: %s", x, n, ok, s)
		}
	}
}

func TestNumberOfAllTypes(t *testing.T) {
	for kind := range 1 << 16 {
		known := kind == 1 || kind == 3 || kind == 9
		for _, x := range []uint32{0, 7, 65536, 0xffffffff} {
			want := plain(uint16(kind), binary.BigEndian.AppendUint32(nil, x)...)
			if kind == 1 {
				want.Data = append(want.Data[2:], 0, 0)
			}
			n, ok := cause.Number(uint16(kind), x)
			if s := fails(n, ok, want, known && (kind != 1 || x < 65536)); s != "" {
				t.Fatalf("Number(%d, %d): %v, %v: %s", kind, x, n, ok, s)
			}
		}
		if x, ok := cause.Value(plain(uint16(kind), 1, 2, 0, 0)); ok != known || x != map[int]uint32{1: 258, 3: 0x1020000, 9: 0x1020000}[kind] {
			t.Fatalf("Value of the type %d: %d, %v", kind, x, ok)
		}
	}
}

func TestValueOfOtherNodes(t *testing.T) {
	l := []api.Node{
		{}, plain(1, 1, 2, 0, 1), plain(1, 1, 2, 1, 0), plain(1, 0, 0, 1, 2), plain(1, 0, 0, 0, 128), plain(1, 255, 255, 255, 255),
		plain(2, 0, 0, 0, 1), plain(2, 0, 0, 0, 1, 0, 7), plain(6, 1, 2, 0, 0), plain(12, 1, 2, 0, 0), plain(0x0103, 1, 2, 3, 4), plain(0x8003, 1, 2, 3, 4), plain(4, 1, 2, 3, 4),
	}
	for _, kind := range []uint16{1, 3, 9} {
		for _, size := range []int{0, 1, 2, 3, 5, 6, 8, 16, 65531, 65536, 1 << 20} {
			l = append(l, long(kind, size))
		}
		l = append(l, with(kind, ecn()), with(kind, plain(kind, 1, 2, 0, 0)), api.Node{Type: kind, Data: []byte{1, 2, 0, 0}, Kids: []api.Node{ecn()}})
	}
	for _, n := range l {
		if x, ok := cause.Value(n); ok || x != 0 {
			t.Errorf("Value of %d with %d ..: %d, %v", n.Type, n.Data[:min(len(n.Data), 8)], x, ok)
		}
	}
	empty := api.Node{Type: 9, Data: []byte{1, 2, 0, 0}, Kids: []api.Node{}}
	if x, ok := cause.Value(empty); !ok || x != 0x1020000 {
		t.Errorf("Value(%v): %d, %v", empty, x, ok)
	}
}

// P10.2

// missing returns the cause 2 of types by its definition, with a count.
func missing(count int, l []uint16) api.Node {
	data := binary.BigEndian.AppendUint32(nil, uint32(count))
	for _, kind := range l {
		data = binary.BigEndian.AppendUint16(data, kind)
	}
	return plain(2, data...)
}

// someTypes returns random types.
func someTypes(r *rand.Rand, count int) []uint16 {
	l := make([]uint16, count, count+3)
	for i := range l {
		l[i] = uint16(r.Intn(1 << 16))
	}
	return l
}

func TestMissing(t *testing.T) {
	n, ok := cause.Missing(7, 0xc006, 0)
	if s := fails(n, ok, plain(2, 0, 0, 0, 3, 0, 7, 0xc0, 6, 0, 0), true); s != "" {
		t.Errorf("Missing(7, 0xc006, 0): %v, %v: %s", n, ok, s)
	}
	n, ok = cause.Missing(0x0102)
	if s := fails(n, ok, plain(2, 0, 0, 0, 1, 1, 2), true); s != "" {
		t.Errorf("Missing(0x0102): %v, %v: %s", n, ok, s)
	}
	// Types are neither sorted nor left out.
	n, ok = cause.Missing(9, 5, 9)
	if s := fails(n, ok, plain(2, 0, 0, 0, 3, 0, 9, 0, 5, 0, 9), true); s != "" {
		t.Errorf("Missing(9, 5, 9): %v, %v: %s", n, ok, s)
	}
}

func TestMissingOfManyTypes(t *testing.T) {
	r := rand.New(rand.NewSource(1))
	for _, count := range []int{0, 1, 2, 3, 4, 5, 255, 256, 257, 1000, 32761, 32762, 32763, 32764, 32765, 32766, 32767, 32768, 40000, 65535, 65536, 65537, 98299, 100000, 1 << 20} {
		l := someTypes(r, count)
		n, ok := cause.Missing(l...)
		fits := count >= 1 && count <= 32763
		if s := fails(n, ok, missing(count, l), fits); s != "" {
			t.Errorf("Missing of %d types: %v: %s", count, ok, s)
		}
		if got, ok := cause.Types(missing(count, l)); ok != fits || fits && !slices.Equal(got, l) || !fits && len(got) != 0 {
			t.Errorf("Types of %d types: %d of them, %v", count, len(got), ok)
		}
	}
	if n, ok := cause.Missing(); ok || !zero(n) {
		t.Errorf("Missing(): %v, %v", n, ok)
	}
}

func TestTypesOfOtherNodes(t *testing.T) {
	for _, n := range []api.Node{
		{}, plain(2), plain(2, 0), plain(2, 0, 0, 0), plain(2, 0, 0, 0, 0), plain(2, 0, 0, 0, 1), plain(2, 0, 0, 0, 1, 7), plain(2, 0, 0, 0, 0, 7),
		plain(2, 0, 0, 0, 0, 0, 7), plain(2, 0, 0, 0, 2, 0, 7), plain(2, 0, 0, 1, 1, 0, 7), plain(2, 0, 1, 0, 1, 0, 7), plain(2, 1, 0, 0, 1, 0, 7), plain(2, 128, 0, 0, 1, 0, 7),
		plain(2, 0, 0, 0, 1, 0, 7, 0), plain(2, 0, 0, 0, 1, 0, 7, 0, 8), plain(2, 0, 0, 0, 2, 0, 7, 0), plain(2, 0, 0, 0, 3, 0, 7, 0, 8), plain(2, 0, 0, 0, 4, 0, 7, 0, 8),
		plain(0, 0, 0, 0, 1, 0, 7), plain(1, 0, 0, 0, 1, 0, 7), plain(3, 0, 0, 0, 1, 0, 7), plain(6, 0, 0, 0, 1, 0, 7), plain(12, 0, 0, 0, 1, 0, 7), plain(0x0102, 0, 0, 0, 1, 0, 7), plain(0x8002, 0, 0, 0, 1, 0, 7), plain(0x0200, 0, 0, 0, 1, 0, 7),
		{Type: 2, Data: []byte{0, 0, 0, 1, 0, 7}, Kids: []api.Node{ecn()}}, with(2, plain(2, 0, 0, 0, 1, 0, 7)), with(8, plain(2, 0, 0, 0, 1, 0, 7)), long(2, 6), long(2, 65531), long(2, 1<<20),
	} {
		if l, ok := cause.Types(n); ok || len(l) != 0 {
			t.Errorf("Types of %d with %d ..: %v, %v", n.Type, n.Data[:min(len(n.Data), 8)], l, ok)
		}
	}
	empty := api.Node{Type: 2, Data: []byte{0, 0, 0, 1, 0, 7}, Kids: []api.Node{}}
	if l, ok := cause.Types(empty); !ok || !slices.Equal(l, []uint16{7}) {
		t.Errorf("Types(%v): %v, %v", empty, l, ok)
	}
}

// P10.3

func TestChunk(t *testing.T) {
	r := rand.New(rand.NewSource(2))
	for _, size := range []int{0, 1, 2, 3, 4, 5, 6, 7, 8, 100, 65527, 65528, 65529, 65530, 65531, 65532, 65533, 65534, 65535, 65536, 65540, 131071, 1 << 20} {
		b := make([]byte, size, size+2)
		r.Read(b)
		n, ok := cause.Chunk(b)
		if s := fails(n, ok, plain(6, b...), size >= 4 && size <= 65531); s != "" {
			t.Errorf("Chunk of %d bytes: %v: %s", size, ok, s)
		}
	}
	if n, ok := cause.Chunk(nil); ok || !zero(n) {
		t.Errorf("Chunk(nil): %v, %v", n, ok)
	}
	// The bytes need not be those of a chunk.
	n, ok := cause.Chunk([]byte{255, 255, 0, 1, 7})
	if s := fails(n, ok, plain(6, 255, 255, 0, 1, 7), true); s != "" {
		t.Errorf("Chunk: %v, %v: %s", n, ok, s)
	}
}

func TestMessage(t *testing.T) {
	for _, kind := range []uint16{12, 13} {
		for _, s := range []string{"", "a", "abc", "no\x00text\n", "äöü 日本", "\xff\xfe\x80", strings.Repeat("x", 65530), strings.Repeat("é", 32765), strings.Repeat("x", 65531)} {
			n, ok := cause.Message(kind, s)
			if s := fails(n, ok, plain(kind, []byte(s)...), true); s != "" {
				t.Errorf("Message(%d) with %.20q ..: %v: %s", kind, n.Data, ok, s)
			}
		}
		for _, size := range []int{65532, 65533, 65535, 65536, 131071, 1 << 20} {
			n, ok := cause.Message(kind, strings.Repeat("x", size))
			if s := fails(n, ok, api.Node{}, false); s != "" {
				t.Errorf("Message(%d) of %d bytes: %v: %s", kind, size, ok, s)
			}
		}
	}
}

func TestMessageOfAllTypes(t *testing.T) {
	for kind := range 1 << 16 {
		for _, s := range []string{"", "ab", "abcd"} {
			n, ok := cause.Message(uint16(kind), s)
			if f := fails(n, ok, plain(uint16(kind), []byte(s)...), kind == 12 || kind == 13); f != "" {
				t.Fatalf("Message(%d, %q): %v, %v: %s", kind, s, n, ok, f)
			}
		}
	}
}

// P10.4

// nested returns a parameter with others inside, one in the other, so that all
// are as many.
func nested(count int) api.Node {
	n := ip4(1)
	for range count - 1 {
		n = with(8, n)
	}
	return n
}

func TestParams(t *testing.T) {
	adding := api.Node{Type: 0xc001, Data: []byte{0, 0, 0, 9}, Kids: []api.Node{ip4(1)}}
	odd := plain(0x4003, 7)
	for i, x := range []struct {
		t  uint16
		l  []api.Node
		ok bool
	}{
		// One or more parameters.
		{8, []api.Node{odd}, true}, {8, []api.Node{odd, ecn(), odd}, true}, {11, []api.Node{ip4(1), ip4(2)}, true}, {11, []api.Node{adding, ip4(1)}, true}, {8, nil, false}, {11, nil, false}, {8, []api.Node{}, false},
		// One parameter.
		{5, []api.Node{ip4(1)}, true}, {0xa0, []api.Node{ip4(1)}, true}, {0xa2, []api.Node{adding}, true}, {5, []api.Node{odd}, true},
		{5, nil, false}, {0xa0, nil, false}, {0xa2, nil, false}, {5, []api.Node{ip4(1), ip4(2)}, false}, {0xa0, []api.Node{ip4(1), ip4(1)}, false}, {0xa2, []api.Node{ecn(), ecn()}, false},
		// None.
		{4, nil, true}, {7, nil, true}, {10, nil, true}, {12, nil, true}, {13, nil, true}, {0xa1, nil, true}, {0xa3, nil, true}, {0xa4, []api.Node{}, true}, {0, nil, true}, {14, nil, true}, {0x4003, nil, true}, {0xffff, nil, true},
		{4, []api.Node{ecn()}, false}, {7, []api.Node{ecn()}, false}, {12, []api.Node{ecn()}, false}, {13, []api.Node{ip4(1)}, false}, {0, []api.Node{ecn()}, false}, {14, []api.Node{ecn()}, false}, {0xffff, []api.Node{ecn()}, false}, {0x8008, []api.Node{ecn()}, false}, {0xc003, []api.Node{plain(4)}, false},
		// Bytes that are not there.
		{1, nil, false}, {2, nil, false}, {3, nil, false}, {6, nil, false}, {9, nil, false}, {0x0105, nil, false}, {1, []api.Node{ecn()}, false}, {2, []api.Node{ip4(1)}, false}, {6, []api.Node{ip4(1)}, false},
		// Parameters that are not right.
		{8, []api.Node{plain(5, 1, 2, 3)}, false}, {8, []api.Node{ip4(1), plain(6, 1, 2, 3, 4)}, false}, {11, []api.Node{with(8), ip4(1)}, false}, {5, []api.Node{with(0xc001, ip4(1))}, false}, {8, []api.Node{with(0x4003, ecn())}, false}, {11, []api.Node{with(8, ip4(1), ip4(2))}, false},
		// They are parameters, and no causes: there, 2 begins with no count, and 6 has another form.
		{8, []api.Node{plain(2, 0, 0, 0, 9)}, true}, {8, []api.Node{plain(6, 1, 2, 3, 4)}, false}, {8, []api.Node{plain(4, 7)}, true},
		{8, []api.Node{{Type: 0xc003, Data: []byte{0, 0, 0, 1}, Kids: []api.Node{plain(6, 1, 2, 3, 4)}}}, true}, {8, []api.Node{{Type: 0xc003, Data: []byte{0, 0, 0, 1}, Kids: []api.Node{plain(2, 0, 0, 0, 9, 0, 7)}}}, false},
		// The depth of the cause is 1.
		{8, []api.Node{nested(2)}, true}, {8, []api.Node{nested(3)}, true}, {8, []api.Node{nested(4)}, false}, {5, []api.Node{nested(3)}, true}, {5, []api.Node{nested(4)}, false}, {11, []api.Node{ecn(), nested(5)}, false}, {8, []api.Node{nested(1000)}, false},
		// The bytes of the cause are at most 65535.
		{8, []api.Node{long(7, 65527)}, true}, {8, []api.Node{long(7, 65528)}, false}, {5, []api.Node{long(7, 65531)}, false}, {11, []api.Node{long(7, 65523), ecn()}, false}, {11, []api.Node{long(7, 65520), ecn()}, true}, {11, []api.Node{long(7, 65519), ecn()}, true}, {11, []api.Node{ecn(), long(7, 65523)}, true}, {11, []api.Node{ecn(), long(7, 65524)}, false}, {8, []api.Node{long(7, 65532)}, false}, {8, []api.Node{long(7, 1<<20)}, false},
		{8, slices.Repeat([]api.Node{ecn()}, 16382), true}, {8, slices.Repeat([]api.Node{ecn()}, 16383), false}, {11, slices.Repeat([]api.Node{ecn()}, 16384), false}, {11, slices.Repeat([]api.Node{ecn()}, 16385), false}, {8, slices.Repeat([]api.Node{ip4(1)}, 8191), true}, {8, slices.Repeat([]api.Node{ip4(1)}, 8192), false},
	} {
		n, ok := cause.Params(x.t, x.l...)
		if s := fails(n, ok, with(x.t, x.l...), x.ok); s != "" {
			t.Errorf("%d: Params(0x%x) with %d parameters: %v: %s", i, x.t, len(x.l), ok, s)
		}
	}
}

// inside are how many parameters the causes of some types have inside: none for
// those whose data may be empty, and otherwise one, or one or more.
var inside = map[uint16]string{4: "none", 7: "none", 10: "none", 12: "none", 13: "none", 0xa1: "none", 0xa3: "none", 0xa4: "none", 5: "one", 0xa0: "one", 0xa2: "one", 8: "more", 11: "more", 1: "data", 2: "data", 3: "data", 6: "data", 9: "data", 0x0105: "data"}

func TestParamsOfAllTypes(t *testing.T) {
	for kind := range 1 << 16 {
		has := inside[uint16(kind)]
		for count, fits := range []bool{has == "none" || has == "", has == "one" || has == "more", has == "more"} {
			l := slices.Repeat([]api.Node{ip4(1)}, count)
			n, ok := cause.Params(uint16(kind), l...)
			if s := fails(n, ok, with(uint16(kind), l...), fits); s != "" {
				t.Fatalf("Params(0x%x) with %d parameters: %v: %s", kind, count, ok, s)
			}
		}
	}
}

// P10.5

func TestFirst(t *testing.T) {
	first, second := plain(12, 1), plain(12, 2)
	number := plain(3, 1, 2, 3, 4)
	unknown := plain(0x4003, 9)
	tree := with(8, ip4(1), with(8, ip4(2)))
	for i, x := range []struct {
		t    uint16
		l    []api.Node
		want api.Node
		ok   bool
	}{
		{12, nil, api.Node{}, false}, {0, nil, api.Node{}, false}, {12, []api.Node{}, api.Node{}, false},
		{12, []api.Node{first}, first, true}, {13, []api.Node{first}, api.Node{}, false}, {0, []api.Node{first}, api.Node{}, false},
		{12, []api.Node{first, second}, first, true}, {12, []api.Node{second, first}, second, true}, {12, []api.Node{number, tree, second, number, first}, second, true},
		{3, []api.Node{first, tree, number}, number, true}, {8, []api.Node{first, tree, number}, tree, true}, {0x4003, []api.Node{first, unknown}, unknown, true}, {0, []api.Node{first, plain(0, 5)}, plain(0, 5), true}, {0, []api.Node{{}}, api.Node{}, true}, {0xffff, []api.Node{first, plain(0xffff)}, plain(0xffff), true},
		{0x010c, []api.Node{first}, api.Node{}, false}, {0x0c00, []api.Node{first}, api.Node{}, false},
		// What is inside others does not count.
		{5, []api.Node{tree}, api.Node{}, false}, {8, []api.Node{with(5, with(8, ip4(1))), first}, api.Node{}, false}, {5, []api.Node{tree, with(5, ip4(3))}, with(5, ip4(3)), true},
		// A node that is no right cause is passed over.
		{3, []api.Node{plain(3, 1, 2, 3)}, api.Node{}, false}, {3, []api.Node{plain(3, 1, 2, 3), number}, number, true}, {3, []api.Node{plain(3), plain(3, 1, 2, 3, 4, 5), number, plain(3, 5, 6, 7, 8)}, number, true},
		{8, []api.Node{with(8), with(8, plain(5)), with(8, nested(4)), tree}, tree, true}, {12, []api.Node{with(12, ecn()), second, first}, second, true}, {12, []api.Node{long(12, 65532), first}, first, true}, {12, []api.Node{long(12, 65531), first}, long(12, 65531), true},
		{5, []api.Node{ip4(1)}, api.Node{}, false}, {6, []api.Node{plain(6, 1, 2, 3), plain(6, 1, 2, 3, 4)}, plain(6, 1, 2, 3, 4), true}, {2, []api.Node{plain(2, 0, 0, 0, 2, 0, 7), plain(2, 0, 0, 0, 1, 0, 7)}, plain(2, 0, 0, 0, 1, 0, 7), true},
		// A cause of the type 1 is right without the two zero bytes, too.
		{1, []api.Node{plain(1, 1, 2, 3, 4)}, plain(1, 1, 2, 3, 4), true},
	} {
		n, ok := cause.First(x.t, x.l...)
		if s := fails(n, ok, x.want, x.ok); s != "" {
			t.Errorf("%d: First(0x%x): %.60v, %v: %s", i, x.t, n, ok, s)
		}
	}
}

// someNode returns a random node, of which many are right causes.
func someNode(r *rand.Rand, depth int) api.Node {
	kinds := []uint16{1, 2, 3, 5, 6, 8, 11, 12, 0x4003, uint16(r.Intn(1 << 16))}
	n := long(kinds[r.Intn(len(kinds))], []int{0, 0, 0, 4, 4, 6, r.Intn(20)}[r.Intn(7)])
	r.Read(n.Data)
	if n.Type == 2 && len(n.Data) > 4 && r.Intn(4) > 0 {
		binary.BigEndian.PutUint32(n.Data, uint32(len(n.Data)-4)/2)
	}
	if depth > 0 && len(n.Data) == 0 {
		for range r.Intn(4) {
			n.Kids = append(n.Kids, someNode(r, depth-1))
		}
	}
	return n
}

// someList returns random nodes.
func someList(r *rand.Rand, depth int) []api.Node {
	var l []api.Node
	for range r.Intn(6) {
		l = append(l, someNode(r, depth))
	}
	return l
}

func TestRandomLists(t *testing.T) {
	r := rand.New(rand.NewSource(3))
	found := 0
	for range 20000 {
		l := someList(r, 4)
		kind := someNode(r, 0).Type
		at := slices.IndexFunc(l, func(n api.Node) bool { return n.Type == kind && node.Check(api.Cause, n) == nil })
		want := api.Node{}
		if at >= 0 {
			want = l[at]
			found++
		}
		n, ok := cause.First(kind, l...)
		if s := fails(n, ok, want, at >= 0); s != "" {
			t.Fatalf("First(%d, %v): %v, %v: %s", kind, l, n, ok, s)
		}
		n, ok = cause.Params(kind, l...)
		if s := fails(n, ok, with(kind, l...), node.Check(api.Cause, with(kind, l...)) == nil); s != "" {
			t.Fatalf("Params(%d, %v): %v, %v: %s", kind, l, n, ok, s)
		}
	}
	if found < 1000 || found > 19000 {
		t.Error(found, "of the lists had a cause of the type")
	}
}

// P10.6

func TestValueInvertsNumber(t *testing.T) {
	for x := range uint32(1 << 17) {
		n, ok := cause.Number(1, x)
		back, read := cause.Value(n)
		if fits := x < 1<<16; ok != fits || read != fits || fits && back != x {
			t.Fatalf("Number(1, %d): %v, %v; Value: %d, %v", x, n, ok, back, read)
		}
	}
	r := rand.New(rand.NewSource(4))
	for range 20000 {
		kind, x := []uint16{3, 9}[r.Intn(2)], r.Uint32()>>r.Intn(32)
		n, ok := cause.Number(kind, x)
		if back, read := cause.Value(n); !ok || !read || back != x {
			t.Fatalf("Number(%d, %d): %v, %v; Value: %d, %v", kind, x, n, ok, back, read)
		}
	}
}

func TestNumberInvertsValue(t *testing.T) {
	r := rand.New(rand.NewSource(5))
	found := 0
	for range 20000 {
		n := long([]uint16{1, 1, 2, 3, 9, 12}[r.Intn(6)], 3+r.Intn(3))
		r.Read(n.Data[:min(len(n.Data), 2+r.Intn(2))])
		x, ok := cause.Value(n)
		fits := len(n.Data) == 4 && (n.Type == 3 || n.Type == 9 || n.Type == 1 && n.Data[2] == 0 && n.Data[3] == 0)
		if back, again := cause.Number(n.Type, x); ok != fits || ok && (!again || !same(back, n)) {
			t.Fatalf("Value(%v): %d, %v; Number: %v, %v", n, x, ok, back, again)
		}
		if ok {
			found++
		}
	}
	if found < 1000 || found > 19000 {
		t.Error(found, "of the nodes were causes of a number")
	}
}

func TestTypesInvertsMissing(t *testing.T) {
	r := rand.New(rand.NewSource(6))
	for range 2000 {
		l := someTypes(r, 1+r.Intn(300))
		n, ok := cause.Missing(l...)
		if back, read := cause.Types(n); !ok || !read || !slices.Equal(back, l) {
			t.Fatalf("Missing(%d): %v, %v; Types: %d, %v", l, n, ok, back, read)
		}
	}
}

// P1, and the rules: arguments stay as they are, results are new memory, and
// the functions may be called concurrently.

func TestNodesStayAsTheyAre(t *testing.T) {
	r := rand.New(rand.NewSource(7))
	for range 2000 {
		l := copied(append(someList(r, 4), with(8, ip4(1), with(8, ip4(2)))))
		before := whole(l)
		found, _ := cause.First(8, l...)
		made, _ := cause.Params(11, l[len(l)-1:]...)
		again, _ := cause.Params(found.Type, found.Kids...)
		for _, n := range l {
			cause.Value(n)
			cause.Types(n)
		}
		want := copied([]api.Node{found, made, again})
		if !slices.EqualFunc(whole(l), before, same) {
			t.Fatalf("%v was changed", l)
		}
		scribble(l)
		if !slices.EqualFunc([]api.Node{found, made, again}, want, same) {
			t.Fatalf("a result shares memory with the list: %v, %v", found, made)
		}
		scribble([]api.Node{found})
		if !same(made, want[1]) || !same(again, want[2]) {
			t.Fatalf("a result shares memory with the parameters: %v, %v", made, again)
		}
		// No two slices of one result share memory.
		scribble(again.Kids[:1:1])
		if !slices.EqualFunc(again.Kids[1:], want[2].Kids[1:], same) {
			t.Fatalf("%v shares memory with itself", again)
		}
	}
}

func TestBytesStayAsTheyAre(t *testing.T) {
	b := []byte{1, 2, 3, 4, 5, 6}
	n, _ := cause.Chunk(b[:4])
	if !bytes.Equal(b, []byte{1, 2, 3, 4, 5, 6}) {
		t.Errorf("the bytes were changed: %d", b)
	}
	invert(n.Data)
	if !bytes.Equal(b, []byte{1, 2, 3, 4, 5, 6}) {
		t.Errorf("the cause shares memory with the bytes: %d", b)
	}
	n, _ = cause.Chunk(b[:4])
	invert(b)
	if !same(n, plain(6, 1, 2, 3, 4)) {
		t.Errorf("the cause shares memory with the bytes: %v", n)
	}
	l := []uint16{7, 8, 9}
	n, _ = cause.Missing(l[:2]...)
	types, _ := cause.Types(n)
	if !slices.Equal(l, []uint16{7, 8, 9}) {
		t.Errorf("the types were changed: %d", l)
	}
	l[0], n.Data[5] = 1, 2
	if again, _ := cause.Types(n); !slices.Equal(types, []uint16{7, 8}) || !slices.Equal(again, []uint16{2, 8}) {
		t.Errorf("the types share memory: %d, %d", types, again)
	}
	types[1] = 3
	if !same(n, plain(2, 0, 0, 0, 2, 0, 2, 0, 8)) {
		t.Errorf("the types share memory with the cause: %v", n)
	}
}

func TestResultsDoNotShareMemory(t *testing.T) {
	for range 3 {
		number, _ := cause.Number(3, 5)
		stream, _ := cause.Number(1, 5)
		types, _ := cause.Missing(5)
		text, _ := cause.Message(12, "abc")
		for i, x := range []struct{ got, want api.Node }{{number, plain(3, 0, 0, 0, 5)}, {stream, plain(1, 0, 5, 0, 0)}, {types, plain(2, 0, 0, 0, 1, 0, 5)}, {text, plain(12, 'a', 'b', 'c')}} {
			if !same(x.got, x.want) {
				t.Errorf("%d: %v; want %v", i, x.got, x.want)
			}
			scribble([]api.Node{x.got})
		}
	}
}

// Any node, whether it is right or not, is read.
func TestAnyArguments(t *testing.T) {
	r := rand.New(rand.NewSource(8))
	for range 20000 {
		n := someNode(r, 6)
		x, ok := cause.Value(n)
		if back, made := cause.Number(n.Type, x); ok && (!made || !same(back, n)) || !ok && x != 0 {
			t.Fatalf("Value(%v): %d, %v", n, x, ok)
		}
		l, ok := cause.Types(n)
		if back, made := cause.Missing(l...); ok != (n.Type == 2 && node.Check(api.Cause, n) == nil) || ok && (!made || !same(back, n)) || !ok && len(l) != 0 {
			t.Fatalf("Types(%v): %d, %v", n, l, ok)
		}
		got, ok := cause.Chunk(n.Data)
		if s := fails(got, ok, plain(6, n.Data...), len(n.Data) >= 4); s != "" {
			t.Fatalf("Chunk(%d): %v, %v: %s", n.Data, got, ok, s)
		}
		got, ok = cause.Message(n.Type, string(n.Data))
		if s := fails(got, ok, plain(n.Type, n.Data...), n.Type == 12 || n.Type == 13); s != "" {
			t.Fatalf("Message(%d, %q): %v, %v: %s", n.Type, n.Data, got, ok, s)
		}
	}
}

func TestDeepNodes(t *testing.T) {
	deep := nested(1 << 16)
	for _, kind := range []uint16{1, 2, 5, 8, 0xa0, 0x4003} {
		if n, ok := cause.Params(kind, deep); ok || !zero(n) {
			t.Errorf("Params(%d) of a deep parameter: %v", kind, ok)
		}
		if n, ok := cause.First(kind, deep, with(kind, deep)); ok || !zero(n) {
			t.Errorf("First(%d) of deep nodes: %v", kind, ok)
		}
		if x, ok := cause.Value(with(kind, deep)); ok || x != 0 {
			t.Errorf("Value of a deep node: %d, %v", x, ok)
		}
		if l, ok := cause.Types(with(kind, deep)); ok || len(l) != 0 {
			t.Errorf("Types of a deep node: %d, %v", l, ok)
		}
	}
}

func TestConcurrently(t *testing.T) {
	l := []api.Node{plain(3, 0, 0, 0, 9), with(8, ip4(1)), plain(2, 0, 0, 0, 1, 0, 7)}
	var group sync.WaitGroup
	for range 8 {
		group.Go(func() {
			for range 50 {
				number, _ := cause.First(3, l...)
				x, ok := cause.Value(number)
				kinds, read := cause.Types(l[2])
				made, right := cause.Params(8, l[1].Kids...)
				if !ok || x != 9 || !read || !slices.Equal(kinds, []uint16{7}) || !right || !same(made, l[1]) {
					t.Error(x, ok, kinds, read, made, right)
				}
			}
		})
	}
	group.Wait()
}
