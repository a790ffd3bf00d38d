package chunk_test

import (
	"bytes"
	"errors"
	"math/rand"
	"slices"
	"sync"
	"testing"

	"wharf/api"
	"wharf/chunk"
	"wharf/kind"
	"wharf/node"
)

// The greatest numbers of bytes, of nodes inside and of depths of which the
// chapter speaks.
const (
	mostBytes = 1 << 20
	mostNodes = 1000
	mostDepth = 20
)

// plain returns a chunk without flags and without nodes inside.
func plain(t byte, data ...byte) api.Chunk { return api.Chunk{Type: t, Data: data} }

// flagged returns the same chunk with some flags.
func flagged(flags byte, c api.Chunk) api.Chunk {
	c.Flags = flags
	return c
}

// with returns a chunk with some nodes inside, and n bytes in front of them.
func with(t byte, n int, kids ...api.Node) api.Chunk {
	return api.Chunk{Type: t, Data: []byte{1, 2, 3, 4, 5, 6, 7, 8, 9, 10, 11, 12, 13, 14, 15, 16}[:n], Kids: kids}
}

// leaf returns a node with some bytes and none inside.
func leaf(t uint16, data ...byte) api.Node { return api.Node{Type: t, Data: data} }

// around returns a node with some nodes inside and no bytes in front of them.
func around(t uint16, kids ...api.Node) api.Node { return api.Node{Type: t, Kids: kids} }

// nested returns n nodes of the type 8, one in the other, with the last one in
// all of them.
func nested(n int, last api.Node) api.Node {
	for range n {
		last = around(8, last)
	}
	return last
}

// ip4 and ip6 return addresses, ecn a parameter without bytes, and add one that
// has an address inside.
func ip4() api.Node { return leaf(5, 10, 0, 0, 1) }
func ip6() api.Node { return leaf(6, 1, 2, 3, 4, 5, 6, 7, 8, 9, 10, 11, 12, 13, 14, 15, 16) }
func ecn() api.Node { return leaf(0x8000) }
func add() api.Node {
	return api.Node{Type: 0xc001, Data: []byte{0, 0, 0, 9}, Kids: []api.Node{ip4()}}
}

// sack returns a sack chunk with two numbers, and n times 4 bytes after them.
func sack(gaps, dups uint16, n int) api.Chunk {
	data := []byte{1, 2, 3, 4, 5, 6, 7, 8, byte(gaps >> 8), byte(gaps), byte(dups >> 8), byte(dups)}
	for i := range 4 * n {
		data = append(data, byte(i))
	}
	return plain(3, data...)
}

// idata returns an i-data chunk with two reserved bytes.
func idata(a, b byte) api.Chunk {
	return plain(64, 1, 2, 3, 4, 5, 6, a, b, 7, 8, 9, 10, 11, 12, 13, 14, 15)
}

// skips returns an i-forward-tsn chunk with a group for each number.
func skips(l ...uint16) api.Chunk {
	data := []byte{9, 9, 9, 9}
	for _, x := range l {
		data = append(data, 8, 7, byte(x>>8), byte(x), 6, 5, 4, 3)
	}
	return plain(194, data...)
}

// joined returns the bytes of all parts.
func joined(parts ...[]byte) []byte { return bytes.Join(parts, nil) }

// random returns n random bytes.
func random(r *rand.Rand, n int) []byte {
	b := make([]byte, n)
	r.Read(b)
	return b
}

// number returns the number that bytes are.
func number(b []byte) int {
	x := 0
	for _, y := range b {
		x = 256*x + int(y)
	}
	return x
}

// sameNodes reports whether two lists have the same nodes.
func sameNodes(a, b []api.Node) bool {
	if len(a) != len(b) {
		return false
	}
	for i, n := range a {
		m := b[i]
		if n.Type != m.Type || string(n.Data) != string(m.Data) || !sameNodes(n.Kids, m.Kids) {
			return false
		}
	}
	return true
}

// same reports whether two chunks are the same, by the definition.
func same(a, b api.Chunk) bool {
	return a.Type == b.Type && a.Flags == b.Flags && string(a.Data) == string(b.Data) && sameNodes(a.Kids, b.Kids)
}

// filled returns a copy of bytes with unused capacity that is not zero.
func filled(b []byte) []byte { return append(append([]byte{}, b...), 0xaa, 0xbb)[:len(b)] }

// copiedNodes returns the same nodes in new memory, with unused capacity that
// is not zero.
func copiedNodes(l []api.Node) []api.Node {
	if l == nil {
		return nil
	}
	c := make([]api.Node, len(l), len(l)+1)
	for i, n := range l {
		c[i] = api.Node{Type: n.Type, Data: filled(n.Data), Kids: copiedNodes(n.Kids)}
	}
	c[:cap(c)][len(l)] = leaf(0xcccc, 0xdd)
	return c
}

// copied returns the same chunk in new memory, with unused capacity that is not
// zero.
func copied(c api.Chunk) api.Chunk {
	return api.Chunk{Type: c.Type, Flags: c.Flags, Data: filled(c.Data), Kids: copiedNodes(c.Kids)}
}

// wholeNodes returns copies of nodes with their unused capacity as parts of
// them.
func wholeNodes(l []api.Node) []api.Node {
	c := slices.Clone(l[:cap(l)])
	for i, n := range c {
		c[i] = api.Node{Type: n.Type, Data: bytes.Clone(n.Data[:cap(n.Data)]), Kids: wholeNodes(n.Kids)}
	}
	return c
}

// whole returns a copy of a chunk with its unused capacity as parts of it.
func whole(c api.Chunk) api.Chunk {
	return api.Chunk{Type: c.Type, Flags: c.Flags, Data: bytes.Clone(c.Data[:cap(c.Data)]), Kids: wholeNodes(c.Kids)}
}

// scribbleNodes changes all of the memory of nodes.
func scribbleNodes(l []api.Node) {
	l = l[:cap(l)]
	for i := range l {
		scribble(api.Chunk{Data: l[i].Data, Kids: l[i].Kids})
		l[i] = leaf(^l[i].Type, 0xee)
	}
}

// scribble changes all of the memory of a chunk.
func scribble(c api.Chunk) {
	data := c.Data[:cap(c.Data)]
	for i := range data {
		data[i] ^= 0xff
	}
	scribbleNodes(c.Kids)
}

// writtenNodes returns the bytes of a list of nodes by their definition.
func writtenNodes(l []api.Node) []byte {
	var b []byte
	for i, n := range l {
		value := append(bytes.Clone(n.Data), writtenNodes(n.Kids)...)
		size := len(value) + 4
		b = append(b, byte(n.Type>>8), byte(n.Type), byte(size>>8), byte(size))
		b = append(b, value...)
		for i < len(l)-1 && len(b)%4 != 0 {
			b = append(b, 0)
		}
	}
	return b
}

// written returns the bytes of a chunk by their definition; the length of one
// that is too large for it is taken modulo 65536.
func written(c api.Chunk) []byte {
	value := append(bytes.Clone(c.Data), writtenNodes(c.Kids)...)
	size := len(value) + 4
	return append([]byte{c.Type, c.Flags, byte(size >> 8), byte(size)}, value...)
}

// inside returns the class of the nodes inside a type of chunk; 0, if it has
// none or is not known.
func inside(t byte) int {
	switch t {
	case 1, 2, 4, 5, 128, 130, 193:
		return api.Param
	case 6, 9:
		return api.Cause
	}
	return 0
}

// dataFits reports whether n bytes of data fit the form of a known type.
func dataFits(t byte, n int) bool {
	k, _ := kind.Of(t)
	return n >= k.Least && n <= k.Most && (n-k.Least)%k.Unit == 0
}

// kidsFit reports whether kids are as many, and of the types, that a type of
// chunk wants.
func kidsFit(t byte, kids []api.Node) bool {
	n := len(kids)
	switch t {
	case 4, 5:
		return n == 1 && kids[0].Type == 1
	case 1, 2, 6, 128:
		return n <= 16384
	case 9:
		return n >= 1 && n <= 16384
	case 130:
		return n == 1 || n == 2
	case 193:
		return n >= 2 && n <= 16384 && (kids[0].Type == 5 || kids[0].Type == 6)
	}
	return n == 0
}

// wrongAt returns the error of the flags or of the data of a chunk, with its
// offset; nil, if they are right.
func wrongAt(c api.Chunk) error {
	k, known := kind.Of(c.Type)
	if known && c.Flags|k.Mask != k.Mask {
		return api.Fault{Code: api.Flags, At: 1}
	}
	if known && !dataFits(c.Type, len(c.Data)) {
		return api.Fault{Code: api.Form, At: 0}
	}
	if c.Type == 3 && 12+4*(number(c.Data[8:10])+number(c.Data[10:12])) != len(c.Data) {
		return api.Fault{Code: api.Count, At: 12}
	}
	if c.Type == 64 && number(c.Data[6:8]) != 0 {
		return api.Fault{Code: api.Value, At: 10}
	}
	for at := 4; c.Type == 194 && at < len(c.Data); at += 8 {
		if number(c.Data[at+2:at+4]) > 1 {
			return api.Fault{Code: api.Value, At: at + 6}
		}
	}
	return nil
}

// wrong returns the error of a chunk by its definition; nil, if it is right.
func wrong(c api.Chunk) error {
	err := wrongAt(c)
	if err != nil && errors.Is(err, api.Flags) {
		return api.Flags
	}
	if !kidsFit(c.Type, c.Kids) {
		return api.Form
	}
	if err != nil {
		return errors.Unwrap(err)
	}
	for _, kid := range c.Kids {
		if err := node.Check(inside(c.Type), kid); err != nil {
			return err
		}
	}
	if len(written(c)) > 65535 {
		return api.Length
	}
	return nil
}

// found returns what Parse returns for some bytes, by its definition.
func found(b []byte) (api.Chunk, error) {
	if len(b) < 4 || number(b[2:4]) != len(b) {
		return api.Chunk{}, api.Fault{Code: api.Length, At: 0}
	}
	end := len(b)
	if inside(b[0]) != 0 {
		k, _ := kind.Of(b[0])
		end = min(4+k.Least, len(b))
	}
	c := api.Chunk{Type: b[0], Flags: b[1], Data: b[4:end]}
	if err := wrongAt(c); err != nil {
		return api.Chunk{}, err
	}
	if class := inside(b[0]); class != 0 {
		kids, err := node.Parse(class, b[end:])
		var f api.Fault
		if errors.As(err, &f) {
			return api.Chunk{}, api.Fault{Code: f.Code, At: f.At + end}
		}
		c.Kids = kids
	}
	if !kidsFit(b[0], c.Kids) {
		return api.Chunk{}, api.Fault{Code: api.Form, At: 0}
	}
	return c, nil
}

// reads checks that Parse returns what the definition says, and that Encode
// inverts it. It reports whether there is a chunk with these bytes.
func reads(t *testing.T, b []byte) bool {
	t.Helper()
	want, fault := found(b)
	got, err := chunk.Parse(b)
	if !same(got, want) || err != fault {
		t.Fatalf("Parse(%d): %v, %#v; want %v, %#v", b, got, err, want, fault)
	}
	if err != nil {
		return false
	}
	if back, err := chunk.Encode(got); !bytes.Equal(back, b) || err != nil {
		t.Fatalf("Encode(%v): %d, %v; want %d", got, back, err, b)
	}
	return true
}

// encodes checks Check, Encode, Size and Parse of a chunk against the
// definitions. It reports whether the chunk is right.
func encodes(t *testing.T, c api.Chunk) bool {
	t.Helper()
	want, fault := written(c), wrong(c)
	if got := chunk.Size(c); got != len(want) {
		t.Fatalf("Size(%v): %d; want %d", c, got, len(want))
	}
	if err := chunk.Check(c); err != fault {
		t.Fatalf("Check(%v): %#v; want %#v", c, err, fault)
	}
	if fault != nil {
		want = nil
	}
	got, err := chunk.Encode(c)
	if !bytes.Equal(got, want) || err != fault {
		t.Fatalf("Encode(%v): %d, %#v; want %d, %#v", c, got, err, want, fault)
	}
	if err != nil {
		return false
	}
	if back, err := chunk.Parse(got); !same(back, c) || err != nil {
		t.Fatalf("Parse(%d): %v, %v; want %v", got, back, err, c)
	}
	return true
}

// someNode returns a random node of a class that is right, also one inside
// another node of the class.
func someNode(r *rand.Rand, class int) api.Node {
	l := []api.Node{leaf(1, random(r, r.Intn(6))...), ip4(), ip6(), ecn(), add(), leaf(7, 1, 2), around(8, ip4()), leaf(0x4003, random(r, r.Intn(6))...)}
	if class == api.Cause {
		l = []api.Node{leaf(1, 0, 7, 0, 0), leaf(2, 0, 0, 0, 1, 0, 7), leaf(4), leaf(12, random(r, r.Intn(6))...), around(8, ip4(), add()), leaf(0x4003, 1)}
	}
	return l[r.Intn(len(l))]
}

// someKids returns random kids that a type of chunk may have.
func someKids(r *rand.Rand, t byte) []api.Node {
	class := inside(t)
	least, most := 0, 4
	var l []api.Node
	switch t {
	case 4, 5:
		return []api.Node{leaf(1, random(r, r.Intn(9))...)}
	case 9:
		least = 1
	case 130:
		least, most = 1, 2
	case 193:
		l, least, most = []api.Node{[]api.Node{ip4(), ip6()}[r.Intn(2)]}, 1, 3
	}
	for range least + r.Intn(most-least+1) {
		if class != 0 {
			l = append(l, someNode(r, class))
		}
	}
	return l
}

// someChunk returns a random chunk that is right.
func someChunk(r *rand.Rand) api.Chunk {
	types := kind.Types()
	t := types[r.Intn(len(types))]
	if r.Intn(8) == 0 {
		t = byte(r.Intn(256))
	}
	k, known := kind.Of(t)
	if !known {
		return flagged(byte(r.Intn(256)), plain(t, random(r, r.Intn(9))...))
	}
	n := r.Intn(6)
	switch t {
	case 3:
		dups := r.Intn(n + 1)
		return sack(uint16(n-dups), uint16(dups), n)
	case 194:
		return skips(make([]uint16, n)...)
	}
	c := api.Chunk{Type: t, Flags: byte(r.Intn(256)) & k.Mask, Data: random(r, min(k.Most, k.Least+n*k.Unit)), Kids: someKids(r, t)}
	if t == 64 {
		copy(c.Data[6:], []byte{0, 0})
	}
	return c
}

// change changes a chunk in some way.
func change(r *rand.Rand, c api.Chunk) api.Chunk {
	switch r.Intn(8) {
	case 0:
		c.Type = byte(r.Intn(256))
	case 1:
		c.Type = kind.Types()[r.Intn(23)]
	case 2:
		c.Flags ^= 1 << r.Intn(8)
	case 3:
		c.Data = append(c.Data, random(r, 1+r.Intn(4))...)
	case 4:
		c.Data = c.Data[:r.Intn(len(c.Data)+1)]
	case 5:
		c.Kids = append(c.Kids, someNode(r, 1+r.Intn(2)))
	case 6:
		c.Kids = c.Kids[:r.Intn(len(c.Kids)+1)]
	case 7:
		if len(c.Data) > 0 {
			c.Data[r.Intn(len(c.Data))] ^= 1 << r.Intn(8)
		}
	}
	return c
}

// P12.1

// rightChunks returns right chunks, with the number of the bytes of each.
func rightChunks() []struct {
	c    api.Chunk
	size int
} {
	return []struct {
		c    api.Chunk
		size int
	}{
		{plain(0, make([]byte, 13)...), 17}, {flagged(15, plain(0, make([]byte, 14)...)), 18},
		{with(1, 16), 20}, {with(1, 16, ecn(), ip4(), ip6()), 52}, {with(2, 16), 20},
		{with(2, 16, leaf(7, 1, 2, 3), leaf(0x4003, 9)), 33},
		{sack(0, 0, 0), 16}, {sack(1, 0, 1), 20}, {sack(0, 1, 1), 20}, {sack(2, 3, 5), 36}, {sack(257, 0, 257), 1044},
		{with(4, 0, leaf(1)), 8}, {with(4, 0, leaf(1, 1, 2, 3)), 11}, {with(5, 0, leaf(1, 1, 2, 3, 4, 5)), 13},
		{plain(6), 4}, {flagged(1, plain(6)), 4}, {with(6, 0, leaf(12, 1), leaf(4)), 16},
		{plain(7, 0, 0, 0, 9), 8}, {plain(8), 4},
		{with(9, 0, leaf(4)), 8}, {with(9, 0, leaf(6, 99, 0, 0, 4), leaf(2, 0, 0, 0, 1, 0, 7), leaf(4)), 28},
		{plain(10, 1), 5}, {plain(11), 4}, {plain(12, 1, 2, 3, 4), 8}, {plain(13, 1, 2, 3, 4), 8},
		{plain(14), 4}, {flagged(1, plain(14)), 4}, {plain(15, 1, 2, 3, 4, 5), 9},
		{idata(0, 0), 21}, {flagged(15, idata(0, 0)), 21},
		{with(128, 4), 8}, {with(128, 4, leaf(0xc005, 1, 2, 3, 4)), 16},
		{with(130, 0, leaf(15, 1, 2, 3, 4)), 12}, {with(130, 0, leaf(14, 1, 2, 3, 4, 0, 7), leaf(15, 1, 2, 3, 4)), 24},
		{plain(132), 4}, {plain(132, 1, 2, 3), 7},
		{plain(192, 1, 2, 3, 4), 8}, {plain(192, 1, 2, 3, 4, 0, 7, 0, 8), 12},
		{with(193, 4, ip4(), ecn()), 20}, {with(193, 4, ip6(), add(), add()), 60},
		{skips(), 8}, {skips(0), 16}, {skips(1, 0, 1), 32},
		// Types that are not known have any flags and data.
		{plain(16), 4}, {flagged(255, plain(63, 1, 2, 3)), 7}, {flagged(128, plain(131)), 4}, {plain(255, 1), 5},
		// The parameters of a chunk, and the causes, are at the depth 1.
		{with(1, 16, nested(3, ecn())), 36}, {with(9, 0, nested(3, ecn())), 20},
		// Any parameter or error cause may stand in the chunks that have some.
		{with(1, 16, leaf(2, 1)), 25}, {with(6, 0, leaf(0x8000, 1)), 9}, {with(130, 0, ecn(), ip4()), 16},
	}
}

func TestCheckAndSizeOfRightChunks(t *testing.T) {
	for i, x := range rightChunks() {
		if err := chunk.Check(x.c); err != nil {
			t.Errorf("%d: Check(%v): %v", i, x.c, err)
		}
		if got := chunk.Size(x.c); got != x.size {
			t.Errorf("%d: Size(%v): %d; want %d", i, x.c, got, x.size)
		}
		encodes(t, x.c)
	}
}

func TestCheckOfWrongChunks(t *testing.T) {
	bad := leaf(5)
	deep := nested(4, ecn())
	for i, x := range []struct {
		c    api.Chunk
		want api.Code
	}{
		// Flags, before all that is wrong too.
		{flagged(16, plain(0, make([]byte, 13)...)), api.Flags},
		{flagged(1, with(1, 16)), api.Flags}, {flagged(2, plain(6)), api.Flags}, {flagged(3, plain(14)), api.Flags},
		{flagged(128, plain(132)), api.Flags}, {flagged(32, idata(0, 0)), api.Flags},
		{flagged(1, plain(7)), api.Flags}, {flagged(1, sack(1, 0, 0)), api.Flags}, {flagged(16, idata(1, 0)), api.Flags},
		{flagged(1, skips(2)), api.Flags}, {flagged(2, with(6, 0, bad)), api.Flags}, {flagged(1, plain(11, make([]byte, 65535)...)), api.Flags},
		// Form: a type that is not known, and has kids.
		{with(16, 0, ecn()), api.Form}, {with(255, 4, leaf(4)), api.Form}, {with(63, 0, deep), api.Form},
		// Form: the number of bytes.
		{plain(0, make([]byte, 12)...), api.Form}, {with(1, 15), api.Form}, {with(2, 12), api.Form},
		{plain(1, make([]byte, 17)...), api.Form}, {plain(3, make([]byte, 11)...), api.Form}, {plain(3, make([]byte, 14)...), api.Form},
		{with(4, 1, leaf(1)), api.Form}, {plain(6, 1), api.Form}, {plain(7), api.Form}, {plain(7, 1, 2, 3), api.Form},
		{plain(7, 1, 2, 3, 4, 5), api.Form}, {plain(8, 0), api.Form}, {with(9, 4, leaf(4)), api.Form}, {plain(10), api.Form},
		{plain(11, 0), api.Form}, {plain(15, 1, 2, 3, 4), api.Form}, {plain(64, make([]byte, 16)...), api.Form},
		{with(128, 0), api.Form}, {with(130, 4, ecn()), api.Form}, {plain(192, 1, 2, 3), api.Form}, {plain(192, 1, 2, 3, 4, 5), api.Form},
		{with(193, 0, ip4(), ecn()), api.Form}, {plain(194, 1, 2, 3, 4, 5, 6, 7, 8), api.Form}, {plain(194), api.Form},
		// Form: the number of kids.
		{with(7, 4, ecn()), api.Form}, {with(0, 13, ecn()), api.Form}, {with(11, 0, ecn()), api.Form}, {with(132, 0, ecn()), api.Form},
		{plain(4), api.Form}, {with(4, 0, leaf(1), leaf(1)), api.Form}, {plain(5), api.Form}, {with(5, 0, leaf(1), ecn()), api.Form},
		{plain(9), api.Form}, {plain(130), api.Form}, {with(130, 0, ecn(), ecn(), ecn()), api.Form},
		{with(193, 4), api.Form}, {with(193, 4, ip4()), api.Form},
		// Form: the type of a kid.
		{with(4, 0, leaf(2)), api.Form}, {with(5, 0, ecn()), api.Form}, {with(5, 0, leaf(0x0100)), api.Form},
		{with(193, 4, ecn(), ip4()), api.Form}, {with(193, 4, leaf(7, 10, 0, 0, 1), ecn()), api.Form},
		{with(193, 4, leaf(4, 10, 0, 0, 1), ecn()), api.Form}, {with(193, 4, add(), ip4()), api.Form},
		// Form, before Count and Value.
		{api.Chunk{Type: 3, Data: sack(1, 0, 0).Data, Kids: []api.Node{ecn()}}, api.Form},
		{api.Chunk{Type: 64, Data: idata(1, 0).Data, Kids: []api.Node{ecn()}}, api.Form},
		{api.Chunk{Type: 194, Data: skips(2).Data, Kids: []api.Node{deep}}, api.Form},
		{plain(194, append(skips(2).Data, 0, 0, 0, 0)...), api.Form},
		// Count.
		{sack(1, 0, 0), api.Count}, {sack(0, 1, 0), api.Count}, {sack(0, 0, 1), api.Count}, {sack(1, 1, 1), api.Count},
		{sack(1, 1, 3), api.Count}, {sack(0x0100, 0, 1), api.Count}, {sack(0, 0x0100, 1), api.Count}, {sack(0xffff, 2, 1), api.Count},
		// Value.
		{idata(1, 0), api.Value}, {idata(0, 1), api.Value}, {idata(0x80, 0x80), api.Value},
		{skips(2), api.Value}, {skips(0x0100), api.Value}, {skips(0, 1, 3), api.Value}, {skips(0xffff, 0), api.Value},
		// The error of the first kid, of the class of the chunk.
		{with(1, 16, bad), api.Form}, {with(2, 16, ecn(), leaf(0xc001, 1, 2, 3, 4)), api.Form}, {with(6, 0, leaf(1)), api.Form},
		{with(9, 0, leaf(4), leaf(2, 0, 0, 0, 2, 0, 7)), api.Count}, {with(6, 0, leaf(2, 0, 0, 0, 2, 0, 7), leaf(1)), api.Count},
		{with(6, 0, leaf(1), leaf(2, 0, 0, 0, 2, 0, 7)), api.Form}, {with(128, 4, deep, bad), api.Depth}, {with(130, 0, ecn(), deep), api.Depth},
		{with(193, 4, leaf(5, 1), ecn()), api.Form}, {with(193, 4, ip4(), deep), api.Depth}, {with(9, 0, around(8)), api.Form},
		{with(4, 0, around(1, ecn())), api.Form}, {with(9, 0, leaf(0x0105, 1)), api.Form}, {with(6, 0, leaf(4, 1)), api.Form},
		{with(1, 16, nested(mostDepth, ecn())), api.Depth},
	} {
		if err := chunk.Check(x.c); err != x.want {
			t.Errorf("%d: Check(%v): %v; want %v", i, x.c, err, x.want)
		}
		if b, err := chunk.Encode(x.c); len(b) != 0 || err != x.want {
			t.Errorf("%d: Encode(%v): %d, %v; want %v", i, x.c, b, err, x.want)
		}
		encodes(t, x.c)
	}
}

func TestFlagsOfAllTypes(t *testing.T) {
	masks := map[byte]byte{0: 15, 64: 15, 6: 1, 14: 1}
	r := rand.New(rand.NewSource(1))
	for range 40 {
		c := someChunk(r)
		for flags := range 256 {
			c.Flags = byte(flags)
			want := error(nil)
			if kind.Known(c.Type) && c.Flags&^masks[c.Type] != 0 {
				want = api.Flags
			}
			if err := chunk.Check(c); err != want {
				t.Fatalf("Check(%v): %v", c, err)
			}
			reads(t, written(c))
		}
	}
}

func TestDataOfAllTypes(t *testing.T) {
	for kinds := range 256 {
		k := byte(kinds)
		kids := someKids(rand.New(rand.NewSource(1)), k)
		for n := range 40 {
			c := api.Chunk{Type: k, Data: make([]byte, n), Kids: kids}
			if k == 3 && n >= 12 {
				c.Data[11] = byte(n/4 - 3)
			}
			if encodes(t, c) != (!kind.Known(k) || dataFits(k, n)) {
				t.Fatalf("%v", c)
			}
			reads(t, written(c))
		}
	}
}

func TestKidsOfAllTypes(t *testing.T) {
	for kinds := range 256 {
		k := byte(kinds)
		form, _ := kind.Of(k)
		for _, first := range []api.Node{leaf(1), ip4(), ip6(), ecn(), leaf(0x4003), leaf(0x8008)} {
			if inside(k) == api.Cause {
				first = leaf(4)
			}
			for n := range 5 {
				c := api.Chunk{Type: k, Data: make([]byte, form.Least)}
				for range n {
					c.Kids = append(c.Kids, first)
				}
				if encodes(t, c) != kidsFit(k, c.Kids) {
					t.Fatalf("%v", c)
				}
			}
		}
	}
}

func TestCheckOfLengths(t *testing.T) {
	long := func(n int) []byte { return bytes.Repeat([]byte{7}, n) }
	for i, x := range []struct {
		c    api.Chunk
		want error
	}{
		{plain(0, long(65531)...), nil}, {plain(0, long(65532)...), api.Form},
		{plain(10, long(65531)...), nil}, {plain(132, long(65532)...), api.Form}, {plain(15, long(mostBytes)...), api.Form},
		{plain(99, long(65531)...), nil}, {plain(99, long(65532)...), api.Length}, {plain(255, long(mostBytes)...), api.Length},
		{sack(16379, 0, 16379), nil}, {sack(0, 16379, 16379), nil}, {sack(16380, 0, 16380), api.Form},
		{skips(make([]uint16, 8190)...), nil}, {skips(append(make([]uint16, 8189), 2)...), api.Value},
		{skips(make([]uint16, 8191)...), api.Form},
		{with(4, 0, leaf(1, long(65527)...)), nil}, {with(4, 0, leaf(1, long(65528)...)), api.Length},
		{with(4, 0, leaf(1, long(65531)...)), api.Length}, {with(4, 0, leaf(1, long(65532)...)), api.Form},
		{with(1, 16, leaf(0x4003, long(65511)...)), nil}, {with(1, 16, leaf(0x4003, long(65512)...)), api.Length},
		{with(1, 16, leaf(0x4003, long(65532)...), leaf(5)), api.Length}, {with(1, 16, leaf(0x4003, long(65531)...), leaf(5)), api.Form},
		{with(6, 0, leaf(12, long(60001)...), leaf(12, long(5519)...)), nil}, // 3 bytes of padding
		{with(6, 0, leaf(12, long(60001)...), leaf(12, long(5520)...)), api.Length},
		{with(6, 0, leaf(12, long(65531)...), leaf(12, long(65531)...)), api.Length},
		{with(9, 0, around(8, leaf(7, long(65523)...))), nil}, {with(9, 0, around(8, leaf(7, long(65524)...))), api.Length},
	} {
		if err := chunk.Check(x.c); err != x.want {
			t.Errorf("%d: Check of %d bytes: %v; want %v", i, chunk.Size(x.c), err, x.want)
		}
		if encodes(t, x.c) != (x.want == nil) {
			t.Error(i)
		}
	}
}

func TestNumberOfKids(t *testing.T) {
	for _, k := range []byte{1, 2, 6, 9, 128, 193} {
		form, _ := kind.Of(k)
		c := api.Chunk{Type: k, Data: make([]byte, form.Least), Kids: []api.Node{ip4()}}
		if inside(k) == api.Cause {
			c.Kids = nil
		}
		for len(c.Kids) < mostNodes {
			c.Kids = append(c.Kids, leaf(0x4003))
		}
		if !encodes(t, c) {
			t.Error(k)
		}
		// No chunk has room for so many.
		for len(c.Kids) < 16384 {
			c.Kids = append(c.Kids, leaf(0x4003))
		}
		if err := chunk.Check(c); err != api.Length {
			t.Error(k, err)
		}
		c.Kids = append(c.Kids, leaf(0x4003))
		if err := chunk.Check(c); err != api.Form {
			t.Error(k, err)
		}
	}
}

func TestSizeOfWrongChunks(t *testing.T) {
	for i, x := range []struct {
		c    api.Chunk
		want int
	}{
		{api.Chunk{}, 4}, {plain(7), 4}, {plain(99, make([]byte, mostBytes)...), 4 + mostBytes},
		{with(16, 3, ecn()), 11}, {with(16, 3, leaf(1, 9), leaf(1, 9)), 20}, {with(7, 1, leaf(1, 9), ecn()), 17},
		{with(4, 0, leaf(1, 1), leaf(1, 1), leaf(1, 1)), 25}, {with(255, 0, nested(mostDepth, leaf(1, 9))), 9 + 4*mostDepth},
		{with(6, 0, slices.Repeat([]api.Node{leaf(12, 1)}, mostNodes)...), 8*mostNodes + 1},
	} {
		if got := chunk.Size(x.c); got != x.want {
			t.Errorf("%d: Size: %d; want %d", i, got, x.want)
		}
	}
}

func TestRandomChunks(t *testing.T) {
	r := rand.New(rand.NewSource(2))
	right := 0
	for range 20000 {
		c := someChunk(r)
		if !encodes(t, c) {
			t.Fatalf("%v is not right", c)
		}
		c = copied(c)
		for range 1 + r.Intn(3) {
			c = change(r, c)
		}
		if encodes(t, c) {
			right++
		}
	}
	if right < 1000 || right > 19000 {
		t.Error(right)
	}
}

// P12.2

func TestEncode(t *testing.T) {
	for i, x := range []struct {
		c    api.Chunk
		want []byte
	}{
		{plain(7, 0, 0, 0, 9), []byte{7, 0, 0, 8, 0, 0, 0, 9}},
		{plain(11), []byte{11, 0, 0, 4}},
		{flagged(1, plain(14)), []byte{14, 1, 0, 4}},
		{flagged(0xfe, plain(99, 5)), []byte{99, 0xfe, 0, 5, 5}},
		{flagged(3, plain(0, 0, 0, 0, 1, 0, 2, 0, 3, 0, 0, 0, 4, 'h', 'i')), []byte{0, 3, 0, 18, 0, 0, 0, 1, 0, 2, 0, 3, 0, 0, 0, 4, 'h', 'i'}},
		{sack(1, 0, 1), []byte{3, 0, 0, 20, 1, 2, 3, 4, 5, 6, 7, 8, 0, 1, 0, 0, 0, 1, 2, 3}},
		{with(4, 0, leaf(1, 9)), []byte{4, 0, 0, 9, 0, 1, 0, 5, 9}},
		{flagged(1, with(6, 0, leaf(12, 'x'), leaf(4))), []byte{6, 1, 0, 16, 0, 12, 0, 5, 'x', 0, 0, 0, 0, 4, 0, 4}},
		{with(193, 4, ip4(), add()), []byte{193, 0, 0, 32, 1, 2, 3, 4, 0, 5, 0, 8, 10, 0, 0, 1, 0xc0, 1, 0, 16, 0, 0, 0, 9, 0, 5, 0, 8, 10, 0, 0, 1}},
		{with(9, 0, around(8, leaf(0x4003, 7), leaf(0x4003, 7))), []byte{9, 0, 0, 21, 0, 8, 0, 17, 0x40, 3, 0, 5, 7, 0, 0, 0, 0x40, 3, 0, 5, 7}},
		{skips(1), []byte{194, 0, 0, 16, 9, 9, 9, 9, 8, 7, 0, 1, 6, 5, 4, 3}},
		{plain(99, make([]byte, 65531)...), append([]byte{99, 0, 0xff, 0xff}, make([]byte, 65531)...)},
	} {
		if got, err := chunk.Encode(x.c); !bytes.Equal(got, x.want) || err != nil {
			t.Errorf("%d: Encode(%v): %d, %v; want %d", i, x.c, got, err, x.want)
		}
		if got, err := chunk.Parse(x.want); !same(got, x.c) || err != nil {
			t.Errorf("%d: Parse(%d): %v, %v; want %v", i, x.want, got, err, x.c)
		}
	}
}

// P12.3

func TestErrorsOfParse(t *testing.T) {
	ecnBytes := []byte{0x80, 0, 0, 4}
	ip4Bytes := []byte{0, 5, 0, 8, 10, 0, 0, 1}
	initBytes := func(n byte, parts ...[]byte) []byte {
		return joined([]byte{1, 0, 0, n}, make([]byte, 16), joined(parts...))
	}
	for i, x := range []struct {
		b    []byte
		code api.Code
		at   int
	}{
		// Length, before all that is wrong too.
		{nil, api.Length, 0}, {[]byte{11}, api.Length, 0}, {[]byte{11, 0, 0}, api.Length, 0},
		{[]byte{11, 0, 0, 3}, api.Length, 0}, {[]byte{11, 0, 0, 0}, api.Length, 0}, {[]byte{11, 0, 0, 5}, api.Length, 0},
		{[]byte{11, 0, 0, 4, 0}, api.Length, 0}, {[]byte{11, 0, 0, 4, 0, 0, 0, 0}, api.Length, 0}, {[]byte{11, 0, 4, 4}, api.Length, 0},
		{[]byte{10, 0, 0, 5, 1, 0, 0, 0}, api.Length, 0}, // padding is not part of it
		{[]byte{11, 0, 0, 4, 11, 0, 0, 4}, api.Length, 0}, {[]byte{11, 1, 0, 5}, api.Length, 0}, {[]byte{99, 0, 0, 3}, api.Length, 0},
		{append([]byte{99, 0, 0, 0}, make([]byte, 65532)...), api.Length, 0}, {append([]byte{99, 0, 0xff, 0xff}, make([]byte, 65532)...), api.Length, 0},
		{append([]byte{0, 0, 0, 4}, make([]byte, mostBytes)...), api.Length, 0},
		// Flags.
		{[]byte{11, 1, 0, 4}, api.Flags, 1}, {[]byte{6, 2, 0, 4}, api.Flags, 1}, {[]byte{7, 128, 0, 4}, api.Flags, 1},
		{written(flagged(16, plain(0, make([]byte, 13)...))), api.Flags, 1}, {written(flagged(1, sack(1, 0, 0))), api.Flags, 1},
		{written(flagged(31, idata(1, 1))), api.Flags, 1}, {written(flagged(1, skips(2))), api.Flags, 1}, {[]byte{4, 1, 0, 7, 0, 1, 0}, api.Flags, 1},
		// Form: bytes that do not fit, or are not there.
		{[]byte{7, 0, 0, 4}, api.Form, 0}, {[]byte{7, 0, 0, 9, 1, 2, 3, 4, 5}, api.Form, 0}, {[]byte{11, 0, 0, 5, 0}, api.Form, 0},
		{[]byte{10, 0, 0, 4}, api.Form, 0}, {written(plain(3, make([]byte, 14)...)), api.Form, 0}, {written(plain(3, make([]byte, 8)...)), api.Form, 0},
		{[]byte{1, 0, 0, 4}, api.Form, 0}, {written(with(1, 15)), api.Form, 0}, {written(with(2, 12)), api.Form, 0},
		{[]byte{128, 0, 0, 4}, api.Form, 0}, {[]byte{193, 0, 0, 7, 1, 2, 3}, api.Form, 0},
		{written(plain(194, 1, 2, 3, 4, 5, 6, 255, 255)), api.Form, 0}, {written(plain(64, 0, 0, 0, 0, 0, 0, 1)), api.Form, 0},
		// Count.
		{written(sack(1, 0, 0)), api.Count, 12}, {written(sack(0, 0, 1)), api.Count, 12}, {written(sack(2, 3, 4)), api.Count, 12},
		{written(sack(0xffff, 0xffff, 0)), api.Count, 12}, {written(sack(0x8000, 0x8000, 0)), api.Count, 12},
		// Value.
		{written(idata(1, 0)), api.Value, 10}, {written(idata(0, 1)), api.Value, 10}, {written(idata(255, 255)), api.Value, 10},
		{written(skips(2)), api.Value, 10}, {written(skips(0x0100)), api.Value, 10}, {written(skips(1, 2)), api.Value, 18},
		{written(skips(0, 1, 0x0101, 2)), api.Value, 26}, {written(skips(2, 2)), api.Value, 10},
		// Of the kids, with offsets in all of the bytes.
		{[]byte{4, 0, 0, 7, 0, 1, 0}, api.Length, 4}, {[]byte{4, 0, 0, 8, 0, 1, 0, 5}, api.Length, 4}, {[]byte{9, 0, 0, 5, 0}, api.Length, 4},
		{[]byte{6, 0, 0, 8, 0, 4, 0, 3}, api.Length, 4}, {[]byte{6, 1, 0, 10, 0, 12, 0, 5, 'x', 0}, api.Padding, 9},
		{[]byte{9, 0, 0, 16, 0, 12, 0, 5, 'x', 0, 1, 0, 0, 4, 0, 4}, api.Padding, 9},
		{initBytes(21, []byte{0}), api.Length, 20}, {initBytes(24, []byte{0, 5, 0, 4}), api.Form, 20}, {initBytes(28, ecnBytes, []byte{0, 5, 0, 4}), api.Form, 24},
		{initBytes(28, ecnBytes, []byte{0, 8, 0, 4}), api.Form, 24}, {initBytes(30, []byte{0, 7, 0, 5, 1, 0, 0, 0, 0, 5}), api.Length, 28},
		{initBytes(40, []byte{0, 8, 0, 20, 0, 8, 0, 16, 0, 8, 0, 12, 0, 8, 0, 8}, ecnBytes), api.Depth, 36},
		{[]byte{128, 0, 0, 15, 1, 2, 3, 4, 0xc0, 5, 0, 7, 1, 2, 3}, api.Form, 8},
		{[]byte{9, 0, 0, 14, 0, 2, 0, 10, 0, 0, 0, 2, 0, 7}, api.Count, 8}, {[]byte{9, 0, 0, 18, 0, 4, 0, 4, 0, 2, 0, 10, 0, 0, 0, 2, 0, 7}, api.Count, 12},
		{[]byte{6, 0, 0, 12, 0, 5, 0, 8, 10, 0, 0, 1}, api.Length, 8}, // 5 is no address in the class of error causes
		{joined([]byte{193, 0, 0, 24, 1, 2, 3, 4}, ip4Bytes, []byte{0xc0, 1, 0, 8, 1, 2, 3, 4}), api.Form, 16},
		{[]byte{130, 0, 0, 7, 0, 15, 0}, api.Length, 4},
		// Of the kids, before Form of their number and types.
		{[]byte{4, 0, 0, 12, 0, 1, 0, 4, 0, 5, 0, 4}, api.Form, 8}, {[]byte{193, 0, 0, 12, 1, 2, 3, 4, 0, 5, 0, 4}, api.Form, 8},
		{joined([]byte{130, 0, 0, 20}, ecnBytes, ecnBytes, ecnBytes, []byte{0, 5, 0, 4}), api.Form, 16},
		{[]byte{5, 0, 0, 8, 0, 6, 0, 4}, api.Form, 4},
		// Form: the number of kids, and their types.
		{[]byte{4, 0, 0, 4}, api.Form, 0}, {[]byte{5, 0, 0, 4}, api.Form, 0}, {[]byte{9, 0, 0, 4}, api.Form, 0}, {[]byte{130, 0, 0, 4}, api.Form, 0},
		{joined([]byte{4, 0, 0, 12, 0, 1, 0, 4}, ecnBytes), api.Form, 0}, {joined([]byte{5, 0, 0, 8}, ecnBytes), api.Form, 0},
		{[]byte{4, 0, 0, 12, 0, 1, 0, 4, 0, 1, 0, 4}, api.Form, 0}, {joined([]byte{130, 0, 0, 16}, ecnBytes, ecnBytes, ecnBytes), api.Form, 0},
		{[]byte{193, 0, 0, 8, 1, 2, 3, 4}, api.Form, 0}, {joined([]byte{193, 0, 0, 16, 1, 2, 3, 4}, ip4Bytes), api.Form, 0},
		{joined([]byte{193, 0, 0, 20, 1, 2, 3, 4}, ecnBytes, ip4Bytes), api.Form, 0},
	} {
		got, err := chunk.Parse(x.b)
		if !same(got, api.Chunk{}) || err != error(api.Fault{Code: x.code, At: x.at}) {
			t.Errorf("%d: Parse(%d): %v, %#v; want %d at %d", i, x.b[:min(len(x.b), 40)], got, err, x.code, x.at)
		}
		reads(t, x.b)
	}
}

func TestParseOfLargeChunks(t *testing.T) {
	data := random(rand.New(rand.NewSource(3)), 65531)
	frames := joined([]byte{6, 1, 0xff, 0xfc}, bytes.Repeat([]byte{0, 4, 0, 4}, 16382))
	for i, x := range []struct {
		b     []byte
		right bool
	}{
		{joined([]byte{0, 15, 0xff, 0xff}, data), true}, {joined([]byte{99, 255, 0xff, 0xff}, data), true},
		{joined([]byte{132, 0, 0xff, 0xff}, data), true}, {joined([]byte{132, 0, 0xff, 0xfe}, data), false},
		{joined([]byte{4, 0, 0xff, 0xff, 0, 1, 0xff, 0xfb}, data[:65527]), true}, {joined([]byte{4, 0, 0xff, 0xff, 0, 1, 0xff, 0xfc}, data[:65527]), false},
		{written(sack(16000, 379, 16379)), true}, {written(sack(16000, 378, 16379)), false},
		{written(skips(slices.Repeat([]uint16{1}, 8190)...)), true}, {written(skips(append(make([]uint16, 8189), 2)...)), false},
		{frames, true}, {joined(frames[:len(frames)-1], []byte{5}), false},
	} {
		if got := reads(t, x.b); got != x.right {
			t.Error(i, got)
		}
	}
	_, err := chunk.Parse(written(skips(append(make([]uint16, 8189), 2)...)))
	if err != error(api.Fault{Code: api.Value, At: 10 + 8*8189}) {
		t.Error(err)
	}
}

func TestParseOfShortStrings(t *testing.T) {
	for _, x := range []struct {
		values   []byte
		most     int
		headings [][]byte
	}{
		{[]byte{0, 4, 5, 11}, 7, [][]byte{nil}},
		{[]byte{0, 1, 4, 5}, 6, [][]byte{{4, 0, 0, 8}, {4, 0, 0, 9}, {5, 0, 0, 4}, {4, 0, 0, 12, 0, 1, 0, 4}, {6, 1, 0, 8}, {9, 0, 0, 8}, {9, 0, 0, 9}, {128, 0, 0, 12}, {130, 0, 0, 9}, {130, 0, 0, 12, 0, 1, 0, 4}}},
		{[]byte{0, 2, 4}, 5, [][]byte{{194, 0, 0, 16, 9, 9, 9, 9, 0, 0, 0}, {3, 0, 0, 16, 9, 9, 9, 9, 9, 9, 9}, {64, 0, 0, 21, 9, 9, 9, 9, 9, 9, 9, 9, 9, 9, 9, 9}}},
	} {
		var try func(b []byte, left int)
		try = func(b []byte, left int) {
			reads(t, b)
			for _, v := range x.values {
				if left > 0 {
					try(append(b[:len(b):len(b)], v), left-1)
				}
			}
		}
		for _, heading := range x.headings {
			try(heading, x.most)
		}
	}
}

func TestParseOfChangedChunks(t *testing.T) {
	r := rand.New(rand.NewSource(4))
	for range 20000 {
		b := written(someChunk(r))
		if !reads(t, b) {
			t.Fatalf("no chunk with the bytes %d", b)
		}
		for range r.Intn(3) {
			b[r.Intn(len(b))] ^= 1 << r.Intn(8)
		}
		reads(t, b)
		// With another end, and the length that belongs to it.
		for _, c := range [][]byte{b[:4+r.Intn(len(b)-3)], append(b, make([]byte, r.Intn(9))...)} {
			reads(t, c)
			c[2], c[3] = byte(len(c)>>8), byte(len(c))
			reads(t, c)
		}
	}
}

// P12.4

func TestSame(t *testing.T) {
	a := flagged(1, with(6, 0, leaf(2, 0, 0, 0, 1, 0, 7), around(8, ip4(), ecn())))
	for i, x := range []struct {
		a, b api.Chunk
		want bool
	}{
		{api.Chunk{}, api.Chunk{}, true}, {api.Chunk{}, api.Chunk{Data: []byte{}, Kids: []api.Node{}}, true},
		{a, a, true}, {a, copied(a), true}, {with(99, 3, ecn()), copied(with(99, 3, ecn())), true},
		{plain(1), plain(2), false}, {plain(1), flagged(1, plain(1)), false}, {flagged(128, plain(1)), flagged(64, plain(1)), false},
		{plain(1), plain(1, 0), false}, {plain(1, 0), plain(1, 0, 0), false}, {plain(1, 1, 2), plain(1, 1, 3), false}, {plain(1, 1, 2), plain(1, 2, 1), false},
		{plain(6), with(6, 0, api.Node{}), false}, {with(6, 0, ecn()), with(6, 0, ecn(), ecn()), false},
		{with(6, 0, ecn(), ip4()), with(6, 0, ip4(), ecn()), false}, {with(6, 0, ip4()), with(6, 0, leaf(5, 10, 0, 0, 2)), false},
		{with(6, 0, ip4()), with(6, 0, leaf(7, 10, 0, 0, 1)), false}, {with(6, 0, around(8, ecn())), with(6, 0, around(8)), false},
		{with(6, 0, around(8, ecn())), with(6, 0, around(8), ecn()), false}, {with(6, 0, nested(mostDepth-1, ecn())), with(6, 0, nested(mostDepth-1, ip4())), false},
		{plain(6, 0, 4, 0, 4), with(6, 0, leaf(4)), false}, // the same bytes
		{with(1, 16, ecn()), with(1, 15, ecn()), false},
	} {
		if chunk.Same(x.a, x.b) != x.want || chunk.Same(x.b, x.a) != x.want {
			t.Errorf("%d: Same(%v, %v) is not %t", i, x.a, x.b, x.want)
		}
	}
	r := rand.New(rand.NewSource(5))
	for range 5000 {
		c := someChunk(r)
		d := change(r, copied(c))
		if chunk.Same(c, d) != same(c, d) || !chunk.Same(c, copied(c)) {
			t.Fatalf("Same(%v, %v)", c, d)
		}
	}
}

func TestClone(t *testing.T) {
	l := []api.Chunk{{}, plain(7, 1), flagged(255, with(99, 5, nested(mostDepth-1, leaf(1, 7)), api.Node{})), with(193, 4, ip4(), add())}
	r := rand.New(rand.NewSource(6))
	for range 500 {
		l = append(l, someChunk(r))
	}
	for i, c := range l {
		from := copied(c)
		clone, other := chunk.Clone(from), chunk.Clone(from)
		if !same(clone, c) || !same(other, c) {
			t.Fatalf("%d: Clone(%v): %v, %v", i, c, clone, other)
		}
		scribble(clone)
		if !same(from, c) || !same(other, c) {
			t.Fatalf("%d: the clone of %v shares memory", i, c)
		}
		scribble(from)
		if !same(other, c) {
			t.Fatalf("%d: the clone of %v shares memory", i, c)
		}
	}
}

func TestParams(t *testing.T) {
	kids := []api.Node{ip4(), around(8, add()), leaf(0xffff, 1)}
	for kinds := range 256 {
		k := byte(kinds)
		var want []api.Node
		if slices.Contains([]byte{1, 2, 4, 5, 128, 130, 193}, k) {
			want = kids
		}
		// Whether the chunk is right or not.
		for _, c := range []api.Chunk{{Type: k, Kids: kids}, {Type: k, Flags: 255, Data: make([]byte, 16), Kids: kids}} {
			if got := chunk.Params(c); !sameNodes(got, want) {
				t.Errorf("Params(%v): %v; want %v", c, got, want)
			}
		}
		if got := chunk.Params(plain(k, 1, 2, 3, 4)); len(got) != 0 {
			t.Error(k, got)
		}
	}
	for i, x := range []struct {
		c    api.Chunk
		want []api.Node
	}{
		{with(1, 16, ecn(), ip4()), []api.Node{ecn(), ip4()}}, {with(1, 16), nil}, {with(5, 0, leaf(1, 9)), []api.Node{leaf(1, 9)}},
		{with(193, 4, ip6(), add()), []api.Node{ip6(), add()}}, {with(9, 0, around(8, ip4())), nil}, {with(6, 0, leaf(4)), nil},
		{with(0, 13, ip4()), nil}, {with(16, 0, ip4()), nil},
	} {
		if got := chunk.Params(x.c); !sameNodes(got, x.want) {
			t.Errorf("%d: Params(%v): %v; want %v", i, x.c, got, x.want)
		}
	}
}

func TestParamsAreClones(t *testing.T) {
	c := with(193, 4, ip6(), add(), around(8, leaf(1, 7)))
	from := copied(c)
	got, other := chunk.Params(from), chunk.Params(from)
	scribbleNodes(got)
	if !same(from, c) || !sameNodes(other, c.Kids) {
		t.Error(from, other)
	}
	scribble(from)
	if !sameNodes(other, c.Kids) {
		t.Error(other)
	}
}

// P12.5 is checked by reads and encodes.

// P1, and the rules: arguments stay as they are, results are new memory, and
// the functions may be called concurrently.

func TestArgumentsStayAsTheyAre(t *testing.T) {
	r := rand.New(rand.NewSource(7))
	for i := range 2000 {
		c := copied(someChunk(r))
		if i%2 == 1 {
			c = change(r, c)
		}
		before := whole(c)
		b, err := chunk.Encode(c)
		chunk.Check(c)
		chunk.Size(c)
		chunk.Same(c, c)
		chunk.Clone(c)
		chunk.Params(c)
		if !same(whole(c), before) {
			t.Fatalf("%v was changed", c)
		}
		if err != nil {
			continue
		}
		given := append(bytes.Clone(b), 0xaa, 0xbb)
		chunk.Parse(given[:len(b)])
		if !bytes.Equal(given, append(bytes.Clone(b), 0xaa, 0xbb)) {
			t.Fatalf("%d was changed", b)
		}
		again, _ := chunk.Encode(c)
		scribble(c)
		if !bytes.Equal(again, b) {
			t.Fatalf("the bytes %d share memory with the chunk", b)
		}
	}
}

func TestParsedChunksShareNoMemory(t *testing.T) {
	r := rand.New(rand.NewSource(8))
	for range 2000 {
		c := someChunk(r)
		b := written(c)
		got, _ := chunk.Parse(b)
		for i := range b {
			b[i] ^= 0xff
		}
		if !same(got, c) {
			t.Fatalf("%v shares memory with the bytes", got)
		}
		// The data, with its capacity, shares none with the nodes inside.
		scribble(api.Chunk{Data: got.Data})
		if !sameNodes(got.Kids, c.Kids) {
			t.Fatalf("%v: data and nodes share memory", c)
		}
		for i := range got.Kids {
			scribbleNodes(got.Kids[i : i+1 : i+1])
			if !sameNodes(got.Kids[i+1:], c.Kids[i+1:]) {
				t.Fatalf("%v: nodes share memory", c)
			}
		}
	}
}

func TestAnyArguments(t *testing.T) {
	r := rand.New(rand.NewSource(9))
	for range 20000 {
		b := random(r, r.Intn(40))
		reads(t, b)
		if len(b) >= 4 {
			b[2], b[3] = 0, byte(len(b))
			reads(t, b)
		}
	}
	full := with(99, 0)
	for range 50 {
		full.Kids = append(full.Kids, nested(mostDepth-2, leaf(1, random(r, 900)...)))
	}
	for kinds := range 256 {
		full.Type = byte(kinds)
		encodes(t, full)
		if !chunk.Same(full, chunk.Clone(full)) || len(chunk.Params(full)) > 50 {
			t.Error("a large chunk")
		}
	}
}

func TestConcurrently(t *testing.T) {
	c := with(193, 4, ip6(), add(), around(8, leaf(1, 7)))
	want := written(c)
	var group sync.WaitGroup
	for range 8 {
		group.Go(func() {
			for range 50 {
				b, err := chunk.Encode(c)
				back, fault := chunk.Parse(want)
				if !bytes.Equal(b, want) || !same(back, c) || err != nil || fault != nil {
					t.Error(b, err, back, fault)
				}
				if chunk.Check(c) != nil || chunk.Size(c) != len(want) || !chunk.Same(c, chunk.Clone(c)) || len(chunk.Params(c)) != 3 {
					t.Error("Check, Size, Same, Clone or Params")
				}
			}
		})
	}
	group.Wait()
}
