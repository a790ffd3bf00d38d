package initial_test

import (
	"bytes"
	"encoding/binary"
	"math"
	"math/rand"
	"reflect"
	"slices"
	"sync"
	"testing"

	"wharf/api"
	"wharf/chunk"
	"wharf/initial"
	"wharf/node"
)

// The greatest numbers of bytes that the parameters of a chunk have, and that
// one parameter has.
const (
	mostParams = 65535 - 20
	mostData   = mostParams - 4
)

// plain returns a node with some bytes and none inside.
func plain(t uint16, data ...byte) api.Node { return api.Node{Type: t, Data: data} }

// with returns a node without bytes and with some nodes inside.
func with(t uint16, kids ...api.Node) api.Node { return api.Node{Type: t, Kids: kids} }

// long returns a node with so many bytes, which differ.
func long(t uint16, size int) api.Node {
	n := plain(t, make([]byte, size)...)
	for i := range n.Data {
		n.Data[i] = byte(i + i>>8)
	}
	return n
}

// many returns so many nodes of a type without bytes.
func many(t uint16, count int) []api.Node { return slices.Repeat([]api.Node{plain(t)}, count) }

// ip4 and ip6 return addresses, ecn a parameter without bytes, and add one that
// has a node inside.
func ip4() api.Node { return plain(5, 10, 0, 0, 1) }
func ip6() api.Node { return plain(6, 1, 2, 3, 4, 5, 6, 7, 8, 9, 10, 11, 12, 13, 14, 15, 16) }
func ecn() api.Node { return plain(0x8000) }
func add(kid api.Node) api.Node {
	return api.Node{Type: 0xc001, Data: []byte{0, 0, 0, 9}, Kids: []api.Node{kid}}
}

// cookie and lists return the parameters of the functions Cookie and Extensions.
func cookie(data ...byte) api.Node { return plain(7, data...) }
func lists(data ...byte) api.Node  { return plain(0x8008, data...) }

// nested returns so many nodes of the type 8 around another one.
func nested(count int, n api.Node) api.Node {
	for range count {
		n = with(8, n)
	}
	return n
}

// numbers are some numbers, and data the bytes of them.
var (
	numbers = initial.Values{Tag: 0x01020304, Window: 0x05060708, Out: 0x090a, In: 0x0b0c, TSN: 0x0d0e0f10}
	data    = []byte{1, 2, 3, 4, 5, 6, 7, 8, 9, 10, 11, 12, 13, 14, 15, 16}
)

// initOf and ackOf return chunks of the types 1 and 2 with these numbers.
func initOf(l ...api.Node) api.Chunk { return api.Chunk{Type: 1, Data: bytes.Clone(data), Kids: l} }
func ackOf(l ...api.Node) api.Chunk  { return api.Chunk{Type: 2, Data: bytes.Clone(data), Kids: l} }

// same and sameLists report whether chunks and lists of nodes are the same, by
// the definition.
func same(a, b api.Chunk) bool {
	return a.Type == b.Type && a.Flags == b.Flags && string(a.Data) == string(b.Data) && sameLists(a.Kids, b.Kids)
}

func sameLists(a, b []api.Node) bool {
	return slices.EqualFunc(a, b, func(n, m api.Node) bool {
		return n.Type == m.Type && string(n.Data) == string(m.Data) && sameLists(n.Kids, m.Kids)
	})
}

// zeroChunk reports whether a chunk is the zero value.
func zeroChunk(c api.Chunk) bool { return same(c, api.Chunk{}) }

// zeroOf reports whether the first two results of Of are the zero values.
func zeroOf(v initial.Values, l []api.Node) bool { return v == initial.Values{} && len(l) == 0 }

// written returns the chunk of numbers and parameters by its definition.
func written(answer bool, v initial.Values, l []api.Node) api.Chunk {
	b := binary.BigEndian.AppendUint32(nil, v.Tag)
	b = binary.BigEndian.AppendUint32(b, v.Window)
	b = binary.BigEndian.AppendUint16(b, v.Out)
	b = binary.BigEndian.AppendUint16(b, v.In)
	b = binary.BigEndian.AppendUint32(b, v.TSN)
	if answer {
		return api.Chunk{Type: 2, Data: b, Kids: l}
	}
	return api.Chunk{Type: 1, Data: b, Kids: l}
}

// right reports whether parameters are right, and have a chunk.
func right(l []api.Node) bool {
	size := 0
	for i, n := range l {
		if node.Check(api.Param, n) != nil {
			return false
		}
		size += node.Size(n)
		if i < len(l)-1 {
			size = (size + 3) / 4 * 4
		}
	}
	return size <= mostParams && len(l) <= 16384
}

// isInitial reports whether a chunk is an initial one, by the definition.
func isInitial(c api.Chunk) bool {
	return (c.Type == 1 || c.Type == 2) && c.Flags == 0 && len(c.Data) == 16 && right(c.Kids)
}

// those returns the data of all parameters of an initial chunk with a type.
func those(c api.Chunk, t uint16) [][]byte {
	if !isInitial(c) {
		return nil
	}
	var l [][]byte
	for _, n := range c.Kids {
		if n.Type == t {
			l = append(l, n.Data)
		}
	}
	return l
}

// makes checks Make against its definition, and, if there is a chunk, that Of
// inverts it. It reports whether there is one.
func makes(t *testing.T, answer bool, v initial.Values, l ...api.Node) bool {
	t.Helper()
	want, wantOK := written(answer, v, l), right(l)
	if !wantOK {
		want = api.Chunk{}
	}
	got, ok := initial.Make(answer, v, l...)
	if ok != wantOK || !same(got, want) {
		t.Fatalf("Make(%t, %v, %.200v): %.200v, %t; want %.200v, %t", answer, v, l, got, ok, want, wantOK)
	}
	if ok != (chunk.Check(written(answer, v, l)) == nil) {
		t.Fatalf("Make(%t, %v, %.200v): %t, but chunk.Check", answer, v, l, ok)
	}
	if !ok {
		return false
	}
	if back, params, ok := initial.Of(got); !ok || back != v || !sameLists(params, l) {
		t.Fatalf("Of(%.200v): %v, %.200v, %t; want %v, %.200v", got, back, params, ok, v, l)
	}
	return true
}

// reads checks all functions of a chunk against their definitions. It reports
// whether it is an initial one.
func reads(t *testing.T, c api.Chunk) bool {
	t.Helper()
	want := isInitial(c)
	v, l, ok := initial.Of(c)
	if ok != want || !ok && !zeroOf(v, l) || ok && !same(written(c.Type == 2, v, l), c) {
		t.Fatalf("Of(%.200v): %v, %.200v, %t; want %t", c, v, l, ok, want)
	}
	if again, ok := initial.Make(c.Type == 2, v, l...); want && (!ok || !same(again, c)) {
		t.Fatalf("Make(%v, %.200v): %.200v, %t; want %.200v", v, l, again, ok, c)
	}
	finds(t, c)
	return want
}

// finds checks the functions that find parameters of a chunk.
func finds(t *testing.T, c api.Chunk) {
	t.Helper()
	var wantCookie []byte
	var wantEcho api.Chunk
	cookies := those(c, 7)
	has := len(cookies) > 0 && c.Type == 2
	if has {
		wantCookie = cookies[0]
	}
	if len(wantCookie) > 0 {
		wantEcho = api.Chunk{Type: 10, Data: wantCookie}
	}
	if got, ok := initial.Cookie(c); ok != has || !bytes.Equal(got, wantCookie) {
		t.Fatalf("Cookie(%.200v): %.200v, %t; want %.200v, %t", c, got, ok, wantCookie, has)
	}
	got, ok := initial.Echo(c)
	if ok != (len(wantCookie) > 0) || !same(got, wantEcho) || ok && chunk.Check(got) != nil {
		t.Fatalf("Echo(%.200v): %.200v, %t; want %.200v", c, got, ok, wantEcho)
	}
	if got, want := initial.Extensions(c), bytes.Join(those(c, 0x8008), nil); !bytes.Equal(got, want) {
		t.Fatalf("Extensions(%.200v): %.200v; want %.200v", c, got, want)
	}
	for _, x := range []uint16{0, 1, 5, 6, 7, 8, 9, 0x4003, 0x8000, 0x8007, 0x8008, 0x8009, 0xc001, 0xffff} {
		if got, want := initial.Has(c, x), len(those(c, x)) > 0; got != want {
			t.Fatalf("Has(%.200v, %d): %t", c, x, got)
		}
	}
}

// someNumber returns a random number; it often has few bits, or is the greatest
// one.
func someNumber(r *rand.Rand) uint32 {
	if r.Intn(8) == 0 {
		return math.MaxUint32
	}
	return r.Uint32() >> r.Intn(32)
}

// someValues returns random numbers.
func someValues(r *rand.Rand) initial.Values {
	return initial.Values{
		Tag: someNumber(r), Window: someNumber(r), Out: uint16(someNumber(r)), In: uint16(someNumber(r)), TSN: someNumber(r),
	}
}

// someBytes returns at most n random bytes.
func someBytes(r *rand.Rand, n int) []byte {
	b := make([]byte, r.Intn(n+1))
	r.Read(b)
	return b
}

// someNode returns a random parameter, which is most often right.
func someNode(r *rand.Rand) api.Node {
	switch r.Intn(40) {
	case 0:
		return plain(5, someBytes(r, 5)...)
	case 1:
		return with(0x4003, ip4())
	case 2:
		return nested(r.Intn(6), cookie(1))
	case 3:
		return add(ecn())
	}
	l := []api.Node{
		ip4(), ip6(), ecn(), add(ip6()), cookie(someBytes(r, 6)...), cookie(someBytes(r, 60)...), lists(someBytes(r, 6)...),
		with(8, cookie(9)), with(8, lists(9)), plain(0x4003, someBytes(r, 6)...), plain(uint16(r.Uint32())|0x3000, someBytes(r, 6)...),
	}
	return l[r.Intn(len(l))]
}

// someList returns at most n random parameters.
func someList(r *rand.Rand, n int) []api.Node {
	var l []api.Node
	for range r.Intn(n + 1) {
		l = append(l, someNode(r))
	}
	return l
}

// filled returns a copy of bytes with unused capacity that is not zero.
func filled(b []byte) []byte { return append(append([]byte{}, b...), 0xaa, 0xbb)[:len(b)] }

// copiedList returns the same nodes in new memory, with unused capacity that is
// not zero.
func copiedList(l []api.Node) []api.Node {
	c := make([]api.Node, 0, len(l)+1)
	for _, n := range l {
		c = append(c, api.Node{Type: n.Type, Data: filled(n.Data), Kids: copiedList(n.Kids)})
	}
	return append(c, plain(0xcccc, 0xdd))[:len(l)]
}

// copied returns the same chunk in new memory, with unused capacity that is not
// zero.
func copied(c api.Chunk) api.Chunk {
	return api.Chunk{Type: c.Type, Flags: c.Flags, Data: filled(c.Data), Kids: copiedList(c.Kids)}
}

// wholeList and whole return copies with their unused capacity as parts of them.
func wholeList(l []api.Node) []api.Node {
	c := slices.Clone(l[:cap(l)])
	for i, n := range c {
		c[i] = api.Node{Type: n.Type, Data: bytes.Clone(n.Data[:cap(n.Data)]), Kids: wholeList(n.Kids)}
	}
	return c
}

func whole(c api.Chunk) api.Chunk {
	return api.Chunk{Type: c.Type, Flags: c.Flags, Data: bytes.Clone(c.Data[:cap(c.Data)]), Kids: wholeList(c.Kids)}
}

// invert, scribbleList and scribble change all of the memory, also that of the
// unused capacity.
func invert(b []byte) {
	b = b[:cap(b)]
	for i := range b {
		b[i] ^= 0xff
	}
}

func scribbleList(l []api.Node) {
	l = l[:cap(l)]
	for i := range l {
		invert(l[i].Data)
		scribbleList(l[i].Kids)
		l[i] = plain(^l[i].Type, 0xee)
	}
}

func scribble(c api.Chunk) {
	invert(c.Data)
	scribbleList(c.Kids)
}

// P15.1

func TestMake(t *testing.T) {
	for i, x := range []struct {
		answer bool
		v      initial.Values
		l      []api.Node
		want   []byte
	}{
		{false, initial.Values{}, nil, []byte{1, 0, 0, 20, 0, 0, 0, 0, 0, 0, 0, 0, 0, 0, 0, 0, 0, 0, 0, 0}},
		{true, initial.Values{}, nil, []byte{2, 0, 0, 20, 0, 0, 0, 0, 0, 0, 0, 0, 0, 0, 0, 0, 0, 0, 0, 0}},
		{false, numbers, nil, append([]byte{1, 0, 0, 20}, data...)},
		{true, numbers, nil, append([]byte{2, 0, 0, 20}, data...)},
		{false, initial.Values{Tag: 0xfffefdfc}, nil, []byte{1, 0, 0, 20, 255, 254, 253, 252, 0, 0, 0, 0, 0, 0, 0, 0, 0, 0, 0, 0}},
		{false, initial.Values{Window: 0xfffefdfc}, nil, []byte{1, 0, 0, 20, 0, 0, 0, 0, 255, 254, 253, 252, 0, 0, 0, 0, 0, 0, 0, 0}},
		{true, initial.Values{Out: 0xfffe}, nil, []byte{2, 0, 0, 20, 0, 0, 0, 0, 0, 0, 0, 0, 255, 254, 0, 0, 0, 0, 0, 0}},
		{true, initial.Values{In: 0xfffe}, nil, []byte{2, 0, 0, 20, 0, 0, 0, 0, 0, 0, 0, 0, 0, 0, 255, 254, 0, 0, 0, 0}},
		{true, initial.Values{TSN: 0xfffefdfc}, nil, []byte{2, 0, 0, 20, 0, 0, 0, 0, 0, 0, 0, 0, 0, 0, 0, 0, 255, 254, 253, 252}},
		{false, numbers, []api.Node{ip4()}, append(append([]byte{1, 0, 0, 28}, data...), 0, 5, 0, 8, 10, 0, 0, 1)},
		{
			true, numbers, []api.Node{cookie(1), ecn(), with(8, plain(0x4003)), cookie(1, 2)},
			append(append([]byte{2, 0, 0, 46}, data...), 0, 7, 0, 5, 1, 0, 0, 0, 0x80, 0, 0, 4, 0, 8, 0, 8, 0x40, 3, 0, 4, 0, 7, 0, 6, 1, 2),
		},
	} {
		c, ok := initial.Make(x.answer, x.v, x.l...)
		if b, err := chunk.Encode(c); !ok || err != nil || !bytes.Equal(b, x.want) || len(c.Data) != 16 {
			t.Errorf("%d: Make(%t, %v, %v): %v, %t", i, x.answer, x.v, x.l, c, ok)
		}
		c, err := chunk.Parse(x.want)
		if v, l, ok := initial.Of(c); err != nil || !ok || v != x.v || !sameLists(l, x.l) {
			t.Errorf("%d: Of(%v): %v, %v, %t", i, c, v, l, ok)
		}
	}
}

func TestMakeOfParameters(t *testing.T) {
	for i, x := range []struct {
		want bool
		l    []api.Node
	}{
		{true, nil}, {true, []api.Node{}}, {true, []api.Node{ip4(), ip6(), ip4()}}, {true, []api.Node{cookie(), cookie(1), lists(), lists(1)}},
		{true, []api.Node{add(ip4()), with(8, add(ip6()))}}, {true, []api.Node{nested(3, ecn())}}, {true, []api.Node{plain(0, 1), plain(0xffff), plain(3)}},
		{false, []api.Node{nested(4, ecn())}}, {false, []api.Node{nested(19, ecn())}}, {false, []api.Node{with(0x4003, ecn())}}, {false, []api.Node{with(7, ecn())}},
		{false, []api.Node{plain(5)}}, {false, []api.Node{plain(5, 1, 2, 3, 4, 5)}}, {false, []api.Node{plain(0x8000, 1)}}, {false, []api.Node{with(8)}},
		{false, []api.Node{with(8, ip4(), ip4())}}, {false, []api.Node{add(ecn())}}, {false, []api.Node{with(8, plain(6))}}, {false, []api.Node{ip4(), ip6(), plain(9)}},
		// Parameters of types that error causes have too, with other forms.
		{true, []api.Node{plain(2), plain(3, 1), plain(4, 2)}}, {true, []api.Node{plain(1), plain(0xa0)}}, {false, []api.Node{plain(12, 1)}}, {false, []api.Node{plain(13)}},
		// As many bytes as there may be, and more.
		{true, []api.Node{long(7, mostData)}}, {false, []api.Node{long(7, mostData+1)}}, {false, []api.Node{long(7, 65531)}}, {false, []api.Node{long(7, 65532)}},
		{true, []api.Node{long(0x4003, mostData)}}, {false, []api.Node{long(0x4003, mostData+1)}}, {true, []api.Node{ecn(), long(7, mostData-4)}}, {false, []api.Node{ecn(), long(7, mostData-3)}},
		{true, []api.Node{cookie(1), long(7, mostData-8)}}, {false, []api.Node{cookie(1), long(7, mostData-7)}}, {true, []api.Node{long(7, mostData-7), ecn()}}, {false, []api.Node{long(7, mostData-3), ecn()}},
		{true, many(0x8000, mostParams/4)}, {false, many(0x8000, mostParams/4+1)}, {false, many(0x8000, 16384)}, {false, many(0x8000, 16385)}, {false, many(0x8000, 100000)},
	} {
		if makes(t, false, numbers, x.l...) != x.want || makes(t, true, initial.Values{}, x.l...) != x.want {
			t.Errorf("%d: not %t", i, x.want)
		}
	}
}

func TestMakeOfRandomValues(t *testing.T) {
	r := rand.New(rand.NewSource(1))
	made := 0
	for range 30000 {
		if makes(t, r.Intn(2) == 0, someValues(r), someList(r, 6)...) {
			made++
		}
	}
	if made < 10000 || made > 29000 {
		t.Error(made, "are right")
	}
}

func TestOfOtherChunks(t *testing.T) {
	for i, c := range []api.Chunk{
		{}, {Type: 1}, {Type: 2}, {Type: 1, Data: data[:15]}, {Type: 2, Data: append(bytes.Clone(data), 0)}, {Type: 1, Data: data[:12]}, {Type: 2, Data: make([]byte, 70000)},
		{Type: 1, Flags: 1, Data: data}, {Type: 2, Flags: 128, Data: data}, {Type: 2, Flags: 255, Data: data, Kids: []api.Node{cookie(1)}},
		{Type: 3, Data: data}, {Type: 10, Data: data}, {Type: 128, Data: data[:4], Kids: []api.Node{cookie(1), lists(1)}},
		{Type: 193, Data: data[:4], Kids: []api.Node{ip4(), cookie(1), lists(1)}}, {Type: 130, Kids: []api.Node{cookie(1), lists(1)}}, {Type: 65, Data: data}, {Type: 129, Data: data},
		{Type: 2, Data: data[:4], Kids: []api.Node{cookie(1), lists(1)}}, {Type: 2, Data: bytes.Repeat(data, 2), Kids: []api.Node{cookie(1), lists(1)}},
		ackOf(cookie(1), lists(1), plain(5)), ackOf(cookie(1), lists(1), with(0x4003, ecn())), ackOf(plain(9), cookie(1), lists(1)), initOf(lists(1), nested(4, ecn())),
		ackOf(cookie(1), long(7, mostData-7)), ackOf(long(7, mostData+1)), initOf(many(0x8008, mostParams/4+1)...), ackOf(many(7, 16385)...),
	} {
		if reads(t, c) {
			t.Errorf("%d: %.200v is an initial chunk", i, c)
		}
	}
	for kinds := range 256 {
		for _, b := range [][]byte{nil, data[:4], data[:15], data} {
			for _, l := range [][]api.Node{nil, {cookie(1)}, {ip4(), lists(3), cookie(1)}} {
				c := api.Chunk{Type: byte(kinds), Data: b, Kids: l}
				if want := (kinds == 1 || kinds == 2) && len(b) == 16; reads(t, c) != want {
					t.Errorf("Of(%v) is not %t", c, want)
				}
			}
		}
	}
	for flags := 1; flags < 256; flags++ {
		c := ackOf(cookie(1), lists(1))
		c.Flags = byte(flags)
		if reads(t, c) {
			t.Errorf("%v is an initial chunk", c)
		}
	}
}

func TestOfRandomChunks(t *testing.T) {
	r := rand.New(rand.NewSource(2))
	found := 0
	for range 8000 {
		c := api.Chunk{Type: byte(1 + r.Intn(2)), Data: make([]byte, 16), Kids: someList(r, 5)}
		switch r.Intn(30) {
		case 0:
			c.Type = byte(r.Intn(256))
		case 1:
			c.Flags = byte(r.Intn(256))
		case 2:
			c.Data = make([]byte, r.Intn(40))
		}
		r.Read(c.Data)
		if reads(t, c) {
			found++
		}
	}
	if found < 3000 || found > 7900 {
		t.Error(found, "are initial chunks")
	}
}

// P15.2

func TestCookie(t *testing.T) {
	for i, x := range []struct {
		c    api.Chunk
		want []byte
		ok   bool
	}{
		// The example of the chapter.
		{ackOf(cookie(1, 2)), []byte{1, 2}, true},
		{ackOf(), nil, false}, {ackOf(cookie()), nil, true}, {ackOf(ip4(), cookie(3), ecn()), []byte{3}, true}, {ackOf(cookie(1), cookie(2, 3)), []byte{1}, true},
		{ackOf(cookie(), cookie(2, 3)), nil, true}, {ackOf(cookie(0), cookie(2, 3)), []byte{0}, true}, {ackOf(long(7, mostData)), long(7, mostData).Data, true},
		{ackOf(lists(1, 2), ip6()), nil, false}, {ackOf(plain(0x8007, 1)), nil, false}, {ackOf(plain(0x0700, 1)), nil, false},
		// A cookie inside another parameter does not count.
		{ackOf(with(8, cookie(1))), nil, false}, {ackOf(with(8, cookie(1)), cookie(2)), []byte{2}, true}, {ackOf(nested(3, cookie(1))), nil, false},
		// Nor does one of another chunk.
		{initOf(cookie(1, 2)), nil, false}, {api.Chunk{Type: 128, Data: data[:4], Kids: []api.Node{cookie(1)}}, nil, false},
		{api.Chunk{Type: 10, Data: []byte{1}}, nil, false}, {api.Chunk{}, nil, false}, {ackOf(cookie(1), plain(5)), nil, false}, {ackOf(with(7, ecn())), nil, false},
		{api.Chunk{Type: 2, Flags: 1, Data: data, Kids: []api.Node{cookie(1)}}, nil, false}, {api.Chunk{Type: 2, Data: data[:15], Kids: []api.Node{cookie(1)}}, nil, false},
		{ackOf(long(7, mostData+1)), nil, false},
	} {
		if got, ok := initial.Cookie(x.c); ok != x.ok || !bytes.Equal(got, x.want) {
			t.Errorf("%d: Cookie(%.200v): %.200v, %t; want %.200v, %t", i, x.c, got, ok, x.want, x.ok)
		}
		echo, ok := initial.Echo(x.c)
		if len(x.want) == 0 {
			if ok || !zeroChunk(echo) {
				t.Errorf("%d: Echo(%.200v): %.200v, %t", i, x.c, echo, ok)
			}
			continue
		}
		if !ok || !same(echo, api.Chunk{Type: 10, Data: x.want}) || chunk.Check(echo) != nil {
			t.Errorf("%d: Echo(%.200v): %.200v, %t", i, x.c, echo, ok)
		}
	}
}

func TestEchoAsBytes(t *testing.T) {
	c, err := chunk.Parse(append(append([]byte{2, 0, 0, 30}, data...), 0x80, 0, 0, 4, 0, 7, 0, 6, 1, 2))
	echo, ok := initial.Echo(c)
	if b, _ := chunk.Encode(echo); err != nil || !ok || !bytes.Equal(b, []byte{10, 0, 0, 6, 1, 2}) {
		t.Error(b, err, ok)
	}
}

// P15.3

func TestHas(t *testing.T) {
	l := []api.Node{ip4(), with(8, plain(0x4003)), add(ip6()), cookie(), plain(0xffff, 1), plain(0), ip4()}
	for x := range 1 << 16 {
		want := slices.Contains([]uint16{5, 8, 0xc001, 7, 0xffff, 0}, uint16(x))
		c := initOf(l...)
		if x%2 == 0 {
			c = ackOf(l...)
		}
		if initial.Has(c, uint16(x)) != want {
			t.Errorf("Has of %d is not %t", x, want)
		}
	}
	for i, c := range []api.Chunk{
		initOf(), ackOf(), initOf(with(8, ip4())), ackOf(add(ip4())), initOf(nested(3, ip4())), initOf(plain(0x0500), plain(0x8005)),
		initOf(ip4(), plain(6)), initOf(plain(5)), {Type: 1, Data: data[:15], Kids: []api.Node{ip4()}}, {Type: 2, Flags: 1, Data: data, Kids: []api.Node{ip4()}},
		{Type: 193, Data: data[:4], Kids: []api.Node{ip4(), ip4()}}, {Type: 128, Data: data[:4], Kids: []api.Node{ip4()}}, {Kids: []api.Node{ip4()}},
		{Type: 3, Data: data, Kids: []api.Node{ip4()}},
	} {
		if initial.Has(c, 5) {
			t.Errorf("%d: %v has an address", i, c)
		}
	}
}

func TestExtensions(t *testing.T) {
	for i, x := range []struct {
		l    []api.Node
		want []byte
	}{
		{nil, nil}, {[]api.Node{ip4()}, nil}, {[]api.Node{lists()}, nil}, {[]api.Node{lists(192)}, []byte{192}}, {[]api.Node{lists(192, 130, 192)}, []byte{192, 130, 192}},
		{[]api.Node{lists(3), ip4(), lists(), lists(1, 2), cookie(4), lists(3)}, []byte{3, 1, 2, 3}}, {[]api.Node{lists(0), lists(0)}, []byte{0, 0}},
		{[]api.Node{with(8, lists(1)), lists(2), nested(3, lists(3))}, []byte{2}}, {[]api.Node{with(8, lists(1))}, nil}, {[]api.Node{plain(0x8003, 1), plain(0x8009, 2), plain(8<<8|0x80, 3)}, nil},
		{[]api.Node{long(0x8008, mostData)}, long(0x8008, mostData).Data}, {[]api.Node{long(0x8008, 30000), long(0x8008, 30001)}, append(long(7, 30000).Data, long(7, 30001).Data...)},
		{[]api.Node{lists(1), plain(5)}, nil}, {[]api.Node{lists(1), long(0x8008, mostData)}, nil}, {[]api.Node{with(0x8008, ecn())}, nil},
	} {
		for _, c := range []api.Chunk{initOf(x.l...), ackOf(x.l...)} {
			if got := initial.Extensions(c); !bytes.Equal(got, x.want) {
				t.Errorf("%d: Extensions(%.200v): %.200v; want %.200v", i, c, got, x.want)
			}
		}
	}
	for i, c := range []api.Chunk{
		{}, {Type: 1, Data: data[:15], Kids: []api.Node{lists(1)}}, {Type: 2, Flags: 2, Data: data, Kids: []api.Node{lists(1)}},
		{Type: 128, Data: data[:4], Kids: []api.Node{lists(1)}}, {Type: 130, Kids: []api.Node{lists(1)}}, {Type: 4, Kids: []api.Node{lists(1)}},
	} {
		if got := initial.Extensions(c); len(got) != 0 {
			t.Errorf("%d: Extensions(%v): %v", i, c, got)
		}
	}
}

// P15.4

func TestStreams(t *testing.T) {
	for i, x := range []struct {
		a, b    initial.Values
		out, in uint16
	}{
		{initial.Values{}, initial.Values{}, 0, 0}, {numbers, initial.Values{}, 0, 0},
		{initial.Values{Out: 10, In: 5}, initial.Values{Out: 3, In: 7}, 7, 3}, {initial.Values{Out: 4, In: 5}, initial.Values{Out: 30, In: 70}, 4, 5},
		{initial.Values{Out: 4, In: 50}, initial.Values{Out: 30, In: 70}, 4, 30}, {initial.Values{Out: 4, In: 50}, initial.Values{Out: 4, In: 50}, 4, 4},
		{initial.Values{Out: 65535, In: 65535}, initial.Values{Out: 65535, In: 65535}, 65535, 65535}, {initial.Values{Out: 65535, In: 1}, initial.Values{Out: 0, In: 65534}, 65534, 0},
		{initial.Values{Out: 256, In: 255}, initial.Values{Out: 1, In: 2}, 2, 1},
		// The other numbers do not count.
		{initial.Values{Tag: 1, Window: 1, Out: 9, In: 8, TSN: 1}, initial.Values{Tag: 2, Window: 2, Out: 7, In: 6, TSN: 2}, 6, 7},
	} {
		if out, in := initial.Streams(x.a, x.b); out != x.out || in != x.in {
			t.Errorf("%d: Streams(%v, %v): %d, %d; want %d, %d", i, x.a, x.b, out, in, x.out, x.in)
		}
	}
}

// P15.5: that Of inverts Make is checked with P15.1 too; here through bytes.

func TestOfInvertsMake(t *testing.T) {
	r := rand.New(rand.NewSource(3))
	for range 5000 {
		v, l, answer := someValues(r), someList(r, 4), r.Intn(2) == 0
		c, ok := initial.Make(answer, v, l...)
		if !ok {
			continue
		}
		b, err := chunk.Encode(c)
		if err != nil {
			t.Fatal(err)
		}
		c, err = chunk.Parse(b)
		back, params, ok := initial.Of(c)
		if err != nil || !ok || back != v || !sameLists(params, l) || (c.Type == 2) != answer {
			t.Fatalf("Of(%v): %v, %v, %t; want %v, %v", c, back, params, ok, v, l)
		}
	}
	// All fields count: a new one would need bytes of its own.
	if n := reflect.TypeFor[initial.Values]().NumField(); n != 5 {
		t.Error(n, "fields")
	}
}

// lesser returns the lesser one of two numbers.
func lesser(x, y uint16) uint16 {
	if x < y {
		return x
	}
	return y
}

func TestStreamsExchanged(t *testing.T) {
	r := rand.New(rand.NewSource(4))
	for range 20000 {
		a, b := someValues(r), someValues(r)
		out, in := initial.Streams(a, b)
		if out != lesser(a.Out, b.In) || in != lesser(a.In, b.Out) {
			t.Fatalf("Streams(%v, %v): %d, %d", a, b, out, in)
		}
		if back, forth := initial.Streams(b, a); back != in || forth != out {
			t.Fatalf("Streams(%v, %v): %d, %d; want %d, %d", b, a, back, forth, in, out)
		}
	}
}

// The rules: arguments stay as they are, and no memory is shared.

func TestMakeSharesNoMemory(t *testing.T) {
	for _, from := range [][]api.Node{{}, {cookie(1, 2)}, {ip4(), with(8, add(ip6())), cookie(), ecn()}} {
		want := written(true, numbers, from)
		l := copiedList(from)
		before := wholeList(l)
		c, _ := initial.Make(true, numbers, l...)
		other, _ := initial.Make(true, numbers, l...)
		if !sameLists(wholeList(l), before) {
			t.Error("Make changes", l)
		}
		scribbleList(l)
		if !same(c, want) {
			t.Error("Make shares memory", c)
		}
		scribble(c)
		if !same(other, want) {
			t.Error("Make shares memory", other)
		}
	}
	// The same memory in two parameters becomes two memories.
	n := cookie(1, 2)
	c, _ := initial.Make(true, numbers, n, n)
	invert(c.Kids[0].Data)
	if !sameLists(c.Kids[1:], []api.Node{cookie(1, 2)}) {
		t.Error("parameters share memory", c)
	}
}

func TestOfSharesNoMemory(t *testing.T) {
	for _, from := range []api.Chunk{initOf(), ackOf(cookie(1, 2)), ackOf(ip4(), with(8, add(ip6())), cookie(), ecn())} {
		c := copied(from)
		before := whole(c)
		_, l, _ := initial.Of(c)
		_, other, _ := initial.Of(c)
		if !same(whole(c), before) {
			t.Error("Of changes", c)
		}
		scribble(c)
		if !sameLists(l, from.Kids) {
			t.Error("Of shares memory", l)
		}
		scribbleList(l)
		if !sameLists(other, from.Kids) {
			t.Error("Of shares memory", other)
		}
	}
}

func TestFoundBytesShareNoMemory(t *testing.T) {
	for _, from := range []api.Chunk{ackOf(cookie(1, 2), lists(3, 4)), ackOf(lists(3), cookie(1, 2), lists(4)), ackOf(cookie(1, 2), lists(), lists(3, 4), cookie(5))} {
		c := copied(from)
		before := whole(c)
		found := func() [][]byte {
			first, _ := initial.Cookie(c)
			echo, _ := initial.Echo(c)
			return [][]byte{first, echo.Data, initial.Extensions(c)}
		}
		l, other := found(), found()
		if initial.Has(c, 9) || !same(whole(c), before) {
			t.Error("changed:", c)
		}
		scribble(c)
		want := [][]byte{{1, 2}, {1, 2}, {3, 4}}
		for i, b := range l {
			if !bytes.Equal(b, want[i]) {
				t.Errorf("%d: shares memory: %v", i, b)
			}
			invert(b)
		}
		if !slices.EqualFunc(other, want, bytes.Equal) {
			t.Error("results share memory", other)
		}
	}
}

// P1: all arguments are allowed, and the functions may be called concurrently.

func TestAnyArguments(t *testing.T) {
	r := rand.New(rand.NewSource(5))
	deep := nested(5000, cookie(1))
	for kinds := range 256 {
		for range 8 {
			c := api.Chunk{Type: byte(kinds), Flags: byte(r.Uint32() >> r.Intn(32)), Data: someBytes(r, 40), Kids: someList(r, 5)}
			if r.Intn(10) == 0 {
				c.Kids = append(c.Kids, deep)
			}
			reads(t, c)
		}
	}
	for _, c := range []api.Chunk{initOf(deep), ackOf(cookie(1), lists(1), deep), ackOf(long(7, 1<<20)), ackOf(many(7, 1<<17)...), {Type: 1, Data: make([]byte, 1<<20)}} {
		if reads(t, c) || makes(t, true, numbers, append(c.Kids, with(8))...) {
			t.Errorf("%.200v is an initial chunk", c)
		}
	}
}

func TestConcurrently(t *testing.T) {
	c := ackOf(ip4(), cookie(1, 2), lists(3), lists(4))
	var group sync.WaitGroup
	for range 8 {
		group.Go(func() {
			for range 50 {
				made, ok := initial.Make(true, numbers, c.Kids...)
				v, l, read := initial.Of(c)
				if !ok || !read || !same(made, c) || v != numbers || !sameLists(l, c.Kids) {
					t.Error("Make or Of")
				}
				first, has := initial.Cookie(c)
				echo, echoed := initial.Echo(c)
				if !has || !echoed || !bytes.Equal(first, []byte{1, 2}) || !bytes.Equal(echo.Data, first) {
					t.Error("Cookie or Echo")
				}
				out, in := initial.Streams(v, v)
				if !initial.Has(c, 5) || !bytes.Equal(initial.Extensions(c), []byte{3, 4}) || out != 0x090a || in != 0x090a {
					t.Error("Has, Extensions or Streams")
				}
			}
		})
	}
	group.Wait()
}
