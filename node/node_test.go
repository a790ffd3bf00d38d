package node_test

import (
	"bytes"
	"errors"
	"iter"
	"math/rand"
	"slices"
	"sync"
	"testing"

	"wharf/api"
	"wharf/node"
	"wharf/shape"
)

// The greatest numbers of bytes, of nodes inside and of depths of which the
// chapter speaks.
const (
	mostBytes = 1 << 20
	mostNodes = 1000
	mostDepth = 20
)

// classes are both classes.
var classes = []int{api.Param, api.Cause}

// plain returns a node with some bytes and none inside.
func plain(t uint16, data ...byte) api.Node { return api.Node{Type: t, Data: data} }

// with returns a node with some nodes inside and no bytes in front of them.
func with(t uint16, kids ...api.Node) api.Node { return api.Node{Type: t, Kids: kids} }

// both returns a node with the bytes 1, 2, 3 and 4 and some nodes inside.
func both(t uint16, kids ...api.Node) api.Node {
	return api.Node{Type: t, Data: []byte{1, 2, 3, 4}, Kids: kids}
}

// nested returns n nodes, one in the other, with the last one in all of them.
func nested(t uint16, n int, last api.Node) api.Node {
	for range n {
		last = with(t, last)
	}
	return last
}

// ip4 and ip6 return addresses.
func ip4() api.Node { return plain(5, 10, 0, 0, 1) }
func ip6() api.Node { return plain(6, 1, 2, 3, 4, 5, 6, 7, 8, 9, 10, 11, 12, 13, 14, 15, 16) }

// joined returns the bytes of all parts.
func joined(parts ...[]byte) []byte { return bytes.Join(parts, nil) }

// same reports whether two nodes are the same, by the definition.
func same(a, b api.Node) bool {
	return a.Type == b.Type && string(a.Data) == string(b.Data) && sameLists(a.Kids, b.Kids)
}

// sameLists reports whether two lists have the same nodes.
func sameLists(a, b []api.Node) bool {
	if len(a) != len(b) {
		return false
	}
	for i := range a {
		if !same(a[i], b[i]) {
			return false
		}
	}
	return true
}

// copied returns the same nodes in new memory, with unused capacity that is not
// zero.
func copied(l []api.Node) []api.Node {
	if l == nil {
		return nil
	}
	c := make([]api.Node, len(l), len(l)+2)
	for i, n := range l {
		data := append(append([]byte{}, n.Data...), 0xaa, 0xbb)
		c[i] = api.Node{Type: n.Type, Data: data[:len(n.Data)], Kids: copied(n.Kids)}
	}
	for i := range c[len(l):cap(c)] {
		c[:cap(c)][len(l)+i] = plain(0xcccc, 0xdd)
	}
	return c
}

// whole returns the nodes with their unused capacity as parts of them.
func whole(l []api.Node) []api.Node {
	c := append([]api.Node{}, l[:cap(l)]...)
	for i := range c {
		data := c[i].Data
		c[i].Data, c[i].Kids = bytes.Clone(data[:cap(data)]), whole(c[i].Kids)
	}
	return c
}

// scribble changes all of the memory of nodes.
func scribble(l []api.Node) {
	l = l[:cap(l)]
	for i := range l {
		data := l[i].Data[:cap(l[i].Data)]
		for k := range data {
			data[k] ^= 0xff
		}
		scribble(l[i].Kids)
		l[i] = plain(^l[i].Type, 0xee)
	}
}

// written returns the bytes of a list by their definition; the length of a node
// that is too large for it is taken modulo 65536.
func written(l []api.Node) []byte {
	var b []byte
	for i, n := range l {
		value := append(bytes.Clone(n.Data), written(n.Kids)...)
		size := len(value) + 4
		b = append(b, byte(n.Type>>8), byte(n.Type), byte(size>>8), byte(size))
		b = append(b, value...)
		for i < len(l)-1 && len(b)%4 != 0 {
			b = append(b, 0)
		}
	}
	return b
}

// fits reports whether n bytes fit a form.
func fits(f shape.Form, n int) bool {
	return n >= f.Least && n <= f.Most && (n-f.Least)%f.Unit == 0
}

// kidsFit reports whether kids are as many as a form has inside, and as it
// wants them.
func kidsFit(f shape.Form, kids []api.Node) bool {
	switch f.Kids {
	case shape.None:
		return len(kids) == 0
	case shape.One:
		return len(kids) == 1
	case shape.Address:
		return len(kids) == 1 && (kids[0].Type == 5 || kids[0].Type == 6)
	}
	return len(kids) >= 1 && len(kids) <= 16384
}

// inside returns the class of the nodes inside.
func inside(f shape.Form) int {
	if f.Kids == shape.Causes {
		return api.Cause
	}
	return api.Param
}

// number returns the number that bytes are.
func number(b []byte) int {
	x := 0
	for _, y := range b {
		x = 256*x + int(y)
	}
	return x
}

// wrong returns the error of a node at a depth by its definition; 0, if it is
// right.
func wrong(class int, n api.Node, depth int) api.Code {
	f, known := shape.Of(class, n.Type)
	if depth > 4 {
		return api.Depth
	}
	if !known && len(n.Kids) > 0 || known && (!fits(f, len(n.Data)) || !kidsFit(f, n.Kids)) {
		return api.Form
	}
	if class == api.Cause && n.Type == 2 && number(n.Data[:4])*2 != len(n.Data)-4 {
		return api.Count
	}
	for _, kid := range n.Kids {
		if c := wrong(inside(f), kid, depth+1); c != 0 {
			return c
		}
	}
	if len(written([]api.Node{n})) > 65535 {
		return api.Length
	}
	return 0
}

// firstWrong returns the error of the first node of a list that is not right,
// as Encode returns it.
func firstWrong(class int, l []api.Node) error {
	for _, n := range l {
		if c := wrong(class, n, 1); c != 0 {
			return c
		}
	}
	return nil
}

// place is a frame between two offsets.
type place struct{ at, end int }

// places returns where the frames of the list from an offset to an end are, or
// the error of the list.
func places(b []byte, at, end int) (l []place, err error) {
	for at < end {
		if end-at < 4 {
			return nil, api.Fault{Code: api.Length, At: at}
		}
		size := number(b[at+2 : at+4])
		if size < 4 || size > end-at {
			return nil, api.Fault{Code: api.Length, At: at}
		}
		l = append(l, place{at, at + size})
		at += size
		next := at + (4-size%4)%4
		if at < end && (next >= end || number(b[at:next]) != 0) {
			return nil, api.Fault{Code: api.Padding, At: at}
		}
		at = next
	}
	return l, nil
}

// found returns what Parse returns for the bytes from an offset to an end, at a
// depth, by its definition.
func found(class int, b []byte, at, end, depth int) ([]api.Node, error) {
	frames, err := places(b, at, end)
	if err != nil {
		return nil, err
	}
	var l []api.Node
	for _, p := range frames {
		if depth > 4 {
			return nil, api.Fault{Code: api.Depth, At: p.at}
		}
		kind := uint16(number(b[p.at : p.at+2]))
		f, known := shape.Of(class, kind)
		start := p.at + 4
		middle := p.end
		if known && f.Kids != shape.None {
			middle = start + f.Least
		}
		if known && (middle > p.end || !fits(f, middle-start)) {
			return nil, api.Fault{Code: api.Form, At: p.at}
		}
		if class == api.Cause && kind == 2 && number(b[start:start+4])*2 != p.end-start-4 {
			return nil, api.Fault{Code: api.Count, At: start}
		}
		var kids []api.Node
		if known && f.Kids != shape.None {
			kids, err = found(inside(f), b, middle, p.end, depth+1)
			if err != nil {
				return nil, err
			}
		}
		if known && !kidsFit(f, kids) {
			return nil, api.Fault{Code: api.Form, At: p.at}
		}
		l = append(l, api.Node{Type: kind, Data: b[start:middle], Kids: kids})
	}
	return l, nil
}

// reads checks that Parse returns what the definition says, and that Encode
// inverts it. It reports whether there are nodes with these bytes.
func reads(t *testing.T, class int, b []byte) bool {
	t.Helper()
	want, fault := found(class, b, 0, len(b), 1)
	got, err := node.Parse(class, b)
	if !sameLists(got, want) || err != fault {
		t.Fatalf("Parse(%d, %d): %v, %#v; want %v, %#v", class, b, got, err, want, fault)
	}
	if err != nil {
		return false
	}
	if back, err := node.Encode(class, got...); !bytes.Equal(back, b) || err != nil {
		t.Fatalf("Encode(%d, %v): %d, %v; want %d", class, got, back, err, b)
	}
	return true
}

// encodes checks Check, Encode, Size and Parse of a list against the
// definitions. It reports whether its nodes are right.
func encodes(t *testing.T, class int, l []api.Node) bool {
	t.Helper()
	want := written(l)
	if got := node.Size(l...); got != len(want) {
		t.Fatalf("Size(%v): %d; want %d", l, got, len(want))
	}
	for _, n := range l {
		if err := node.Check(class, n); err != firstWrong(class, []api.Node{n}) {
			t.Fatalf("Check(%d, %v): %#v; want %#v", class, n, err, firstWrong(class, []api.Node{n}))
		}
	}
	fault := firstWrong(class, l)
	if fault != nil {
		want = nil
	}
	got, err := node.Encode(class, l...)
	if !bytes.Equal(got, want) || err != fault {
		t.Fatalf("Encode(%d, %v): %d, %#v; want %d, %#v", class, l, got, err, want, fault)
	}
	if err != nil {
		return false
	}
	if back, err := node.Parse(class, got); !sameLists(back, l) || err != nil {
		t.Fatalf("Parse(%d, %d): %v, %v; want %v", class, got, back, err, l)
	}
	return true
}

// random returns n random bytes.
func random(r *rand.Rand, n int) []byte {
	b := make([]byte, n)
	r.Read(b)
	return b
}

// someType returns a random type of a class: most of the time a known one.
func someType(r *rand.Rand, class int) uint16 {
	types := shape.Types(class)
	switch r.Intn(8) {
	case 0:
		return uint16(r.Intn(1 << 16))
	case 1, 2: // those with nodes inside
		types = slices.DeleteFunc(types, func(t uint16) bool {
			f, _ := shape.Of(class, t)
			return f.Kids == shape.None
		})
	}
	return types[r.Intn(len(types))]
}

// someNode returns a random node that is right at a depth.
func someNode(r *rand.Rand, class, depth int) api.Node {
	t := someType(r, class)
	f, known := shape.Of(class, t)
	if !known {
		return api.Node{Type: t, Data: random(r, r.Intn(9))}
	}
	if f.Kids != shape.None && depth == 4 {
		return someNode(r, class, depth)
	}
	n := api.Node{Type: t, Data: random(r, min(f.Most, f.Least+f.Unit*r.Intn(7)))}
	if class == api.Cause && t == 2 {
		copy(n.Data, []byte{0, 0, 0, byte(len(n.Data)/2 - 2)})
	}
	switch f.Kids {
	case shape.Address:
		n.Kids = []api.Node{[]api.Node{ip4(), ip6()}[r.Intn(2)]}
	case shape.One:
		n.Kids = []api.Node{someNode(r, api.Param, depth+1)}
	case shape.Params, shape.Causes:
		for range 1 + r.Intn(3) {
			n.Kids = append(n.Kids, someNode(r, inside(f), depth+1))
		}
	}
	return n
}

// someList returns a random list of nodes that are right.
func someList(r *rand.Rand, class int) []api.Node {
	var l []api.Node
	for range r.Intn(5) {
		l = append(l, someNode(r, class, 1))
	}
	return l
}

// change changes one of the nodes of a list, or of those inside, in some way.
func change(r *rand.Rand, class int, l []api.Node) []api.Node {
	if len(l) == 0 {
		return []api.Node{someNode(r, class, 1)}
	}
	n := &l[r.Intn(len(l))]
	for len(n.Kids) > 0 && r.Intn(3) > 0 {
		n = &n.Kids[r.Intn(len(n.Kids))]
	}
	switch r.Intn(6) {
	case 0:
		n.Type = someType(r, api.Param)
	case 1:
		n.Data = append(n.Data, random(r, 1+r.Intn(2))...)
	case 2:
		n.Data = n.Data[:r.Intn(len(n.Data)+1)]
	case 3:
		n.Kids = append(n.Kids, someNode(r, api.Param, 1))
	case 4:
		n.Kids = n.Kids[:r.Intn(len(n.Kids)+1)]
	case 5:
		*n = with(8, *n)
	}
	return l
}

// P8.1

func TestCheckOfRightNodes(t *testing.T) {
	for i, x := range []struct {
		class int
		n     api.Node
	}{
		{api.Param, plain(1)},
		{api.Param, plain(1, 9, 9, 9)},
		{api.Param, ip4()},
		{api.Param, ip6()},
		{api.Param, plain(16, 1, 2, 3, 4, 5, 6, 7, 8)},
		{api.Param, plain(16, make([]byte, 16)...)},
		{api.Param, plain(0x8000)},
		{api.Param, api.Node{Type: 0x8000, Data: []byte{}, Kids: []api.Node{}}},
		{api.Param, plain(13, make([]byte, 14)...)},
		{api.Param, with(8, plain(0x8000))},
		{api.Param, with(8, ip4())},
		{api.Param, with(8, plain(0xfff0, 1, 2, 3))},
		{api.Param, both(0xc001, ip4())},
		{api.Param, both(0xc002, ip6())},
		{api.Param, both(0xc004, ip6())},
		{api.Param, both(0xc003, plain(4))},
		{api.Param, both(0xc003, plain(12, 1, 2, 3), plain(0x0105, 1, 2), plain(4))},
		// The type 2 is a known one only of error causes, and 0x8000 only of parameters.
		{api.Param, plain(2, 1)},
		{api.Cause, plain(0x8000, 1)},
		{api.Param, plain(0)},
		{api.Cause, plain(0xffff, 1, 2, 3, 4, 5)},
		{api.Cause, plain(1, 0, 7, 0, 0)},
		{api.Cause, plain(2, 0, 0, 0, 1, 0, 7)},
		{api.Cause, plain(2, 0, 0, 0, 3, 0, 7, 0, 8, 0, 9)},
		{api.Cause, plain(6, 0, 0, 0, 4)},
		{api.Cause, with(8, plain(0xfff0), plain(0x8000), ip4())},
		{api.Cause, with(5, plain(11, 'a', 0))},
		{api.Cause, with(11, ip4())},
		{api.Cause, with(0xa0, ip4())},
		{api.Cause, with(0xa0, plain(0x8000))}, // One, and not Address
		// At the greatest depth.
		{api.Param, nested(8, 3, plain(0x8000))},
		{api.Param, nested(8, 2, both(0xc001, ip4()))},
		{api.Param, nested(8, 1, both(0xc003, with(8, plain(1), ip6())))},
		{api.Cause, with(8, with(8, both(0xc003, plain(2, 0, 0, 0, 1, 0, 7))), plain(5, 1, 2, 3, 4))},
	} {
		if err := node.Check(x.class, x.n); err != nil {
			t.Errorf("%d: Check(%d, %v): %v", i, x.class, x.n, err)
		}
	}
}

func TestCheckOfWrongNodes(t *testing.T) {
	deep := nested(8, 4, plain(0x8000))
	for i, x := range []struct {
		class int
		n     api.Node
		want  api.Code
	}{
		// Depth.
		{api.Param, deep, api.Depth},
		{api.Param, nested(8, 9, plain(0x8000)), api.Depth},
		{api.Param, nested(8, 3, both(0xc001, ip4())), api.Depth},
		{api.Param, nested(8, 2, both(0xc003, with(8, plain(1)))), api.Depth},
		{api.Cause, with(8, nested(8, 3, plain(1))), api.Depth},
		{api.Param, nested(8, 4, plain(5)), api.Depth},     // and a wrong form there
		{api.Param, nested(8, 4, with(0x8000)), api.Depth}, // none inside that one
		{api.Param, nested(8, 19, plain(5)), api.Depth},
		// Form: a type that is not known.
		{api.Param, with(2, plain(0x8000)), api.Form},
		{api.Cause, with(0x0106, plain(4)), api.Form},
		{api.Param, both(0, plain(0x8000)), api.Form},
		{api.Param, with(0xc001, with(2, deep)), api.Form},
		// Form: the number of bytes.
		{api.Param, plain(5), api.Form},
		{api.Param, plain(5, 1, 2, 3), api.Form},
		{api.Param, plain(5, 1, 2, 3, 4, 5), api.Form},
		{api.Param, plain(6, 1, 2, 3, 4), api.Form},
		{api.Param, plain(11), api.Form},
		{api.Param, plain(12, 1, 2, 3), api.Form},
		{api.Param, plain(16, make([]byte, 12)...), api.Form},
		{api.Param, plain(16, make([]byte, 24)...), api.Form},
		{api.Param, plain(0x8000, 0), api.Form},
		{api.Param, plain(1, make([]byte, 65532)...), api.Form},
		{api.Cause, plain(2), api.Form},
		{api.Cause, plain(2, 0, 0, 0), api.Form},
		{api.Cause, plain(2, 0, 0, 0, 0), api.Form},
		{api.Cause, plain(2, 0, 0, 0, 1, 0, 7, 0), api.Form},
		{api.Param, both(8, plain(0x8000)), api.Form},
		{api.Param, with(0xc001, ip4()), api.Form},
		{api.Param, with(0xc003, plain(4)), api.Form},
		// Form: the number of nodes inside.
		{api.Param, plain(8), api.Form},
		{api.Param, with(8, ip4(), ip4()), api.Form},
		{api.Param, api.Node{Type: 5, Data: []byte{1, 2, 3, 4}, Kids: []api.Node{ip4()}}, api.Form},
		{api.Param, with(1, plain(1)), api.Form},
		{api.Param, both(0xc001), api.Form},
		{api.Param, both(0xc001, ip4(), ip6()), api.Form},
		{api.Param, both(0xc003), api.Form},
		{api.Cause, plain(8), api.Form},
		{api.Cause, plain(11), api.Form},
		{api.Cause, plain(5), api.Form},
		{api.Cause, with(5, ip4(), ip4()), api.Form},
		// Form: another one than an address.
		{api.Param, both(0xc001, plain(0x8000)), api.Form},
		{api.Param, both(0xc002, plain(4, 1, 2, 3, 4)), api.Form},
		{api.Param, both(0xc004, plain(7, 1, 2, 3, 4)), api.Form},
		{api.Param, both(0xc004, with(8, ip4())), api.Form},
		{api.Param, both(0xc004, plain(0x0105, 1, 2, 3, 4)), api.Form},
		// Count.
		{api.Cause, plain(2, 0, 0, 0, 0, 0, 7), api.Count},
		{api.Cause, plain(2, 0, 0, 0, 2, 0, 7), api.Count},
		{api.Cause, plain(2, 0, 0, 0, 1, 0, 7, 0, 8), api.Count},
		{api.Cause, plain(2, 0, 0, 1, 1, 0, 7), api.Count},
		{api.Cause, plain(2, 0, 1, 0, 1, 0, 7), api.Count},
		{api.Cause, plain(2, 1, 0, 0, 1, 0, 7), api.Count},
		{api.Cause, plain(2, 0xff, 0xff, 0xff, 0xff, 0, 7), api.Count},
		{api.Cause, plain(2, 0x80, 0, 0, 1, 0, 7), api.Count},
		// That of the first one inside that is not right.
		{api.Param, with(8, plain(5, 1)), api.Form},
		{api.Param, both(0xc001, plain(5, 1)), api.Form},
		{api.Param, both(0xc003, plain(2, 0, 0, 0, 0, 0, 7)), api.Count},
		{api.Param, both(0xc003, plain(4), plain(4, 1), plain(2, 0, 0, 0, 0, 0, 7)), api.Form},
		{api.Param, both(0xc003, plain(4), plain(2, 0, 0, 0, 0, 0, 7), plain(4, 1)), api.Count},
		{api.Cause, with(8, ip4(), deep, plain(5)), api.Depth},
		{api.Cause, with(8, ip4(), plain(5), deep), api.Form},
		{api.Cause, with(8, with(8, both(0xc003, plain(2, 0, 0, 0, 0, 0, 7)))), api.Count},
		// Its own error comes before those inside.
		{api.Param, with(8, deep, deep), api.Form},
		{api.Param, both(8, deep), api.Form},
		{api.Param, with(0xc003, plain(2, 0, 0, 0, 0, 0, 7)), api.Form},
	} {
		if err := node.Check(x.class, x.n); err != error(x.want) {
			t.Errorf("%d: Check(%d, %v): %#v; want %#v", i, x.class, x.n, err, x.want)
		}
	}
}

func TestCheckOfAllForms(t *testing.T) {
	for _, class := range classes {
		for _, kind := range shape.Types(class) {
			f, _ := shape.Of(class, kind)
			lists := [][]api.Node{nil, {ip4()}, {ip6()}, {plain(4)}, {plain(0x8000)}, {ip4(), ip4()}, {plain(4), plain(4)}, {plain(4), plain(5)}}
			for n := range 40 {
				data := make([]byte, n)
				if class == api.Cause && kind == 2 && n > 4 {
					data[3] = byte(n/2 - 2)
				}
				for _, kids := range lists {
					encodes(t, class, []api.Node{{Type: kind, Data: data, Kids: kids}})
				}
			}
			for n := 65528; n < 65540; n++ {
				data := make([]byte, n)
				data[2], data[3] = byte((n/2-2)>>8), byte(n/2-2)
				if right := encodes(t, class, []api.Node{{Type: kind, Data: data}}); right != fits(f, n) {
					t.Fatal(class, kind, n)
				}
			}
		}
	}
}

func TestCheckOfLengths(t *testing.T) {
	some := func(n int) api.Node { return plain(0xfff0, make([]byte, n)...) }
	many := slices.Repeat([]api.Node{some(65)}, 909) // 72 bytes each
	for i, x := range []struct {
		class int
		n     api.Node
		want  error
	}{
		{api.Param, some(65531), nil},
		{api.Param, some(65532), api.Length},
		{api.Param, some(65533), api.Length},
		{api.Param, some(65536), api.Length},
		{api.Param, some(131000), api.Length},
		{api.Param, some(mostBytes - 4), api.Length},
		{api.Cause, some(65531), nil},
		{api.Cause, some(65532), api.Length},
		// What is inside is a part of the bytes.
		{api.Param, with(8, some(65527)), nil},
		{api.Param, with(8, some(65528)), api.Length},
		{api.Param, with(8, plain(1, make([]byte, 65527)...)), nil},
		{api.Param, with(8, plain(1, make([]byte, 65528)...)), api.Length},
		{api.Param, nested(8, 3, some(65519)), nil},
		{api.Param, nested(8, 3, some(65520)), api.Length},
		{api.Param, both(0xc003, some(65523)), nil},
		{api.Param, both(0xc003, some(65524)), api.Length},
		// And the padding, but for that of the last one.
		{api.Cause, with(8, some(1), some(65519)), nil},
		{api.Cause, with(8, some(1), some(65520)), api.Length},
		{api.Cause, with(8, some(65516), some(7)), nil},
		{api.Cause, with(8, some(65516), some(8)), api.Length},
		{api.Cause, with(8, some(65517), some(3)), nil},
		{api.Cause, with(8, some(65517), some(4)), api.Length},
		{api.Cause, with(8, some(65520), some(3)), nil},
		{api.Cause, with(8, some(65521), some(0)), api.Length},
		{api.Cause, with(8, append(many, some(75))...), nil},
		{api.Cause, with(8, append(many, some(80))...), api.Length},
		// The other errors come first.
		{api.Param, api.Node{Type: 0xfff0, Data: make([]byte, 65532), Kids: []api.Node{ip4()}}, api.Form},
		{api.Cause, plain(2, make([]byte, 65530)...), api.Count},
		{api.Cause, with(8, some(65520), some(4), plain(5)), api.Form},
		{api.Cause, with(8, some(65532), plain(5)), api.Length},
		{api.Cause, with(8, plain(5), some(65532)), api.Form},
		{api.Param, nested(8, 4, some(65532)), api.Depth},
	} {
		if err := node.Check(x.class, x.n); err != x.want {
			t.Errorf("%d: %#v; want %#v", i, err, x.want)
		}
		encodes(t, x.class, []api.Node{x.n})
	}
}

func TestRandomLists(t *testing.T) {
	r := rand.New(rand.NewSource(1))
	for range 4000 {
		for _, class := range classes {
			l := someList(r, class)
			if !encodes(t, class, l) {
				t.Fatalf("%d: %v is not right", class, l)
			}
			for range 3 {
				l = change(r, class, l)
				encodes(t, class, l)
			}
		}
	}
}

// P8.2

func TestEncode(t *testing.T) {
	for i, x := range []struct {
		class int
		l     []api.Node
		want  []byte
	}{
		{api.Param, nil, nil},
		{api.Param, []api.Node{with(8, plain(0x8000))}, []byte{0, 8, 0, 8, 0x80, 0, 0, 4}}, // the example
		{api.Param, []api.Node{ip4()}, []byte{0, 5, 0, 8, 10, 0, 0, 1}},
		{api.Param, []api.Node{plain(1, 9), plain(1, 9)}, []byte{0, 1, 0, 5, 9, 0, 0, 0, 0, 1, 0, 5, 9}},
		{api.Param, []api.Node{plain(0xfedc, 1, 2), plain(0x8000), plain(7, 3)},
			[]byte{0xfe, 0xdc, 0, 6, 1, 2, 0, 0, 0x80, 0, 0, 4, 0, 7, 0, 5, 3}},
		// The last one inside has no padding, and its length counts what is inside.
		{api.Param, []api.Node{with(8, plain(1, 9)), plain(0x8000)},
			[]byte{0, 8, 0, 9, 0, 1, 0, 5, 9, 0, 0, 0, 0x80, 0, 0, 4}},
		{api.Param, []api.Node{both(0xc001, ip4())}, []byte{0xc0, 1, 0, 16, 1, 2, 3, 4, 0, 5, 0, 8, 10, 0, 0, 1}},
		{api.Param, []api.Node{both(0xc003, plain(0x0105, 7, 8), plain(12, 9))},
			[]byte{0xc0, 3, 0, 21, 1, 2, 3, 4, 1, 5, 0, 6, 7, 8, 0, 0, 0, 12, 0, 5, 9}},
		{api.Cause, []api.Node{plain(2, 0, 0, 0, 1, 0, 7), plain(10)},
			[]byte{0, 2, 0, 10, 0, 0, 0, 1, 0, 7, 0, 0, 0, 10, 0, 4}},
		{api.Cause, []api.Node{with(8, plain(0xfff0), plain(0xfff1, 1))},
			[]byte{0, 8, 0, 13, 0xff, 0xf0, 0, 4, 0xff, 0xf1, 0, 5, 1}},
	} {
		if got, err := node.Encode(x.class, x.l...); !bytes.Equal(got, x.want) || err != nil {
			t.Errorf("%d: Encode(%d, %v): %d, %v; want %d", i, x.class, x.l, got, err, x.want)
		}
		if got := node.Size(x.l...); got != len(x.want) {
			t.Errorf("%d: Size(%v): %d; want %d", i, x.l, got, len(x.want))
		}
	}
}

func TestEncodeReturnsTheFirstError(t *testing.T) {
	form, count, depth := plain(5), plain(2, 0, 0, 0, 0, 0, 7), with(8, nested(8, 4, ip4()))
	length := plain(0xfff0, make([]byte, 65532)...)
	right := plain(4)
	for i, x := range []struct {
		l    []api.Node
		want api.Code
	}{
		{[]api.Node{form}, api.Form},
		{[]api.Node{right, form}, api.Form},
		{[]api.Node{right, right, count, right}, api.Count},
		{[]api.Node{form, count, depth, length}, api.Form},
		{[]api.Node{count, form, depth, length}, api.Count},
		{[]api.Node{right, depth, length, form}, api.Depth},
		{[]api.Node{right, length, depth, form}, api.Length},
	} {
		got, err := node.Encode(api.Cause, x.l...)
		if len(got) != 0 || err != error(x.want) {
			t.Errorf("%d: %d, %#v; want %#v", i, got, err, x.want)
		}
	}
}

func TestEncodeOfAListThatIsLongerThanANode(t *testing.T) {
	large := plain(1, make([]byte, 65531)...)
	l := slices.Repeat([]api.Node{large}, 15)
	if !encodes(t, api.Param, l) {
		t.Error("15 large nodes are not right")
	}
	if got := node.Size(l...); got != 15*65536-1 {
		t.Error(got)
	}
}

func TestSizeOfWrongNodes(t *testing.T) {
	for i, x := range []struct {
		l    []api.Node
		want int
	}{
		{nil, 0},
		{[]api.Node{{}}, 4},
		{[]api.Node{plain(5, 1)}, 5},
		{[]api.Node{plain(5, 1), plain(5, 1, 2)}, 14},
		{[]api.Node{with(0xfff0, plain(0xfff1, 1), plain(0xfff2, 1, 2, 3)), {}}, 24},
		{[]api.Node{api.Node{Type: 5, Data: []byte{1}, Kids: []api.Node{plain(1, 1), plain(1)}}}, 17},
		{[]api.Node{with(8, plain(1, make([]byte, 65532)...))}, 65540},
		{[]api.Node{plain(1, make([]byte, 65533)...), plain(1, 1)}, 65545},
		{[]api.Node{plain(1, make([]byte, mostBytes-4)...)}, mostBytes},
		{[]api.Node{nested(8, mostDepth-1, plain(1, 7))}, 81},
		{slices.Repeat([]api.Node{plain(1, 1, 2, 3, 4, 5)}, mostNodes), 12*mostNodes - 3},
	} {
		if got := node.Size(x.l...); got != x.want {
			t.Errorf("%d: %d; want %d", i, got, x.want)
		}
	}
}

// P8.3

func TestParse(t *testing.T) {
	for i, x := range []struct {
		class int
		b     []byte
		want  []api.Node
	}{
		{api.Param, nil, nil},
		{api.Cause, []byte{}, nil},
		{api.Param, []byte{0, 8, 0, 8, 0x80, 0, 0, 4}, []api.Node{with(8, plain(0x8000))}},
		{api.Param, []byte{0xc0, 1, 0, 16, 1, 2, 3, 4, 0, 5, 0, 8, 10, 0, 0, 1}, []api.Node{both(0xc001, ip4())}},
		{api.Param, []byte{0, 8, 0, 9, 0, 1, 0, 5, 9, 0, 0, 0, 0x80, 0, 0, 4}, []api.Node{with(8, plain(1, 9)), plain(0x8000)}},
		{api.Cause, []byte{0, 2, 0, 10, 0, 0, 0, 1, 0, 7}, []api.Node{plain(2, 0, 0, 0, 1, 0, 7)}},
		// What a type that is not known has, is not looked at.
		{api.Param, []byte{0xff, 0xf0, 0, 8, 0, 5, 0, 9}, []api.Node{plain(0xfff0, 0, 5, 0, 9)}},
		{api.Param, []byte{0, 2, 0, 10, 0, 0, 0, 9, 0, 7}, []api.Node{plain(2, 0, 0, 0, 9, 0, 7)}},
		{api.Cause, []byte{0xc0, 1, 0, 5, 1}, []api.Node{plain(0xc001, 1)}},
	} {
		got, err := node.Parse(x.class, x.b)
		if !sameLists(got, x.want) || err != nil {
			t.Errorf("%d: Parse(%d, %d): %v, %v; want %v", i, x.class, x.b, got, err, x.want)
		}
		reads(t, x.class, x.b)
	}
}

// The bytes of some nodes: right ones, those with a wrong form or count, and
// four parameters around one that is too deep.
var (
	ecn      = []byte{0x80, 0, 0, 4}
	ip4Bytes = []byte{0, 5, 0, 8, 10, 0, 0, 1}
	noForm   = []byte{0, 5, 0, 4}
	noCount  = []byte{0, 2, 0, 10, 0, 0, 0, 2, 0, 7}
	tooDeep  = []byte{0, 8, 0, 20, 0, 8, 0, 16, 0, 8, 0, 12, 0, 8, 0, 8, 0x80, 0, 0, 4}
)

func TestErrorsOfParse(t *testing.T) {
	add, fail := []byte{0xc0, 1, 0, 16, 1, 2, 3, 4}, []byte{0xc0, 3, 0, 16, 1, 2, 3, 4}
	for i, x := range []struct {
		class int
		b     []byte
		code  api.Code
		at    int
	}{
		// Of the list of frames, before all that is in one.
		{api.Param, []byte{0, 5, 0}, api.Length, 0},
		{api.Param, []byte{0, 5, 0, 3}, api.Length, 0},
		{api.Param, []byte{0, 5, 0, 9, 1, 2, 3, 4}, api.Length, 0},
		{api.Param, []byte{0, 1, 0, 5, 9, 0}, api.Padding, 5},
		{api.Param, []byte{0, 1, 0, 5, 9, 0, 0, 0}, api.Padding, 5},
		{api.Param, []byte{0, 1, 0, 5, 9, 0, 1, 0, 0x80, 0, 0, 4}, api.Padding, 5},
		{api.Param, joined(noForm, []byte{0, 5, 0}), api.Length, 4},
		{api.Param, joined(tooDeep, []byte{0, 1, 0, 5, 9, 0}), api.Padding, 25},
		{api.Cause, joined(noCount, []byte{0, 1}), api.Padding, 10},
		// Depth.
		{api.Param, tooDeep, api.Depth, 16},
		{api.Param, joined(ecn, tooDeep, noForm), api.Depth, 20},
		{api.Cause, joined([]byte{0, 8, 0, 32}, ip4Bytes, tooDeep), api.Depth, 24},
		{api.Param, []byte{0, 8, 0, 20, 0, 8, 0, 16, 0, 8, 0, 12, 0, 8, 0, 8, 0, 5, 0, 4}, api.Depth, 16}, // and Form there
		{api.Param, []byte{0, 8, 0, 24, 0, 8, 0, 20, 0, 8, 0, 16, 0, 8, 0, 12, 0x80, 0, 0, 4, 0x80, 0, 0, 4}, api.Depth, 16},
		{api.Param, []byte{0, 8, 0, 20, 0, 8, 0, 16, 0, 8, 0, 12, 0, 8, 0, 8, 0x80, 0, 0, 3}, api.Length, 16}, // no frame there
		{api.Param, []byte{0, 8, 0, 16, 0, 8, 0, 12, 0, 8, 0, 8, 0, 8, 0, 4}, api.Form, 12},                   // none inside
		// Form: the number of bytes.
		{api.Param, noForm, api.Form, 0},
		{api.Param, joined(ecn, ip4Bytes, noForm), api.Form, 12},
		{api.Param, []byte{0, 5, 0, 9, 1, 2, 3, 4, 5}, api.Form, 0},
		{api.Param, []byte{0x80, 0, 0, 5, 1}, api.Form, 0},
		{api.Param, joined([]byte{0, 16, 0, 16}, make([]byte, 12)), api.Form, 0},
		{api.Param, []byte{0, 12, 0, 7, 0, 5, 0}, api.Form, 0},
		{api.Cause, []byte{0, 2, 0, 8, 0, 0, 0, 0}, api.Form, 0},
		{api.Cause, []byte{0, 2, 0, 11, 0, 0, 0, 1, 0, 7, 0}, api.Form, 0},
		{api.Cause, []byte{1, 5, 0, 5, 1}, api.Form, 0},
		// Form: bytes that are not there.
		{api.Param, []byte{0xc0, 1, 0, 4}, api.Form, 0},
		{api.Param, []byte{0xc0, 1, 0, 7, 1, 2, 3}, api.Form, 0},
		{api.Param, joined(ecn, []byte{0xc0, 3, 0, 6, 1, 2}), api.Form, 4},
		// Count.
		{api.Cause, noCount, api.Count, 4},
		{api.Cause, []byte{0, 2, 0, 10, 1, 0, 0, 1, 0, 7}, api.Count, 4},
		{api.Cause, []byte{0, 2, 0, 12, 0, 0, 0, 1, 0, 7, 0, 8}, api.Count, 4},
		{api.Cause, joined([]byte{0, 4, 0, 4}, noCount), api.Count, 8},
		{api.Param, joined([]byte{0xc0, 3, 0, 18, 1, 2, 3, 4}, noCount), api.Count, 12},
		// Of those inside, with offsets in all of the bytes.
		{api.Param, joined([]byte{0, 8, 0, 8}, noForm), api.Form, 4},
		{api.Param, joined(ecn, []byte{0, 8, 0, 12, 0, 8, 0, 8}, noForm), api.Form, 12},
		{api.Param, joined(ecn, []byte{0, 8, 0, 7, 0, 5, 0}), api.Length, 8},
		{api.Param, []byte{0, 8, 0, 8, 0, 5, 0, 8}, api.Length, 4},
		{api.Param, []byte{0, 8, 0, 10, 0, 1, 0, 5, 9, 0}, api.Padding, 9},
		{api.Param, joined(add, []byte{0, 5, 0, 9, 10, 0, 0, 1}), api.Length, 8},
		{api.Param, joined(ecn, add, []byte{0, 6, 0, 8, 1, 2, 3, 4}), api.Form, 12},
		{api.Param, joined(fail, []byte{0, 12, 0, 5, 9, 1, 0, 0}), api.Padding, 13},
		{api.Param, joined(fail, []byte{0, 4, 0, 4, 0, 4, 0, 3}), api.Length, 12},
		{api.Cause, joined([]byte{0, 8, 0, 24}, ip4Bytes, noForm, []byte{0, 5, 0, 8, 1, 2, 3, 4}), api.Form, 12},
		// Form: those inside are not as many, or not as it wants them.
		{api.Param, []byte{0, 8, 0, 4}, api.Form, 0},
		{api.Param, joined(ecn, []byte{0, 8, 0, 12}, ecn, ecn), api.Form, 4},
		{api.Param, []byte{0xc0, 1, 0, 8, 1, 2, 3, 4}, api.Form, 0},
		{api.Param, joined([]byte{0xc0, 1, 0, 24, 1, 2, 3, 4}, ip4Bytes, ip4Bytes), api.Form, 0},
		{api.Param, joined([]byte{0xc0, 1, 0, 12, 1, 2, 3, 4}, ecn), api.Form, 0},
		{api.Param, joined(ecn, add, []byte{0, 7, 0, 8, 10, 0, 0, 1}), api.Form, 4},
		{api.Param, joined(add, []byte{0, 4, 0, 8, 10, 0, 0, 1}), api.Form, 0},
		{api.Param, []byte{0xc0, 3, 0, 8, 1, 2, 3, 4}, api.Form, 0},
		{api.Cause, []byte{0, 8, 0, 4}, api.Form, 0},
		{api.Cause, []byte{0, 11, 0, 4}, api.Form, 0},
		{api.Cause, joined([]byte{0, 5, 0, 12}, ecn, ecn), api.Form, 0},
		// An error inside comes before that of their number, or of their types.
		{api.Param, joined([]byte{0, 8, 0, 12}, ecn, noForm), api.Form, 8},
		{api.Param, joined([]byte{0xc0, 1, 0, 13, 1, 2, 3, 4, 0x80, 0, 0, 5, 1}), api.Form, 8},
		{api.Param, joined(ecn, []byte{0, 8, 0, 24}, tooDeep), api.Depth, 20},
		// The first frame that has one.
		{api.Param, joined(ecn, []byte{0, 8, 0, 7, 0, 5, 0, 0}, noForm), api.Length, 8},
		{api.Cause, joined([]byte{0, 4, 0, 5, 1, 0, 0, 0}, noCount), api.Form, 0},
		{api.Cause, joined(noCount, []byte{0, 0}, []byte{0, 4, 0, 5, 1}), api.Count, 4},
		{api.Param, joined(tooDeep, noForm), api.Depth, 16},
		{api.Param, joined(noForm, tooDeep), api.Form, 0},
	} {
		got, err := node.Parse(x.class, x.b)
		if len(got) != 0 || err != error(api.Fault{Code: x.code, At: x.at}) || !errors.Is(err, x.code) {
			t.Errorf("%d: Parse(%d, %d): %v, %#v; want %d at %d", i, x.class, x.b, got, err, x.code, x.at)
		}
		reads(t, x.class, x.b)
	}
}

func TestParseOfLargeNodes(t *testing.T) {
	large := joined([]byte{0xff, 0xf0, 0xff, 0xff}, random(rand.New(rand.NewSource(2)), 65531))
	missing := joined([]byte{0, 2, 0xff, 0xfe, 0, 0, 0x7f, 0xfb}, make([]byte, 65526))
	around := joined([]byte{0, 8, 0xff, 0xff, 0xff, 0xf0, 0xff, 0xfb}, large[:65527])
	frames := make([]byte, mostBytes)
	for i := range mostBytes / 4 {
		copy(frames[4*i:], ecn)
	}
	for i, x := range []struct {
		b     []byte
		right bool
	}{
		{large, true}, {missing, true}, {around, true}, {joined(large, []byte{0}, large), true}, {frames, true},
		{large[:65534], false},
		{joined(missing[:7], []byte{0xfc}, missing[8:]), false},
		{joined(around[:7], []byte{0xfc}, around[8:]), false},
		{joined(around[:7], []byte{0xfa}, around[8:]), false},
	} {
		if got := reads(t, api.Cause, x.b); got != x.right {
			t.Error(i, got)
		}
	}
}

func TestParseOfShortStrings(t *testing.T) {
	for _, x := range []struct {
		class    int
		values   []byte
		most     int
		headings [][]byte
	}{
		{api.Param, []byte{0, 4, 8}, 9, [][]byte{nil, {0, 8, 0, 12}, {0, 8, 0, 16, 0, 8, 0, 12, 0, 8, 0, 8}}},
		{api.Param, []byte{0, 5, 8}, 9, [][]byte{{0xc0, 1, 0, 16, 1, 2, 3, 4}, {0xc0, 3, 0, 17, 1, 2, 3, 4}}},
		{api.Cause, []byte{0, 2, 10}, 6, [][]byte{{0, 2, 0, 10}, {0, 8, 0, 10}}},
	} {
		var try func(b []byte, left int)
		try = func(b []byte, left int) {
			reads(t, x.class, b)
			for _, v := range x.values {
				if left > 0 {
					try(append(b[:len(b):len(b)], v), left-1)
				}
			}
		}
		for _, heading := range x.headings {
			try(heading, x.most)
		}
	}
}

func TestParseOfChangedLists(t *testing.T) {
	r := rand.New(rand.NewSource(3))
	for range 10000 {
		for _, class := range classes {
			b := written(someList(r, class))
			if !reads(t, class, b) {
				t.Fatalf("no nodes with the bytes %d", b)
			}
			for range r.Intn(3) {
				if len(b) > 0 {
					b[r.Intn(len(b))] ^= 1 << r.Intn(8)
				}
			}
			reads(t, class, b)
			reads(t, class, b[:r.Intn(len(b)+1)])
			reads(t, class, append(b, make([]byte, r.Intn(5))...))
		}
	}
}

// P8.4

func TestSame(t *testing.T) {
	r := rand.New(rand.NewSource(4))
	a := with(8, both(0xc003, plain(2, 0, 0, 0, 1, 0, 7), plain(4)))
	for i, x := range []struct {
		a, b api.Node
		want bool
	}{
		{api.Node{}, api.Node{}, true},
		{api.Node{}, api.Node{Data: []byte{}, Kids: []api.Node{}}, true},
		{a, a, true},
		{a, copied([]api.Node{a})[0], true},
		{plain(1), plain(2), false},
		{plain(0x0101), plain(1), false},
		{plain(1), plain(1, 0), false},
		{plain(1, 0), plain(1, 0, 0), false},
		{plain(1, 1, 2), plain(1, 1, 3), false},
		{plain(1, 1, 2), plain(1, 2, 1), false},
		{with(8), with(8, api.Node{}), false},
		{with(8, plain(1)), with(8, plain(1), plain(1)), false},
		{with(8, plain(1), plain(2)), with(8, plain(2), plain(1)), false},
		{with(8, plain(1)), with(8, plain(1, 0)), false},
		{with(8, with(8, plain(1))), with(8, with(8)), false},
		{with(8, with(8, plain(1))), with(8, with(8), plain(1)), false},
		{a, with(8, both(0xc003, plain(2, 0, 0, 0, 1, 0, 8), plain(4))), false},
		{a, with(8, both(0xc003, plain(2, 0, 0, 0, 1, 0, 7), plain(3))), false},
		{plain(0, 0, 1, 0, 4), with(0, plain(1)), false}, // the same bytes
		{nested(1, 19, plain(1)), nested(1, 19, plain(2)), false},
		{nested(1, 19, plain(1)), nested(1, 18, plain(1)), false},
	} {
		if node.Same(x.a, x.b) != x.want || node.Same(x.b, x.a) != x.want {
			t.Errorf("%d: Same(%v, %v) is not %t", i, x.a, x.b, x.want)
		}
	}
	for range 2000 {
		l := []api.Node{someNode(r, api.Param, 1)}
		m := change(r, api.Param, copied(l))
		if node.Same(l[0], m[0]) != same(l[0], m[0]) || !node.Same(l[0], copied(l)[0]) {
			t.Fatalf("Same(%v, %v)", l[0], m[0])
		}
	}
}

func TestClone(t *testing.T) {
	r := rand.New(rand.NewSource(5))
	l := []api.Node{{}, plain(5, 1), with(1, both(2, plain(3, 4, 5)), api.Node{}), nested(8, 19, plain(1, 7)), ip6()}
	for range 500 {
		l = append(l, someNode(r, api.Cause, 1))
	}
	for i, n := range l {
		from := copied([]api.Node{n})[0]
		clone, other := node.Clone(from), node.Clone(from)
		if !same(clone, n) || !same(other, n) {
			t.Fatalf("%d: Clone(%v): %v, %v", i, n, clone, other)
		}
		scribble([]api.Node{clone})
		if !same(from, n) || !same(other, n) {
			t.Fatalf("%d: the clone of %v shares memory", i, n)
		}
		scribble([]api.Node{from})
		if !same(other, n) {
			t.Fatalf("%d: the clone of %v shares memory", i, n)
		}
	}
}

// step is what Walk yields.
type step struct {
	depth int
	n     api.Node
}

// steps returns all that an iterator yields.
func steps(s iter.Seq2[int, api.Node]) []step {
	var l []step
	for depth, n := range s {
		l = append(l, step{depth, n})
	}
	return l
}

// order returns what Walk yields by its definition.
func order(l []api.Node, depth int) []step {
	var all []step
	for _, n := range l {
		all = append(all, step{depth, n})
		all = append(all, order(n.Kids, depth+1)...)
	}
	return all
}

// sameSteps reports whether two lists of steps are the same.
func sameSteps(a, b []step) bool {
	return slices.EqualFunc(a, b, func(x, y step) bool { return x.depth == y.depth && same(x.n, y.n) })
}

// tree returns a list with nodes inside of each other.
func tree() []api.Node {
	return []api.Node{
		with(1, both(2, plain(3, 1), with(4, plain(5))), plain(6)),
		plain(7),
		with(8, with(9, plain(10))),
	}
}

func TestWalk(t *testing.T) {
	var types []uint16
	var depths []int
	for depth, n := range node.Walk(tree()...) {
		types, depths = append(types, n.Type), append(depths, depth)
	}
	if !slices.Equal(types, []uint16{1, 2, 3, 4, 5, 6, 7, 8, 9, 10}) || !slices.Equal(depths, []int{1, 2, 3, 3, 4, 2, 1, 1, 2, 3}) {
		t.Error(types, depths)
	}
	if got := steps(node.Walk()); len(got) != 0 {
		t.Error(got)
	}
	lists := [][]api.Node{nil, {{}}, tree(), {nested(8, mostDepth-1, plain(1))}, slices.Repeat([]api.Node{plain(1, 2)}, mostNodes)}
	r := rand.New(rand.NewSource(6))
	for range 300 {
		lists = append(lists, someList(r, api.Cause))
	}
	for i, l := range lists {
		s := node.Walk(l...)
		for range 2 {
			if got := steps(s); !sameSteps(got, order(l, 1)) {
				t.Fatalf("%d: Walk(%v): %v", i, l, got)
			}
		}
	}
}

func TestWalkIsStopped(t *testing.T) {
	s := node.Walk(tree()...)
	want := order(tree(), 1)
	for stop := range len(want) {
		var got []step
		s(func(depth int, n api.Node) bool {
			got = append(got, step{depth, n})
			return len(got) <= stop
		})
		if !sameSteps(got, want[:stop+1]) {
			t.Errorf("stopped after %d: %v", stop+1, got)
		}
	}
	count := 0
	for range s {
		for range s {
			count++
		}
	}
	if count != len(want)*len(want) {
		t.Error(count)
	}
}

func TestWalkSharesNoMemory(t *testing.T) {
	l := copied(tree())
	s := node.Walk(l...)
	scribble(l)
	want := order(tree(), 1)
	var got []step
	for depth, n := range s {
		got = append(got, step{depth, node.Clone(n)})
		scribble([]api.Node{n})
	}
	if !sameSteps(got, want) || !sameSteps(steps(s), want) {
		t.Error(got)
	}
	// What was yielded is not changed by what is done with the rest of it.
	all := steps(s)
	for i := range all {
		scribble([]api.Node{all[i].n})
		if !sameSteps(all[i+1:], want[i+1:]) {
			t.Fatal(i)
		}
	}
}

// P1, and the rules: arguments stay as they are, results are new memory, and
// the functions may be called concurrently.

func TestArgumentsStayAsTheyAre(t *testing.T) {
	r := rand.New(rand.NewSource(7))
	for i := range 500 {
		l := copied(someList(r, api.Param))
		if i%2 == 1 {
			l = copied(change(r, api.Param, l))
		}
		before := whole(l)
		b, err := node.Encode(api.Param, l...)
		node.Size(l...)
		for _, n := range l {
			node.Check(api.Param, n)
			node.Same(n, l[0])
			node.Clone(n)
		}
		steps(node.Walk(l...))
		if !sameLists(whole(l), before) {
			t.Fatalf("%v was changed", l)
		}
		if err != nil {
			continue
		}
		given := append(bytes.Clone(b), 0xaa, 0xbb)
		node.Parse(api.Param, given[:len(b)])
		if !bytes.Equal(given, append(bytes.Clone(b), 0xaa, 0xbb)) {
			t.Fatalf("%d was changed", b)
		}
		again, _ := node.Encode(api.Param, l...)
		scribble(l)
		if !bytes.Equal(again, b) {
			t.Fatalf("the bytes %d share memory with the nodes", b)
		}
	}
}

func TestParsedNodesShareNoMemory(t *testing.T) {
	r := rand.New(rand.NewSource(8))
	for range 500 {
		l := someList(r, api.Cause)
		b := written(l)
		got, _ := node.Parse(api.Cause, b)
		for i := range b {
			b[i] ^= 0xff
		}
		if !sameLists(got, l) {
			t.Fatalf("%v shares memory with the bytes", got)
		}
		for i := range got {
			scribble(got[i : i+1 : i+1])
			if !sameLists(got[i+1:], l[i+1:]) {
				t.Fatalf("%v: nodes share memory", l)
			}
		}
	}
	// What is in front of the nodes inside does not reach into them.
	got, _ := node.Parse(api.Param, written([]api.Node{both(0xc001, ip4())}))
	data := got[0].Data
	_ = append(data, 9, 9, 9, 9, 9, 9, 9, 9)
	if !sameLists(got, []api.Node{both(0xc001, ip4())}) {
		t.Error(got)
	}
}

func TestAnyArguments(t *testing.T) {
	r := rand.New(rand.NewSource(9))
	for range 3000 {
		b := random(r, r.Intn(40))
		for _, class := range classes {
			reads(t, class, b)
		}
	}
	full := api.Node{Type: 8}
	for range 50 {
		full.Kids = append(full.Kids, nested(8, mostDepth-2, plain(1, random(r, 900)...)))
	}
	encodes(t, api.Param, []api.Node{full})
	encodes(t, api.Cause, []api.Node{full})
	if !node.Same(full, node.Clone(full)) || len(steps(node.Walk(full))) != 951 {
		t.Error("a large node")
	}
}

func TestConcurrently(t *testing.T) {
	l := []api.Node{with(8, both(0xc003, plain(2, 0, 0, 0, 1, 0, 7))), both(0xc001, ip4())}
	want := written(l)
	var group sync.WaitGroup
	for range 8 {
		group.Go(func() {
			for range 50 {
				b, err := node.Encode(api.Param, l...)
				back, fault := node.Parse(api.Param, want)
				if !bytes.Equal(b, want) || !sameLists(back, l) || err != nil || fault != nil {
					t.Error(b, err, back, fault)
				}
				if node.Size(l...) != len(want) || len(steps(node.Walk(l...))) != 5 {
					t.Error("Size or Walk")
				}
			}
		})
	}
	group.Wait()
}
