package address_test

import (
	"bytes"
	"fmt"
	"math/rand"
	"net/netip"
	"slices"
	"strings"
	"sync"
	"testing"

	"wharf/address"
	"wharf/api"
	"wharf/node"
)

// plain returns a node with some bytes and none inside.
func plain(t uint16, data ...byte) api.Node { return api.Node{Type: t, Data: data} }

// with returns a node with some nodes inside and no bytes in front of them.
func with(t uint16, kids ...api.Node) api.Node { return api.Node{Type: t, Kids: kids} }

// both returns a node with the bytes 1, 2, 3 and 4 and some nodes inside.
func both(t uint16, kids ...api.Node) api.Node {
	return api.Node{Type: t, Data: []byte{1, 2, 3, 4}, Kids: kids}
}

// ip4 and ip6 return an address with a last byte.
func ip4(last byte) api.Node { return plain(5, 10, 0, 0, last) }
func ip6(last byte) api.Node {
	return plain(6, 0x20, 1, 0x0d, 0xb8, 0, 0, 0, 0, 0, 0, 0, 0, 0x0a, 0xbc, 0, last)
}

// same reports whether two nodes are the same.
func same(a, b api.Node) bool {
	return a.Type == b.Type && bytes.Equal(a.Data, b.Data) && sameLists(a.Kids, b.Kids)
}

// sameLists reports whether two lists have the same nodes.
func sameLists(a, b []api.Node) bool { return slices.EqualFunc(a, b, same) }

// zero reports whether a node is the zero Node.
func zero(n api.Node) bool { return n.Type == 0 && len(n.Data) == 0 && len(n.Kids) == 0 }

// copied returns the same nodes in new memory, with unused capacity that is not
// zero.
func copied(l []api.Node) []api.Node {
	if l == nil {
		return nil
	}
	c := make([]api.Node, len(l), len(l)+1)
	c[:len(l)+1][len(l)] = plain(0xcccc, 0xdd)
	for i, n := range l {
		data := append(bytes.Clone(n.Data), 0xaa, 0xbb)
		c[i] = api.Node{Type: n.Type, Data: data[:len(n.Data)], Kids: copied(n.Kids)}
	}
	return c
}

// whole returns the nodes with their unused capacity as parts of them.
func whole(l []api.Node) []api.Node {
	c := slices.Clone(l[:cap(l)])
	for i, n := range c {
		c[i].Data, c[i].Kids = bytes.Clone(n.Data[:cap(n.Data)]), whole(n.Kids)
	}
	return c
}

// scribble changes all of the memory of nodes.
func scribble(l []api.Node) {
	l = l[:cap(l)]
	for i, n := range l {
		invert(n.Data)
		scribble(n.Kids)
		l[i] = plain(^n.Type, 0xee)
	}
}

// invert changes all of the memory of bytes.
func invert(b []byte) {
	b = b[:cap(b)]
	for i := range b {
		b[i] ^= 0xff
	}
}

// wrong are nodes that are no addresses.
func wrong() []api.Node {
	return []api.Node{
		{}, plain(5), plain(6), plain(5, 1, 2, 3), plain(5, 1, 2, 3, 4, 5), plain(5, make([]byte, 16)...),
		plain(6, 1, 2, 3, 4), plain(6, make([]byte, 15)...), plain(6, make([]byte, 17)...),
		plain(0, 1, 2, 3, 4), plain(4, 1, 2, 3, 4), plain(7, 1, 2, 3, 4), plain(7, make([]byte, 16)...),
		plain(0x8005, 1, 2, 3, 4), plain(0x0500, 1, 2, 3, 4), plain(0x8006, make([]byte, 16)...),
		plain(11, 1, 2, 3, 4), plain(12, 0, 5, 0, 6),
		both(5, ip4(1)), {Type: 6, Data: make([]byte, 16), Kids: []api.Node{{}}}, with(5, ip4(1)), with(8, ip4(1)),
	}
}

// P9.1

func TestOf(t *testing.T) {
	for n := range 40 {
		b := make([]byte, n, n+3)
		for i := range b {
			b[i] = byte(i + 1)
		}
		got, ok := address.Of(b)
		want := map[int]api.Node{4: plain(5, b...), 16: plain(6, b...)}[n]
		if ok != (n == 4 || n == 16) || !same(got, want) {
			t.Errorf("Of(%d): %v, %v", b, got, ok)
		}
	}
	for _, n := range []int{64, 260, 272, 65531, 65540} {
		if got, ok := address.Of(make([]byte, n)); ok || !zero(got) {
			t.Errorf("Of %d bytes: %v, %v", n, got.Type, ok)
		}
	}
	if got, ok := address.Of(nil); ok || !zero(got) {
		t.Errorf("Of(nil): %v, %v", got, ok)
	}
}

func TestBytes(t *testing.T) {
	for _, n := range []api.Node{ip4(1), ip6(2), plain(5, 0, 0, 0, 0), plain(6, make([]byte, 16)...), {Type: 5, Data: []byte{1, 2, 3, 4}, Kids: []api.Node{}}} {
		if got, ok := address.Bytes(n); !ok || !bytes.Equal(got, n.Data) {
			t.Errorf("Bytes(%v): %d, %v", n, got, ok)
		}
	}
	for _, n := range wrong() {
		if got, ok := address.Bytes(n); ok || len(got) != 0 {
			t.Errorf("Bytes(%v): %d, %v", n, got, ok)
		}
	}
}

func TestBytesOfAllTypes(t *testing.T) {
	for kind := range 1 << 16 {
		for _, size := range []int{4, 16} {
			_, ok := address.Bytes(plain(uint16(kind), make([]byte, size)...))
			if ok != (kind == 5 && size == 4 || kind == 6 && size == 16) {
				t.Fatalf("Bytes of the type %d with %d bytes: %v", kind, size, ok)
			}
		}
	}
}

func TestOfAndBytesCopy(t *testing.T) {
	for _, size := range []int{4, 16} {
		b := make([]byte, size, size+2)
		n, _ := address.Of(b)
		got, _ := address.Bytes(n)
		invert(b)
		if !bytes.Equal(n.Data, make([]byte, size)) {
			t.Errorf("the address %v shares memory with the bytes", n)
		}
		invert(got)
		if !bytes.Equal(n.Data, make([]byte, size)) {
			t.Errorf("the bytes share memory with the address %v", n)
		}
	}
}

// P9.2 and P9.5

// texts are addresses with their texts.
var texts = []struct {
	text string
	data []byte
}{
	{"10.0.0.1", []byte{10, 0, 0, 1}},
	{"0.0.0.0", []byte{0, 0, 0, 0}},
	{"255.255.255.255", []byte{255, 255, 255, 255}},
	{"1.20.99.100", []byte{1, 20, 99, 100}},
	{"0:0:0:0:0:0:0:0", make([]byte, 16)},
	{"0:0:0:0:0:0:0:1", append(make([]byte, 15), 1)},
	{"100:0:0:0:0:0:0:0", append([]byte{1}, make([]byte, 15)...)},
	{"2001:db8:0:0:0:0:abc:f", []byte{0x20, 1, 0x0d, 0xb8, 0, 0, 0, 0, 0, 0, 0, 0, 0x0a, 0xbc, 0, 0x0f}},
	{"ffff:ffff:ffff:ffff:ffff:ffff:ffff:ffff", bytes.Repeat([]byte{255}, 16)},
	{"0:0:0:0:0:ffff:a00:1", []byte{0, 0, 0, 0, 0, 0, 0, 0, 0, 0, 0xff, 0xff, 10, 0, 0, 1}},
	{"123:4567:89ab:cdef:10:9:90:1000", []byte{0x01, 0x23, 0x45, 0x67, 0x89, 0xab, 0xcd, 0xef, 0, 0x10, 0, 9, 0, 0x90, 0x10, 0}},
}

func TestText(t *testing.T) {
	for _, x := range texts {
		n, ok := address.Of(x.data)
		if got := address.Text(n); !ok || got != x.text {
			t.Errorf("Text(%v): %q; want %q", n, got, x.text)
		}
		if got, ok := address.Parse(x.text); !ok || !same(got, n) {
			t.Errorf("Parse(%q): %v, %v; want %v", x.text, got, ok, n)
		}
	}
	for _, n := range wrong() {
		if got := address.Text(n); got != "" {
			t.Errorf("Text(%v): %q", n, got)
		}
	}
}

func TestParseOfOtherStrings(t *testing.T) {
	for _, s := range []string{
		"", " ", ".", "...", ":", "::", "::1", "1::2", ":::::::", "0", "1.2.3", "1.2.3.4.5", "1.2.3.4.", ".1.2.3.4", "1..2.3", "1.2.3.",
		"256.0.0.0", "0.0.0.256", "1.2.3.1000", "1.2.3.4294967297", "1.2.3.18446744073709551617", "01.2.3.4", "1.2.3.00", "1.2.3.04",
		"+1.2.3.4", "-1.2.3.4", "1.2.3.-0", "1.2.3.4 ", " 1.2.3.4", "1. 2.3.4", "1.2.3.4\n", "1.2.3.4\x00", "1.2.3.a", "0x1.2.3.4", "1.2.3.1e1",
		"1,2,3,4", "1:2:3:4", "1.2.3:4", "1_0.2.3.4", "１.2.3.4", "1.2.3.٤",
		"1:2:3:4:5:6:7", "1:2:3:4:5:6:7:8:9", "1:2:3:4:5:6:7:", ":1:2:3:4:5:6:7", "1:2:3:4:5:6:7:8:", ":1:2:3:4:5:6:7:8", "1:2:3::5:6:7:8",
		"10000:0:0:0:0:0:0:0", "0:0:0:0:0:0:0:10000", "01:2:3:4:5:6:7:8", "1:2:3:4:5:6:7:00", "1:2:3:4:5:6:7:0008", "0000:0:0:0:0:0:0:0",
		"A:2:3:4:5:6:7:8", "1:2:3:4:5:6:7:aB", "g:2:3:4:5:6:7:8", "1:2:3:4:5:6:7:g", "0x1:2:3:4:5:6:7:8", "1:2:3:4:5:6:7:+8", "1:2:3:4:5:6:7:-8",
		"1.2.3.4.5.6.7.8", "1:2:3:4:5:6:7.8", "[1:2:3:4:5:6:7:8]", "1:2:3:4:5:6:7:8%1", "0:0:0:0:0:ffff:10.0.0.1", "1:2:3:4:5:6:7:8 ", "1:2:3:4:5:6: 7:8",
		"10.0.0.1:80", "10.0.0.1/8", "localhost", "\xff.\xff.\xff.\xff", strings.Repeat("1.", 100000), strings.Repeat(":", 100000), strings.Repeat("1", 100000),
	} {
		if got, ok := address.Parse(s); ok || !zero(got) {
			t.Errorf("Parse(%.50q): %v, %v", s, got, ok)
		}
	}
}

// spelled returns the text of bytes by its definition.
func spelled(b []byte) string {
	if len(b) == 4 {
		return fmt.Sprintf("%d.%d.%d.%d", b[0], b[1], b[2], b[3])
	}
	var words []string
	for i := 0; i < 16; i += 2 {
		words = append(words, fmt.Sprintf("%x", 256*int(b[i])+int(b[i+1])))
	}
	return strings.Join(words, ":")
}

// someBytes returns the bytes of a random address, of which many are small.
func someBytes(r *rand.Rand) []byte {
	b := make([]byte, []int{4, 16}[r.Intn(2)])
	for i := range b {
		b[i] = []byte{0, 1, 15, 16, byte(r.Intn(256)), byte(r.Intn(256))}[r.Intn(6)]
	}
	return b
}

func TestParseInvertsText(t *testing.T) {
	r := rand.New(rand.NewSource(1))
	for range 5000 {
		b := someBytes(r)
		n, _ := address.Of(b)
		text := address.Text(n)
		if text != spelled(b) {
			t.Fatalf("Text(%v): %q; want %q", n, text, spelled(b))
		}
		if back, ok := address.Parse(text); !ok || !same(back, n) {
			t.Fatalf("Parse(%q): %v, %v; want %v", text, back, ok, n)
		}
	}
}

func TestAllNumbers(t *testing.T) {
	for x := range 1 << 16 {
		for _, b := range [][]byte{{byte(x >> 8), 7, 0, byte(x)}, append(make([]byte, 14), byte(x>>8), byte(x))} {
			n, _ := address.Of(b)
			back, ok := address.Parse(spelled(b))
			if address.Text(n) != spelled(b) || !ok || !same(back, n) {
				t.Fatalf("%d: %q, %v, %v", b, address.Text(n), back, ok)
			}
		}
	}
}

// A string that was changed has the address of which it is the text, if there
// is one; netip finds the addresses of more strings than those.
func TestParseOfChangedTexts(t *testing.T) {
	r := rand.New(rand.NewSource(2))
	found := 0
	for range 20000 {
		s := []byte(spelled(someBytes(r)))
		for range 1 + r.Intn(2) {
			at := r.Intn(len(s))
			letter := "0123456789abcdefABF.:+-_ xg"[r.Intn(27)]
			switch r.Intn(3) {
			case 0:
				s[at] = letter
			case 1:
				s = slices.Insert(s, at, letter)
			case 2:
				s = slices.Delete(s, at, at+1)
			}
		}
		var want api.Node
		a, err := netip.ParseAddr(string(s))
		if err == nil && a.Zone() == "" && spelled(a.AsSlice()) == string(s) {
			want, _ = address.Of(a.AsSlice())
			found++
		}
		got, ok := address.Parse(string(s))
		if ok != !zero(want) || !same(got, want) {
			t.Fatalf("Parse(%q): %v, %v; want %v", s, got, ok, want)
		}
	}
	if found < 1000 || found > 19000 {
		t.Error(found, "of the strings were texts")
	}
}

// P9.3 and P9.5

func TestHost(t *testing.T) {
	for _, s := range []string{"a", "!", "~", "example.org", "10.0.0.1", "A_b-c:1/2", strings.Repeat("x", 254), strings.Repeat("~", 255)} {
		want := plain(11, append([]byte(s), 0)...)
		n, ok := address.Host(s)
		if !ok || !same(n, want) {
			t.Errorf("Host(%q): %v, %v", s, n, ok)
		}
		if name, ok := address.Name(n); !ok || name != s {
			t.Errorf("Name(%v): %q, %v; want %q", n, name, ok, s)
		}
		if err := node.Check(api.Param, n); err != nil {
			t.Errorf("Host(%q): %v is not right: %v", s, n, err)
		}
	}
}

func TestHostOfOtherStrings(t *testing.T) {
	for _, s := range []string{
		"", "\x00", "a\x00", "\x00a", "a b", " a", "a ", "a\n", "\t", "a\x1f", "a\x7f", "\x7f", "a\x80", "\xff", "\xc3", "é", "ab\u00e9c", "日本", "a\ufffd",
		"Ā", "š", "\U00010041", strings.Repeat("x", 256), strings.Repeat("x", 511), strings.Repeat("x", 100000), strings.Repeat("x", 254) + " ",
	} {
		if n, ok := address.Host(s); ok || !zero(n) {
			t.Errorf("Host(%.40q): %v, %v", s, n.Type, ok)
		}
		if name, ok := address.Name(plain(11, append([]byte(s), 0)...)); ok || name != "" {
			t.Errorf("Name of %.40q: %.40q, %v", s, name, ok)
		}
	}
}

func TestHostOfAllBytes(t *testing.T) {
	for x := range 256 {
		for _, s := range []string{string([]byte{byte(x)}), string([]byte{'a', byte(x)}), string([]byte{byte(x), 'a'})} {
			if _, ok := address.Host(s); ok != (x >= 33 && x <= 126) {
				t.Errorf("Host(%q): %v", s, ok)
			}
		}
	}
}

func TestNameOfOtherNodes(t *testing.T) {
	for _, n := range []api.Node{
		{}, plain(11), plain(11, 0), plain(11, 'a'), plain(11, 'a', 'b'), plain(11, 'a', 0, 0), plain(11, 0, 0), plain(11, 'a', 0, 'b', 0), plain(11, 'a', 0, 'b'), plain(11, 0, 'a', 0),
		plain(11, 'a', ' ', 0), plain(11, 'a', 127, 0), plain(11, 'a', 200, 0), plain(0, 'a', 0), plain(10, 'a', 0), plain(12, 'a', 0), plain(5, 'a', 'b', 'c', 0), plain(0x800b, 'a', 0),
		plain(11, bytes.Repeat([]byte{'x'}, 255)...), plain(11, append(bytes.Repeat([]byte{'x'}, 256), 0)...), plain(11, bytes.Repeat([]byte{'x'}, 100000)...),
		{Type: 11, Data: []byte{'a', 0}, Kids: []api.Node{{}}}, with(11, plain(11, 'a', 0)), with(8, plain(11, 'a', 0)),
	} {
		if name, ok := address.Name(n); ok || name != "" {
			t.Errorf("Name(%.40v): %q, %v", n, name, ok)
		}
	}
	empty := api.Node{Type: 11, Data: []byte{'a', 0}, Kids: []api.Node{}}
	if name, ok := address.Name(empty); !ok || name != "a" {
		t.Errorf("Name(%v): %q, %v", empty, name, ok)
	}
}

func TestNameInvertsHost(t *testing.T) {
	r := rand.New(rand.NewSource(3))
	for range 2000 {
		s := make([]byte, r.Intn(300))
		for i := range s {
			s[i] = byte(33 + r.Intn(94))
		}
		if len(s) > 0 && r.Intn(4) == 0 {
			s[r.Intn(len(s))] = byte(r.Intn(256))
		}
		fits := len(s) >= 1 && len(s) <= 255 && !slices.ContainsFunc(s, func(x byte) bool { return x < 33 || x > 126 })
		n, ok := address.Host(string(s))
		name, back := address.Name(n)
		if ok != fits || back != fits || fits && (name != string(s) || !same(n, plain(11, append(s, 0)...))) {
			t.Fatalf("Host(%q): %v, %v; Name: %q, %v", s, n, ok, name, back)
		}
	}
}

// P9.4

func TestAll(t *testing.T) {
	for i, x := range []struct{ l, want []api.Node }{
		{nil, nil},
		{wrong()[:18], nil},
		{[]api.Node{ip4(1)}, []api.Node{ip4(1)}},
		{[]api.Node{ip6(2), ip4(1), ip6(2), plain(7, 1, 2, 3, 4), ip4(3)}, []api.Node{ip6(2), ip4(1), ip6(2), ip4(3)}},
		{[]api.Node{ip4(1), both(0xc001, ip6(2)), both(0xc002, ip4(3)), ip4(4)}, []api.Node{ip4(1), ip6(2), ip4(3), ip4(4)}},
		{[]api.Node{both(0xc004, ip6(1)), with(8, ip4(2)), with(8, with(8, with(8, ip4(3))))}, []api.Node{ip6(1), ip4(2), ip4(3)}},
		{[]api.Node{with(8, plain(0x8000)), with(8, plain(5, 1, 2, 3))}, nil},
		{[]api.Node{with(9, ip4(1), with(9, ip4(2), ip6(3)), ip6(4)), ip4(5)}, []api.Node{ip4(1), ip4(2), ip6(3), ip6(4), ip4(5)}},
		// The node in front is none, as it has nodes inside, but the one inside is.
		{[]api.Node{both(5, ip6(1))}, []api.Node{ip6(1)}},
	} {
		if got := address.All(x.l...); !sameLists(got, x.want) {
			t.Errorf("%d: All(%v): %v; want %v", i, x.l, got, x.want)
		}
	}
}

// The nodes inside an error indication are error causes, and not parameters:
// there, the type 6 is that of an unrecognized chunk. Those inside error causes
// are parameters again.
func TestAllTellsErrorCausesFromParameters(t *testing.T) {
	chunk := plain(6, make([]byte, 16)...)
	for i, x := range []struct{ l, want []api.Node }{
		{[]api.Node{both(0xc003, chunk)}, nil},
		{[]api.Node{chunk, both(0xc003, chunk), ip4(1)}, []api.Node{chunk, ip4(1)}},
		{[]api.Node{both(0xc003, with(5, ip4(1)), chunk, with(11, ip4(2), ip6(3)), with(0xa0, ip6(4)))}, []api.Node{ip4(1), ip4(2), ip6(3), ip6(4)}},
		{[]api.Node{with(8, both(0xc003, chunk, with(8, both(0xc003, chunk, with(5, chunk)))))}, []api.Node{chunk}},
		{[]api.Node{both(0xc003, chunk, with(8, ip4(1), both(0xc001, ip6(2)), both(0xc003, chunk)), chunk), ip6(3)}, []api.Node{ip4(1), ip6(2), ip6(3)}},
	} {
		if got := address.All(x.l...); !sameLists(got, x.want) {
			t.Errorf("%d: All(%v): %v; want %v", i, x.l, got, x.want)
		}
	}
	right := both(0xc003, with(5, ip4(1)), chunk, with(11, ip4(2), both(0xc001, ip6(3))))
	if err := node.Check(api.Param, right); err != nil {
		t.Errorf("%v is not right: %v", right, err)
	}
}

// collected returns the addresses of a list of a class by their definition.
func collected(class int, l []api.Node) []api.Node {
	var found []api.Node
	for _, n := range l {
		size := map[uint16]int{5: 4, 6: 16}[n.Type]
		if class == api.Param && size > 0 && len(n.Data) == size && len(n.Kids) == 0 {
			found = append(found, n)
		}
		below := api.Param
		if class == api.Param && n.Type == 0xc003 {
			below = api.Cause
		}
		found = append(found, collected(below, n.Kids)...)
	}
	return found
}

// someList returns random nodes, one in the other, of which many are addresses.
func someList(r *rand.Rand, depth int) []api.Node {
	var l []api.Node
	for range r.Intn(5) {
		n := ip4(byte(r.Intn(256)))
		if r.Intn(2) == 0 {
			n = ip6(byte(r.Intn(256)))
		}
		if r.Intn(8) == 0 {
			n.Data = n.Data[:r.Intn(len(n.Data))]
		}
		if r.Intn(3) == 0 {
			n.Type = []uint16{5, 6, 8, 11, 0xc001, 0xc003, 0xc003, 0x4003}[r.Intn(8)]
		}
		if depth > 0 && n.Type > 6 {
			n.Kids = someList(r, depth-1)
		}
		l = append(l, n)
	}
	return l
}

func TestRandomLists(t *testing.T) {
	r := rand.New(rand.NewSource(4))
	for range 2000 {
		l := someList(r, 5)
		if got, want := address.All(l...), collected(api.Param, l); !sameLists(got, want) {
			t.Fatalf("All(%v): %v; want %v", l, got, want)
		}
		var want []byte
		for _, kind := range []uint16{5, 6} {
			if slices.ContainsFunc(l, func(n api.Node) bool { return n.Type == kind && len(collected(api.Param, []api.Node{n})) == 1 }) {
				want = append(want, 0, byte(kind))
			}
		}
		if want == nil {
			want = []byte{0, 5, 0, 6}
		}
		if got := address.Types(l...); !same(got, plain(12, want...)) {
			t.Fatalf("Types(%v): %v; want %d", l, got, want)
		}
	}
}

// Nodes have at most 1000 nodes inside, at most 20 deep, where they are walked
// through.
func TestAllOfLargeLists(t *testing.T) {
	deep := ip4(7)
	for range 20 {
		deep = with(8, deep, ip6(1))
	}
	if got := address.All(deep); !sameLists(got, append([]api.Node{ip4(7)}, slices.Repeat([]api.Node{ip6(1)}, 20)...)) {
		t.Errorf("All of a deep node: %v", got)
	}
	wide := slices.Repeat([]api.Node{ip4(1), ip6(2)}, 500)
	if got := address.All(with(9, wide...), ip4(3)); !sameLists(got, append(slices.Clone(wide), ip4(3))) {
		t.Errorf("All of a wide node: %d addresses", len(got))
	}
	if got := address.Types(wide...); !same(got, plain(12, 0, 5, 0, 6)) {
		t.Errorf("Types of a long list: %v", got)
	}
}

func TestTypes(t *testing.T) {
	only4, only6, all := plain(12, 0, 5), plain(12, 0, 6), plain(12, 0, 5, 0, 6)
	for i, x := range []struct {
		l    []api.Node
		want api.Node
	}{
		{nil, all},
		{wrong(), all},
		{[]api.Node{ip4(1)}, only4},
		{[]api.Node{ip6(1)}, only6},
		{[]api.Node{ip4(1), ip6(2)}, all},
		{[]api.Node{ip6(2), ip4(1)}, all},
		{[]api.Node{ip6(2), ip6(2), ip4(1), ip6(3), ip4(1)}, all},
		{[]api.Node{ip4(1), ip4(1), ip4(2)}, only4},
		{append(wrong(), ip6(1), ip6(2)), only6},
		// Those inside others do not count.
		{[]api.Node{both(0xc001, ip6(1)), ip4(1)}, only4},
		{[]api.Node{with(8, ip4(1)), ip6(1)}, only6},
		{[]api.Node{with(8, ip4(1))}, all},
		{[]api.Node{both(0xc001, ip6(1))}, all},
	} {
		got := address.Types(x.l...)
		if !same(got, x.want) {
			t.Errorf("%d: Types(%v): %v; want %v", i, x.l, got, x.want)
		}
		if err := node.Check(api.Param, got); err != nil {
			t.Errorf("%d: Types(%v): %v is not right: %v", i, x.l, got, err)
		}
		// Nothing that is done with a result reaches a later one.
		scribble([]api.Node{got})
		if got := address.Types(x.l...); !same(got, x.want) {
			t.Errorf("%d: Types(%v): %v after a result was changed", i, x.l, got)
		}
	}
}

// P1, and the rules: arguments stay as they are, results are new memory, and
// the functions may be called concurrently.

func TestArgumentsStayAsTheyAre(t *testing.T) {
	r := rand.New(rand.NewSource(5))
	for range 500 {
		l := copied(someList(r, 4))
		before := whole(l)
		all, types := address.All(l...), address.Types(l...)
		for _, n := range l {
			address.Bytes(n)
			address.Text(n)
			address.Name(n)
			address.Of(n.Data)
		}
		if !sameLists(whole(l), before) {
			t.Fatalf("%v was changed", l)
		}
		want := copied(all)
		for i := range all {
			scribble(all[i : i+1 : i+1])
			if !sameLists(all[i+1:], want[i+1:]) || !sameLists(whole(l), before) {
				t.Fatalf("the addresses of %v share memory", l)
			}
		}
		all = address.All(l...)
		scribble(l)
		if !sameLists(all, want) || types.Type != 12 {
			t.Fatalf("%v shares memory with the list", all)
		}
	}
}

func TestAnyArguments(t *testing.T) {
	r := rand.New(rand.NewSource(6))
	for range 5000 {
		b := make([]byte, r.Intn(24))
		r.Read(b)
		n := plain([]uint16{5, 6, 11, 12, uint16(r.Intn(1 << 16))}[r.Intn(5)], b...)
		got, ok := address.Bytes(n)
		of, any := address.Of(b)
		if want := any && of.Type == n.Type; ok != want || ok && !bytes.Equal(got, b) || (address.Text(n) != "") != want {
			t.Fatalf("%v: %d, %v", n, got, ok)
		}
		if back, ok := address.Parse(string(b)); ok && address.Text(back) != string(b) {
			t.Fatalf("Parse(%q): %v", b, back)
		}
		if name, ok := address.Name(n); ok {
			if back, _ := address.Host(name); !same(back, n) {
				t.Fatalf("Name(%v): %q", n, name)
			}
		}
	}
}

func TestConcurrently(t *testing.T) {
	l := []api.Node{ip4(1), both(0xc001, ip6(2))}
	var group sync.WaitGroup
	for range 8 {
		group.Go(func() {
			for range 50 {
				n, ok := address.Parse("10.0.0.1")
				host, _ := address.Host("a")
				name, named := address.Name(host)
				if !ok || !named || !same(n, ip4(1)) || name != "a" || address.Text(n) != "10.0.0.1" {
					t.Error(n, ok, host, name)
				}
				if all := address.All(l...); !sameLists(all, []api.Node{ip4(1), ip6(2)}) || !same(address.Types(l...), plain(12, 0, 5)) {
					t.Error(all)
				}
			}
		})
	}
	group.Wait()
}
