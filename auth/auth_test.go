package auth_test

import (
	"bytes"
	"encoding/binary"
	"fmt"
	"math"
	"math/rand"
	"slices"
	"sync"
	"testing"

	"wharf/api"
	"wharf/auth"
	"wharf/chunk"
	"wharf/pad"
)

// mostCode is the greatest number of bytes of a code: a chunk has at most 65535
// bytes, and eight of them are in front of the code.
const mostCode = 65527

// shorts are numbers of 2 bytes, with those at the bounds.
var shorts = []uint16{0, 1, 2, 3, 127, 128, 255, 256, 258, 0x0102, 0x7fff, 0x8000, 0xff00, 0xffff}

// plain returns a chunk without flags and without nodes inside, flagged the same
// chunk with flags, and with the same one with nodes inside.
func plain(t byte, data ...byte) api.Chunk { return api.Chunk{Type: t, Data: data} }

func flagged(flags byte, c api.Chunk) api.Chunk {
	c.Flags = flags
	return c
}

func with(c api.Chunk, kids ...api.Node) api.Chunk {
	c.Kids = kids
	return c
}

// leaf returns a node with some bytes and none inside, and nested so many nodes
// of the type 8, one in the other.
func leaf(t uint16, data ...byte) api.Node { return api.Node{Type: t, Data: data} }

func nested(count int) api.Node {
	n := leaf(8)
	for range count - 1 {
		n = api.Node{Type: 8, Kids: []api.Node{n}}
	}
	return n
}

// long returns n bytes that are not 0 and differ from those next to them.
func long(n int) []byte {
	b := make([]byte, n)
	for i := range b {
		b[i] = byte(i%255 + 1)
	}
	return b
}

// written returns what has the bytes of an auth chunk, be it one or not.
func written(key, algorithm uint16, code ...byte) api.Chunk {
	data := binary.BigEndian.AppendUint16(nil, key)
	data = binary.BigEndian.AppendUint16(data, algorithm)
	return plain(15, append(data, code...)...)
}

// isAuth reports whether a chunk is an auth chunk, by the definition.
func isAuth(c api.Chunk) bool {
	return c.Type == 15 && c.Flags == 0 && len(c.Data) > 4 && len(c.Data) <= 4+mostCode && len(c.Kids) == 0
}

// blanked returns the blank auth chunk of an auth chunk, by the definition.
func blanked(c api.Chunk) api.Chunk {
	return plain(15, append(bytes.Clone(c.Data[:4]), make([]byte, len(c.Data)-4)...)...)
}

// sameNodes and same report whether nodes and chunks are the same, by the
// definition.
func sameNodes(a, b api.Node) bool {
	return a.Type == b.Type && bytes.Equal(a.Data, b.Data) && slices.EqualFunc(a.Kids, b.Kids, sameNodes)
}

func same(a, b api.Chunk) bool {
	return a.Type == b.Type && a.Flags == b.Flags && bytes.Equal(a.Data, b.Data) && slices.EqualFunc(a.Kids, b.Kids, sameNodes)
}

func isZero(c api.Chunk) bool { return same(c, api.Chunk{}) }

// padded returns bytes with their padding.
func padded(b []byte) []byte {
	b = bytes.Clone(b)
	for len(b)%4 > 0 {
		b = append(b, 0)
	}
	return b
}

// bytesOfNodes and bytesOf return the bytes of a list of nodes and of a chunk, by
// the definition.
func bytesOfNodes(l []api.Node) []byte {
	var b []byte
	for _, n := range l {
		value := append(bytes.Clone(n.Data), bytesOfNodes(n.Kids)...)
		b = binary.BigEndian.AppendUint16(padded(b), n.Type)
		b = binary.BigEndian.AppendUint16(b, uint16(4+len(value)))
		b = append(b, value...)
	}
	return b
}

func bytesOf(c api.Chunk) []byte {
	value := append(bytes.Clone(c.Data), bytesOfNodes(c.Kids)...)
	b := binary.BigEndian.AppendUint16([]byte{c.Type, c.Flags}, uint16(4+len(value)))
	return append(b, value...)
}

// shown returns the beginning of the text of a value, which may be long.
func shown(x any) string {
	text := fmt.Sprint(x)
	return text[:min(200, len(text))]
}

// makes checks Make against its definition, and that Of inverts it. It reports
// whether there is a chunk.
func makes(t *testing.T, key, algorithm uint16, code ...byte) bool {
	t.Helper()
	want := written(key, algorithm, code...)
	there := isAuth(want)
	if !there {
		want = api.Chunk{}
	}
	c, ok := auth.Make(key, algorithm, code)
	if ok != there || !same(c, want) || ok && chunk.Check(c) != nil {
		t.Fatalf("Make(%d, %d, %s): %s, %t; want %s, %t", key, algorithm, shown(code), shown(c), ok, shown(want), there)
	}
	if !ok {
		key, algorithm, code = 0, 0, nil
	}
	k, a, b, has := auth.Of(c)
	if has != ok || k != key || a != algorithm || !bytes.Equal(b, code) {
		t.Fatalf("Of(%s): %d, %d, %s, %t; want %d, %d, %s", shown(c), k, a, shown(b), has, key, algorithm, shown(code))
	}
	return ok
}

// reads checks Of, Blank and Input without other chunks against their
// definitions. It reports whether a chunk is an auth chunk.
func reads(t *testing.T, c api.Chunk) bool {
	t.Helper()
	there := isAuth(c)
	var key, algorithm uint16
	var code, input []byte
	var blank api.Chunk
	if there {
		key, algorithm, code = binary.BigEndian.Uint16(c.Data), binary.BigEndian.Uint16(c.Data[2:]), c.Data[4:]
		blank = blanked(c)
		input = padded(bytesOf(blank))
	}
	if k, a, b, ok := auth.Of(c); ok != there || k != key || a != algorithm || !bytes.Equal(b, code) {
		t.Fatalf("Of(%s): %d, %d, %s, %t; want %d, %d, %s, %t", shown(c), k, a, shown(b), ok, key, algorithm, shown(code), there)
	}
	if x, ok := auth.Blank(c); ok != there || !same(x, blank) {
		t.Fatalf("Blank(%s): %s, %t; want %s, %t", shown(c), shown(x), ok, shown(blank), there)
	}
	if b, ok := auth.Input(c); ok != there || !bytes.Equal(b, input) {
		t.Fatalf("Input(%s): %s, %t; want %s, %t", shown(c), shown(b), ok, shown(input), there)
	}
	return there
}

// inputs checks Input against its definition. It reports whether there is an
// input.
func inputs(t *testing.T, c api.Chunk, l ...api.Chunk) bool {
	t.Helper()
	there := isAuth(c)
	for _, x := range l {
		there = there && chunk.Check(x) == nil
	}
	var want []byte
	if there {
		want = padded(bytesOf(blanked(c)))
		for _, x := range l {
			want = append(want, padded(bytesOf(x))...)
		}
	}
	if got, ok := auth.Input(c, l...); ok != there || !bytes.Equal(got, want) {
		t.Fatalf("Input(%s, %s): %s, %t; want %s, %t", shown(c), shown(l), shown(got), ok, shown(want), there)
	}
	return there
}

// rightChunks returns chunks that are right, with all numbers of bytes of
// padding.
func rightChunks() []api.Chunk {
	v4, v6 := leaf(5, 10, 0, 0, 1), leaf(6, long(16)...)
	add := api.Node{Type: 0xc001, Data: []byte{0, 0, 0, 7}, Kids: []api.Node{v4}}
	return []api.Chunk{
		plain(11), plain(8), plain(7, 1, 2, 3, 4), plain(132), plain(132, 1), plain(132, 1, 2), plain(132, 1, 2, 3), plain(132, 1, 2, 3, 4), plain(132, 0, 0, 0, 0, 0),
		plain(10, 255), plain(10, 1, 2), plain(10, 3, 4, 5), flagged(1, plain(14)), flagged(1, plain(6)), flagged(15, plain(0, long(13)...)), plain(0, long(14)...), flagged(3, plain(0, long(15)...)),
		// Codes of other auth chunks are not blank.
		plain(15, 0, 1, 0, 2, 9), plain(15, 1, 2, 3, 4, 5, 6), plain(15, 1, 2, 3, 4, 5, 6, 7, 8),
		// Types that are not known.
		plain(99), plain(99, 1), flagged(255, plain(255, 1, 2, 3)), flagged(128, plain(16, 1, 2)),
		with(plain(1, long(16)...), v4, leaf(0x8000), leaf(7, 1, 2, 3), v6, leaf(7, 1)), with(plain(1, long(16)...)), with(plain(4), leaf(1, 1, 2, 3, 4, 5)), with(plain(6), leaf(12, 1), leaf(12, 1, 2)),
		with(plain(193, 0, 0, 0, 1), v4, add, add), with(plain(130), leaf(15, 0, 0, 0, 1)), with(plain(9), leaf(6, 99, 0, 0, 4)), plain(3, 1, 2, 3, 4, 5, 6, 7, 8, 0, 1, 0, 0, 0, 2, 0, 2),
		plain(132, long(65531)...), plain(132, long(65530)...), plain(132, long(65529)...), plain(132, long(65528)...), plain(15, long(65531)...), plain(99, long(65531)...),
		with(plain(6), leaf(12, long(65527)...)),
	}
}

// wrongChunks returns chunks that are not.
func wrongChunks() []api.Chunk {
	v4 := leaf(5, 10, 0, 0, 1)
	return []api.Chunk{
		{}, plain(0, long(12)...), flagged(16, plain(0, long(13)...)), plain(11, 0), plain(7), plain(7, 1, 2, 3), plain(7, 1, 2, 3, 4, 5), plain(10), flagged(1, plain(11)), flagged(2, plain(14)), flagged(1, plain(132)),
		plain(15), plain(15, 1, 2, 3, 4), flagged(1, plain(15, 1, 2, 3, 4, 5)), with(plain(15, 1, 2, 3, 4, 5), v4), plain(15, long(65532)...), plain(132, long(65532)...), plain(99, long(65532)...), plain(132, long(1<<20)...),
		with(plain(132), v4), with(plain(99), v4), with(plain(11), v4), plain(4), with(plain(4), leaf(7)), with(plain(4), leaf(1), leaf(1)), with(plain(1, long(16)...), leaf(5, 1)), with(plain(6), leaf(4, 1)), with(plain(6), leaf(12, long(65528)...)),
		with(plain(193, 0, 0, 0, 1), v4), with(plain(1, long(16)...), nested(5)), plain(3, 1, 2, 3, 4, 5, 6, 7, 8, 0, 0, 0, 0, 0, 2, 0, 2), plain(64, 0, 0, 0, 0, 0, 0, 0, 1, 0, 0, 0, 0, 0, 0, 0, 0, 1), plain(194, 0, 0, 0, 0, 0, 0, 0, 2, 0, 0, 0, 0),
	}
}

// notAuth returns chunks that are no auth chunks, also such that nearly are.
func notAuth() []api.Chunk {
	c := written(1, 2, 9)
	l := []api.Chunk{
		{}, plain(15), plain(15, 1), plain(15, 1, 2), plain(15, 1, 2, 3), plain(15, 1, 2, 3, 4), plain(15, long(65532)...), plain(15, long(65536)...), plain(15, long(65541)...), plain(15, long(1<<20)...),
		with(c, api.Node{}), with(c, leaf(0x8000)), with(c, leaf(5, 1, 2, 3, 4)), with(c, nested(5000)), with(plain(15), leaf(9, 0, 0, 0, 1)), with(c, make([]api.Node, 1<<15)...), flagged(1, with(c, leaf(0x8000))),
		plain(132, c.Data...), plain(10, c.Data...), plain(99, c.Data...), plain(7, 0, 0, 0, 1), plain(0, long(13)...),
	}
	for flags := 1; flags < 256; flags++ {
		l = append(l, flagged(byte(flags), c))
	}
	return l
}

// someBytes returns fewer than n random bytes; some of them are 0.
func someBytes(r *rand.Rand, n int) []byte {
	b := make([]byte, r.Intn(n))
	for i := range b {
		b[i] = byte(r.Intn(256) * r.Intn(4) / 3)
	}
	return b
}

// P19.1

func TestMake(t *testing.T) {
	for i, x := range []struct {
		key, algorithm uint16
		code           []byte
		want           []byte
	}{
		{1, 2, []byte{9}, []byte{0, 1, 0, 2, 9}},
		{2, 1, []byte{9, 8}, []byte{0, 2, 0, 1, 9, 8}},
		{0, 0, []byte{0}, []byte{0, 0, 0, 0, 0}},
		{258, 772, []byte{5, 6, 7}, []byte{1, 2, 3, 4, 5, 6, 7}},
		{0xff00, 0x00ff, []byte{1, 0, 0, 0}, []byte{255, 0, 0, 255, 1, 0, 0, 0}},
		{0xffff, 0, []byte{0, 0, 0, 0, 1}, []byte{255, 255, 0, 0, 0, 0, 0, 0, 1}},
		{0, 0xffff, []byte{255, 255, 255, 255, 255, 255}, []byte{0, 0, 255, 255, 255, 255, 255, 255, 255, 255}},
		{0x8000, 0x7fff, []byte("01234567890123456789"), append([]byte{128, 0, 127, 255}, "01234567890123456789"...)},
	} {
		c, ok := auth.Make(x.key, x.algorithm, x.code)
		if want := (api.Chunk{Type: api.Auth, Data: x.want}); !ok || !same(c, want) || !makes(t, x.key, x.algorithm, x.code...) {
			t.Errorf("%d: Make(%d, %d, %v): %v, %t; want %v", i, x.key, x.algorithm, x.code, c, ok, want)
		}
	}
	for _, key := range shorts {
		for _, algorithm := range shorts {
			if !makes(t, key, algorithm, 1, 2, 3) || makes(t, key, algorithm) {
				t.Errorf("Make(%d, %d)", key, algorithm)
			}
		}
	}
}

func TestMakeOfAllLengths(t *testing.T) {
	for _, code := range [][]byte{nil, {}, make([]byte, 0, 9)} {
		if c, ok := auth.Make(1, 2, code); ok || !isZero(c) {
			t.Errorf("Make without a code: %v, %t", c, ok)
		}
	}
	for size := range 300 {
		if makes(t, 1, 2, make([]byte, size)...) != (size > 0) || makes(t, 0, 0, long(size)...) != (size > 0) {
			t.Errorf("Make with a code of %d bytes", size)
		}
	}
	for _, size := range []int{mostCode - 4, mostCode - 1, mostCode} {
		c, ok := auth.Make(1, 2, long(size))
		if !ok || chunk.Size(c) != 8+size || !makes(t, 1, 2, long(size)...) {
			t.Errorf("Make with a code of %d bytes: %t, %d", size, ok, chunk.Size(c))
		}
	}
	for _, size := range []int{mostCode + 1, 65529, 65531, 65532, 65535, 65536, 65537, 65541, 65536 + mostCode, 1 << 20} {
		if c, ok := auth.Make(1, 2, long(size)); ok || !isZero(c) || makes(t, 1, 2, long(size)...) {
			t.Errorf("Make with a code of %d bytes: %s, %t", size, shown(c), ok)
		}
	}
}

func TestOf(t *testing.T) {
	for i, x := range []struct {
		data           []byte
		key, algorithm uint16
		code           []byte
	}{
		{[]byte{0, 1, 0, 2, 9}, 1, 2, []byte{9}},
		{[]byte{1, 2, 3, 4, 5, 6, 7}, 258, 772, []byte{5, 6, 7}},
		{[]byte{0, 0, 0, 0, 0}, 0, 0, []byte{0}},
		{[]byte{255, 254, 253, 252, 251, 250, 249, 248}, 65534, 65020, []byte{251, 250, 249, 248}},
	} {
		c := plain(15, x.data...)
		key, algorithm, code, ok := auth.Of(c)
		if !ok || key != x.key || algorithm != x.algorithm || !bytes.Equal(code, x.code) || !reads(t, c) {
			t.Errorf("%d: Of(%v): %d, %d, %v, %t", i, c, key, algorithm, code, ok)
		}
	}
	for _, size := range []int{65530, 65531} {
		if !reads(t, plain(15, long(size)...)) {
			t.Errorf("Of %d bytes", size)
		}
	}
}

func TestOfOtherChunks(t *testing.T) {
	for i, c := range notAuth() {
		key, algorithm, code, ok := auth.Of(c)
		if ok || key != 0 || algorithm != 0 || len(code) != 0 || reads(t, c) {
			t.Errorf("%d: Of(%s): %d, %d, %s, %t", i, shown(c), key, algorithm, shown(code), ok)
		}
	}
	for kind := range 256 {
		for size := range 20 {
			c := plain(byte(kind), long(size)...)
			if reads(t, c) != (kind == 15 && size > 4) {
				t.Errorf("Of %d bytes of the type %d", size, kind)
			}
		}
	}
}

func TestRandomChunks(t *testing.T) {
	r := rand.New(rand.NewSource(1))
	found := 0
	for range 20000 {
		c := api.Chunk{Type: 15, Data: someBytes(r, 40)}
		switch r.Intn(20) {
		case 0:
			c.Type = byte(r.Intn(256))
		case 1:
			c.Flags = byte(r.Intn(256))
		case 2:
			c.Kids = make([]api.Node, r.Intn(3))
		case 3:
			c.Data = c.Data[:min(len(c.Data), r.Intn(6))]
		}
		if reads(t, c) {
			found++
		}
	}
	if found < 12000 || found > 19000 {
		t.Error(found, "auth chunks")
	}
}

// P19.2

func TestBlank(t *testing.T) {
	for i, x := range []struct{ data, want []byte }{
		{[]byte{0, 1, 0, 2, 9}, []byte{0, 1, 0, 2, 0}},
		{[]byte{1, 2, 3, 4, 5, 6, 7}, []byte{1, 2, 3, 4, 0, 0, 0}},
		{[]byte{255, 255, 255, 255, 255, 255, 255, 255}, []byte{255, 255, 255, 255, 0, 0, 0, 0}},
		{[]byte{0, 0, 0, 0, 0, 0, 0, 0, 1}, []byte{0, 0, 0, 0, 0, 0, 0, 0, 0}},
		{[]byte{0, 1, 2, 0, 0, 0}, []byte{0, 1, 2, 0, 0, 0}},
		{long(65531), append([]byte{1, 2, 3, 4}, make([]byte, 65527)...)},
	} {
		c := plain(15, x.data...)
		got, ok := auth.Blank(c)
		if !ok || !same(got, plain(15, x.want...)) || !reads(t, c) {
			t.Errorf("%d: Blank(%s): %s, %t; want %s", i, shown(c), shown(got), ok, shown(x.want))
		}
		if again, ok := auth.Blank(got); !ok || !same(again, got) {
			t.Errorf("%d: Blank(%s): %s, %t", i, shown(got), shown(again), ok)
		}
	}
	for i, c := range notAuth() {
		if got, ok := auth.Blank(c); ok || !isZero(got) {
			t.Errorf("%d: Blank(%s): %s, %t", i, shown(c), shown(got), ok)
		}
	}
}

// P19.3

func TestInput(t *testing.T) {
	c := written(1, 2, 9)
	for i, x := range []struct {
		c    api.Chunk
		l    []api.Chunk
		want []byte
	}{
		{c, nil, []byte{15, 0, 0, 9, 0, 1, 0, 2, 0, 0, 0, 0}},
		{c, []api.Chunk{}, []byte{15, 0, 0, 9, 0, 1, 0, 2, 0, 0, 0, 0}},
		{written(258, 772, 5, 6, 7, 8), nil, []byte{15, 0, 0, 12, 1, 2, 3, 4, 0, 0, 0, 0}},
		{written(258, 772, 5, 6, 7), nil, []byte{15, 0, 0, 11, 1, 2, 3, 4, 0, 0, 0, 0}},
		{c, []api.Chunk{plain(11)}, []byte{15, 0, 0, 9, 0, 1, 0, 2, 0, 0, 0, 0, 11, 0, 0, 4}},
		{c, []api.Chunk{plain(10, 7)}, []byte{15, 0, 0, 9, 0, 1, 0, 2, 0, 0, 0, 0, 10, 0, 0, 5, 7, 0, 0, 0}},
		{c, []api.Chunk{plain(11), plain(10, 7, 8)}, []byte{15, 0, 0, 9, 0, 1, 0, 2, 0, 0, 0, 0, 11, 0, 0, 4, 10, 0, 0, 6, 7, 8, 0, 0}},
		{c, []api.Chunk{plain(10, 7, 8, 9), plain(11)}, []byte{15, 0, 0, 9, 0, 1, 0, 2, 0, 0, 0, 0, 10, 0, 0, 7, 7, 8, 9, 0, 11, 0, 0, 4}},
		// The code of another auth chunk stays, even of the same one.
		{c, []api.Chunk{c}, []byte{15, 0, 0, 9, 0, 1, 0, 2, 0, 0, 0, 0, 15, 0, 0, 9, 0, 1, 0, 2, 9, 0, 0, 0}},
		{c, []api.Chunk{flagged(1, plain(99, 1))}, []byte{15, 0, 0, 9, 0, 1, 0, 2, 0, 0, 0, 0, 99, 1, 0, 5, 1, 0, 0, 0}},
		{c, []api.Chunk{with(plain(4), leaf(1, 6))}, []byte{15, 0, 0, 9, 0, 1, 0, 2, 0, 0, 0, 0, 4, 0, 0, 9, 0, 1, 0, 5, 6, 0, 0, 0}},
	} {
		got, ok := auth.Input(x.c, x.l...)
		if !ok || !bytes.Equal(got, x.want) || !inputs(t, x.c, x.l...) {
			t.Errorf("%d: Input(%v, %v): %v, %t; want %v", i, x.c, x.l, got, ok, x.want)
		}
	}
}

func TestInputOfRightChunks(t *testing.T) {
	right := rightChunks()
	for i, x := range right {
		if chunk.Check(x) != nil || len(bytesOf(x)) != chunk.Size(x) {
			t.Fatalf("%d: %s is not right", i, shown(x))
		}
		for size := 1; size <= 5; size++ {
			c := written(258, 3, long(size)...)
			for _, l := range [][]api.Chunk{{x}, {x, plain(11)}, {plain(10, 7), x}, {x, x}, {plain(99, 1, 2, 3), x, plain(10, 9, 8)}} {
				if !inputs(t, c, l...) {
					t.Errorf("%d: no input of %s", i, shown(l))
				}
			}
		}
	}
	if !inputs(t, written(1, 2, long(20)...), right...) || !inputs(t, plain(15, long(65531)...), right...) {
		t.Error("no input of all right chunks")
	}
}

func TestInputOfWrongChunks(t *testing.T) {
	c, right := written(1, 2, 9), plain(11)
	for i, x := range wrongChunks() {
		if chunk.Check(x) == nil {
			t.Fatalf("%d: %s is right", i, shown(x))
		}
		for _, l := range [][]api.Chunk{{x}, {x, right}, {right, x}, {right, x, right}, {x, x}, {right, right, right, x}} {
			if b, ok := auth.Input(c, l...); ok || len(b) != 0 || inputs(t, c, l...) {
				t.Errorf("%d: Input(%v, %s): %s, %t", i, c, shown(l), shown(b), ok)
			}
		}
	}
	for i, x := range notAuth() {
		for _, l := range [][]api.Chunk{nil, {right}, {c}, {c, right}, {x}} {
			if b, ok := auth.Input(x, l...); ok || len(b) != 0 || inputs(t, x, l...) {
				t.Errorf("%d: Input(%s, %s): %s, %t", i, shown(x), shown(l), shown(b), ok)
			}
		}
	}
}

func TestInputOfManyChunks(t *testing.T) {
	l := slices.Repeat([]api.Chunk{plain(11), plain(10, 1), plain(132, 1, 2, 3, 4)}, 30000)
	if !inputs(t, written(1, 2, 9), l...) {
		t.Error("no input of many chunks")
	}
	l[len(l)-1] = plain(10)
	if inputs(t, written(1, 2, 9), l...) {
		t.Error("an input with a last chunk that is not right")
	}
}

func TestInputOfRandomChunks(t *testing.T) {
	r := rand.New(rand.NewSource(2))
	choices := slices.DeleteFunc(append(rightChunks(), wrongChunks()[:16]...), func(c api.Chunk) bool { return len(c.Data) > 1000 || chunk.Size(c) > 1000 })
	found := 0
	for range 20000 {
		l := make([]api.Chunk, r.Intn(5))
		for i := range l {
			switch r.Intn(4) {
			case 0:
				l[i] = plain(132, someBytes(r, 20)...)
			case 1:
				l[i] = flagged(byte(r.Intn(256)), plain(byte(16+r.Intn(48)), someBytes(r, 20)...))
			default:
				l[i] = choices[r.Intn(len(choices))]
			}
		}
		if inputs(t, plain(15, someBytes(r, 60)...), l...) {
			found++
		}
	}
	if found < 6000 || found > 15000 {
		t.Error(found, "inputs")
	}
}

// P19.4

func TestNeeds(t *testing.T) {
	for i, x := range []struct {
		n    api.Node
		t    byte
		want bool
	}{
		{leaf(0x8003, 0), 0, true}, {leaf(0x8003, 193), 193, true}, {leaf(0x8003, 193, 128), 193, true}, {leaf(0x8003, 193, 128), 128, true}, {leaf(0x8003, 193, 128, 255), 255, true},
		{leaf(0x8003, 193, 128), 0, false}, {leaf(0x8003, 193, 128), 192, false}, {leaf(0x8003), 0, false}, {leaf(0x8003), 193, false}, {leaf(0x8003, 4, 3, 4, 4), 4, true}, {leaf(0x8003, 0, 0, 0, 7), 7, true},
		{leaf(0x8003, 1, 2, 14, 15), 1, false}, {leaf(0x8003, 1, 2, 14, 15), 2, false}, {leaf(0x8003, 1, 2, 14, 15), 14, false}, {leaf(0x8003, 1, 2, 14, 15), 15, false}, {leaf(0x8003, 1, 2, 14, 15, 13), 13, true},
		{leaf(0x8002, 7), 7, false}, {leaf(0x8004, 7, 7), 7, false}, {leaf(0x8008, 7), 7, false}, {leaf(3, 7), 7, false}, {leaf(0x0380, 7), 7, false}, {leaf(0, 7), 7, false}, {api.Node{}, 0, false},
		{api.Node{Type: 0x8003, Data: []byte{7}, Kids: []api.Node{}}, 7, true}, {api.Node{Type: 0x8003, Data: []byte{7}, Kids: []api.Node{{}}}, 7, false},
		{api.Node{Type: 0x8003, Data: []byte{7}, Kids: []api.Node{leaf(0x8003, 7)}}, 7, false}, {api.Node{Type: 0x8003, Kids: []api.Node{leaf(0x8003, 7)}}, 7, false}, {api.Node{Type: 8, Kids: []api.Node{leaf(0x8003, 7)}}, 7, false},
		// Bytes of the unused capacity are none of the list.
		{api.Node{Type: 0x8003, Data: []byte{7, 8}[:1]}, 8, false},
	} {
		if got := auth.Needs(x.n, x.t); got != x.want {
			t.Errorf("%d: Needs(%v, %d): %t", i, x.n, x.t, got)
		}
	}
}

func TestNeedsOfAllTypes(t *testing.T) {
	var all []byte
	for x := range 256 {
		all = append(all, byte(x))
	}
	never := map[int]bool{1: true, 2: true, 14: true, 15: true}
	for x := range 256 {
		k := byte(x)
		for i, l := range [][]byte{all, {k}, {k, k}, {k, ^k}, {^k, k}, {^k, k, ^k}, append(make([]byte, 65530), k), append([]byte{k}, make([]byte, 65530)...)} {
			if got := auth.Needs(leaf(0x8003, l...), k); got == never[x] {
				t.Errorf("Needs, list %d, %d: %t", i, x, got)
			}
		}
		others := slices.DeleteFunc(slices.Clone(all), func(y byte) bool { return y == k })
		if auth.Needs(leaf(0x8003, others...), k) || auth.Needs(leaf(0x8003), k) || auth.Needs(leaf(0x8003, ^k), k) {
			t.Errorf("Needs of %d, which is not listed", x)
		}
	}
	for kind := range 1 << 16 {
		if auth.Needs(leaf(uint16(kind), all...), 193) != (kind == 0x8003) {
			t.Errorf("Needs of the parameter %#x", kind)
		}
	}
}

// P19.5

// pads checks Pad against its definition. It reports whether there is a chunk.
func pads(t *testing.T, n int) bool {
	t.Helper()
	c, ok := auth.Pad(n)
	if there := n >= 4 && n <= 65535; ok != there {
		t.Fatalf("Pad(%d): %s, %t", n, shown(c), ok)
	}
	if !ok {
		if !isZero(c) {
			t.Fatalf("Pad(%d): %s", n, shown(c))
		}
		return false
	}
	if c.Type != 132 || c.Flags != 0 || len(c.Data) != n-4 || !pad.Zero(c.Data) || len(c.Kids) != 0 || chunk.Size(c) != n {
		t.Fatalf("Pad(%d): %s", n, shown(c))
	}
	return true
}

func TestPad(t *testing.T) {
	for n, want := range map[int][]byte{
		4: {132, 0, 0, 4}, 5: {132, 0, 0, 5, 0}, 6: {132, 0, 0, 6, 0, 0}, 7: {132, 0, 0, 7, 0, 0, 0}, 8: {132, 0, 0, 8, 0, 0, 0, 0}, 13: {132, 0, 0, 13, 0, 0, 0, 0, 0, 0, 0, 0, 0},
	} {
		c, ok := auth.Pad(n)
		if b, err := chunk.Encode(c); !ok || err != nil || !bytes.Equal(b, want) {
			t.Errorf("Pad(%d): %v, %t", n, c, ok)
		}
	}
	for n := -300; n < 2000; n++ {
		if pads(t, n) != (n >= 4) {
			t.Errorf("Pad(%d)", n)
		}
	}
	for n := 65000; n < 66000; n++ {
		if pads(t, n) != (n <= 65535) {
			t.Errorf("Pad(%d)", n)
		}
	}
	for n := 2000; n < 65000; n += 97 {
		c, _ := auth.Pad(n)
		if !pads(t, n) || chunk.Check(c) != nil {
			t.Errorf("Pad(%d)", n)
		}
	}
	for _, n := range []int{65536 + 4, 65536 + 8, 1 << 17, 1 << 20, 1 << 31, 1<<32 + 4, 1<<32 + 100, 1 << 62, math.MaxInt, math.MaxInt - 3, math.MinInt, math.MinInt + 3, math.MinInt + 8, -65535, -65532, -1 << 32} {
		if pads(t, n) {
			t.Errorf("Pad(%d)", n)
		}
	}
}

// P19.6

func TestOfInvertsMake(t *testing.T) {
	r := rand.New(rand.NewSource(3))
	for range 20000 {
		key, algorithm, code := uint16(r.Uint32()), uint16(r.Uint32()), append(someBytes(r, 70), byte(r.Intn(256)))
		if !makes(t, key, algorithm, code...) {
			t.Fatalf("Make(%d, %d, %v)", key, algorithm, code)
		}
		// Through bytes, too.
		c, _ := auth.Make(key, algorithm, code)
		b, err := chunk.Encode(c)
		if err != nil || !bytes.Equal(b, bytesOf(written(key, algorithm, code...))) {
			t.Fatalf("Make(%d, %d, %v): %v, %v", key, algorithm, code, b, err)
		}
		parsed, err := chunk.Parse(b)
		k, a, back, ok := auth.Of(parsed)
		if err != nil || !ok || k != key || a != algorithm || !bytes.Equal(back, code) {
			t.Fatalf("Of(%v): %d, %d, %v, %t", parsed, k, a, back, ok)
		}
		again, ok := auth.Make(k, a, back)
		if !ok || !same(again, parsed) {
			t.Fatalf("Make(%d, %d, %v): %v, %t", k, a, back, again, ok)
		}
	}
}

func TestInputWithoutTheCode(t *testing.T) {
	r := rand.New(rand.NewSource(4))
	after := []api.Chunk{plain(0, long(13)...), plain(11), plain(10, 1, 2)}
	for size := 1; size < 300; size++ {
		key, algorithm := uint16(r.Uint32()), uint16(r.Uint32())
		code := make([]byte, size)
		first, _ := auth.Make(key, algorithm, code)
		want, ok := auth.Input(first, after...)
		if !ok || len(want) != (8+size+3)/4*4+20+4+8 {
			t.Fatalf("Input(%v): %v, %t", first, want, ok)
		}
		for range 10 {
			r.Read(code)
			other, _ := auth.Make(key, algorithm, code)
			if got, ok := auth.Input(other, after...); !ok || !bytes.Equal(got, want) {
				t.Fatalf("Input(%v): %v, %t; want %v", other, got, ok, want)
			}
		}
		// It depends on the rest: the length of the code, both numbers, and the
		// code of a chunk after it.
		longer, _ := auth.Make(key, algorithm, append(code, 0))
		key1, _ := auth.Make(key+1, algorithm, code)
		algorithm1, _ := auth.Make(key, algorithm+1, code)
		for _, c := range []api.Chunk{longer, key1, algorithm1} {
			if got, ok := auth.Input(c, after...); !ok || bytes.Equal(got, want) {
				t.Fatalf("Input(%v): %v, %t", c, got, ok)
			}
		}
		one, _ := auth.Input(first, written(1, 2, 1))
		two, _ := auth.Input(first, written(1, 2, 2))
		if bytes.Equal(one, two) {
			t.Fatalf("Input(%v): %v", first, one)
		}
	}
}

// The rules: arguments stay as they are, and no memory is shared.

// scribbleBytes and scribble change all bytes, and all nodes inside, also those of
// the unused capacity.
func scribbleBytes(b []byte) {
	b = b[:cap(b)]
	for i := range b {
		// Several times do not give the same bytes again.
		b[i] += 41
	}
}

func scribble(c api.Chunk) {
	scribbleBytes(c.Data)
	scribbleNodes(c.Kids)
}

func scribbleNodes(l []api.Node) {
	l = l[:cap(l)]
	for i, n := range l {
		scribbleBytes(n.Data)
		scribbleNodes(n.Kids)
		l[i] = leaf(^n.Type, 0xee)
	}
}

// roomy, roomyNodes and roomyChunks return the same in new memory, with unused
// capacity that is not zero; whole, wholeNodes and wholeChunks return copies of
// these with that capacity as parts of them.
func roomy(b []byte) []byte { return append(bytes.Clone(b), 0xaa, 0xbb)[:len(b)] }

func roomyNodes(l []api.Node) []api.Node {
	c := make([]api.Node, 0, len(l)+1)
	for _, n := range l {
		c = append(c, api.Node{Type: n.Type, Data: roomy(n.Data), Kids: roomyNodes(n.Kids)})
	}
	return append(c, leaf(0xcccc, 0xdd))[:len(l)]
}

func roomyChunks(l ...api.Chunk) []api.Chunk {
	c := make([]api.Chunk, 0, len(l)+1)
	for _, x := range l {
		c = append(c, api.Chunk{Type: x.Type, Flags: x.Flags, Data: roomy(x.Data), Kids: roomyNodes(x.Kids)})
	}
	return append(c, plain(0xcc, 0xdd))[:len(l)]
}

func whole(b []byte) []byte { return bytes.Clone(b[:cap(b)]) }

func wholeNodes(l []api.Node) []api.Node {
	c := slices.Clone(l[:cap(l)])
	for i, n := range c {
		c[i].Data, c[i].Kids = whole(n.Data), wholeNodes(n.Kids)
	}
	return c
}

func wholeChunks(l []api.Chunk) []api.Chunk {
	c := slices.Clone(l[:cap(l)])
	for i, x := range c {
		c[i].Data, c[i].Kids = whole(x.Data), wholeNodes(x.Kids)
	}
	return c
}

func TestMakeAndOfShareNoMemory(t *testing.T) {
	code := roomy([]byte{5, 6, 7})
	before := whole(code)
	c, _ := auth.Make(258, 772, code)
	other, _ := auth.Make(258, 772, code)
	if !bytes.Equal(whole(code), before) {
		t.Error("Make changes the code", code)
	}
	scribbleBytes(code)
	scribble(other)
	if !same(c, plain(15, 1, 2, 3, 4, 5, 6, 7)) {
		t.Error("Make shares memory", c)
	}
	l := roomyChunks(c)
	given := wholeChunks(l)
	_, _, code, _ = auth.Of(l[0])
	_, _, again, _ := auth.Of(l[0])
	if !slices.EqualFunc(wholeChunks(l), given, same) {
		t.Error("Of changes the chunk", l)
	}
	scribble(l[0])
	scribbleBytes(again)
	if !bytes.Equal(code, []byte{5, 6, 7}) {
		t.Error("Of shares memory", code)
	}
}

func TestBlankSharesNoMemory(t *testing.T) {
	// One of a code that is blank, too.
	for _, from := range []api.Chunk{written(258, 772, 5, 6, 7), written(258, 772, 0, 0, 0)} {
		l := roomyChunks(from)
		before := wholeChunks(l)
		c, _ := auth.Blank(l[0])
		other, _ := auth.Blank(l[0])
		if !slices.EqualFunc(wholeChunks(l), before, same) {
			t.Error("Blank changes the chunk", l)
		}
		scribble(l[0])
		scribble(other)
		if !same(c, plain(15, 1, 2, 3, 4, 0, 0, 0)) {
			t.Error("Blank shares memory", c)
		}
	}
}

func TestInputSharesNoMemory(t *testing.T) {
	for _, after := range [][]api.Chunk{nil, {plain(132, 1, 2, 3, 4)}, {plain(10, 1), with(plain(1, long(16)...), leaf(7, 1, 2), leaf(0x8000)), written(1, 2, 3)}} {
		l := roomyChunks(append([]api.Chunk{written(258, 772, 5, 6, 7, 8)}, after...)...)
		before := wholeChunks(l)
		input, _ := auth.Input(l[0], l[1:]...)
		other, _ := auth.Input(l[0], l[1:]...)
		if !slices.EqualFunc(wholeChunks(l), before, same) {
			t.Error("Input changes the chunks", l)
		}
		want := bytes.Clone(input)
		for _, c := range l {
			scribble(c)
		}
		scribbleBytes(other)
		if !bytes.Equal(input, want) || !bytes.Equal(input[:12], []byte{15, 0, 0, 12, 1, 2, 3, 4, 0, 0, 0, 0}) {
			t.Error("Input shares memory", input)
		}
	}
}

func TestNeedsAndPadShareNoMemory(t *testing.T) {
	l := roomyNodes([]api.Node{leaf(0x8003, 193, 1, 128)})
	before := wholeNodes(l)
	if !auth.Needs(l[0], 128) || auth.Needs(l[0], 1) || auth.Needs(l[0], 0xaa) || !slices.EqualFunc(wholeNodes(l), before, sameNodes) {
		t.Error("Needs changes the parameter", l)
	}
	for _, n := range []int{5, 8, 1000, 65535} {
		c, _ := auth.Pad(n)
		other, _ := auth.Pad(n)
		scribble(other)
		if len(c.Data) != n-4 || !pad.Zero(c.Data) {
			t.Error("Pad shares memory", n)
		}
		if again, _ := auth.Pad(n); !pad.Zero(again.Data) {
			t.Error("Pad keeps memory", n)
		}
	}
}

// P1: all arguments are allowed, and the functions may be called concurrently.

func TestAnyArguments(t *testing.T) {
	c := written(1, 2, 9)
	wide := api.Node{Type: 8, Kids: make([]api.Node, 1<<16)}
	for _, n := range []api.Node{nested(1 << 16), wide, leaf(0x8003, long(1<<20)...), {}} {
		for _, l := range [][]api.Node{{n}, {n, n}, slices.Repeat([]api.Node{n}, 1000)} {
			for kind := range 256 {
				x := with(plain(byte(kind)), l...)
				if reads(t, x) || inputs(t, x, c) {
					t.Errorf("%s", shown(x))
				}
			}
			x := with(plain(1, long(16)...), l...)
			if inputs(t, c, x) != (chunk.Check(x) == nil) || reads(t, with(c, l...)) {
				t.Errorf("%s", shown(x))
			}
		}
		auth.Needs(n, 193)
	}
	// The definition does not ask that the parameter is right.
	if !auth.Needs(leaf(0x8003, append(make([]byte, 1<<20), 193)...), 193) {
		t.Error("Needs of a long parameter")
	}
	if b, ok := auth.Input(c, make([]api.Chunk, 1<<20)...); ok || len(b) != 0 {
		t.Error("Input of many zero chunks")
	}
}

func TestConcurrently(t *testing.T) {
	c, list, after := written(1, 2, 9), leaf(0x8003, 193, 128), []api.Chunk{plain(11), plain(10, 7)}
	want, _ := auth.Input(c, after...)
	var group sync.WaitGroup
	for range 8 {
		group.Go(func() {
			for range 200 {
				made, _ := auth.Make(1, 2, []byte{9})
				blank, _ := auth.Blank(c)
				key, algorithm, code, ok := auth.Of(c)
				if !ok || key != 1 || algorithm != 2 || !bytes.Equal(code, []byte{9}) || !same(made, c) || !same(blank, written(1, 2, 0)) {
					t.Error("Make, Of or Blank")
				}
				input, _ := auth.Input(c, after...)
				filler, _ := auth.Pad(9)
				if !bytes.Equal(input, want) || !same(filler, plain(132, 0, 0, 0, 0, 0)) || !auth.Needs(list, 128) || auth.Needs(list, 129) {
					t.Error("Input, Pad or Needs")
				}
			}
		})
	}
	group.Wait()
}
