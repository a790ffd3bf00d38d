package asconf_test

import (
	"bytes"
	"encoding/binary"
	"fmt"
	"math"
	"math/rand"
	"slices"
	"sync"
	"testing"

	"wharf/address"
	"wharf/api"
	"wharf/asconf"
	"wharf/chunk"
	"wharf/node"
)

// The types of changes and of results.
var (
	changeTypes = []uint16{0xc001, 0xc002, 0xc004}
	resultTypes = []uint16{0xc003, 0xc005}
)

// numbers are serial numbers and identifiers, with those at the bounds.
var numbers = []uint32{0, 1, 7, 8, 255, 256, 258, 65535, 65536, 0x01020304, 1 << 24, 1<<31 - 1, 1 << 31, math.MaxUint32}

// plain returns a node with some bytes and none inside, and sized one with so
// many bytes.
func plain(t uint16, data ...byte) api.Node { return api.Node{Type: t, Data: data} }
func sized(t uint16, size int) api.Node     { return plain(t, make([]byte, size)...) }

// with returns a node with some nodes inside and no bytes in front of them, and
// numbered one with a number in front of them, be it right or not.
func with(t uint16, kids ...api.Node) api.Node { return api.Node{Type: t, Kids: kids} }
func numbered(t uint16, id uint32, kids ...api.Node) api.Node {
	return api.Node{Type: t, Data: four(id), Kids: kids}
}

// four returns the bytes of a number.
func four(x uint32) []byte { return binary.BigEndian.AppendUint32(nil, x) }

// ipv4 and ipv6 return addresses that differ by a number, and cause a right
// error cause that does.
func ipv4(i byte) api.Node  { return plain(5, 10, 0, 1, i) }
func ipv6(i byte) api.Node  { return plain(6, 0x20, 1, 2, 3, 4, 5, 6, 7, 8, 9, 10, 11, 12, 13, 14, i) }
func cause(i byte) api.Node { return plain(12, 'c', i) }

// nested returns so many nodes, one in the other.
func nested(t uint16, count int) api.Node {
	n := plain(t)
	for range count - 1 {
		n = with(t, n)
	}
	return n
}

// nodes returns several nodes.
func nodes(l ...api.Node) []api.Node { return l }

// same and sameChunks report whether nodes and chunks are the same, by the
// definition.
func same(a, b api.Node) bool {
	return a.Type == b.Type && bytes.Equal(a.Data, b.Data) && slices.EqualFunc(a.Kids, b.Kids, same)
}

func sameChunks(a, b api.Chunk) bool {
	return a.Type == b.Type && a.Flags == b.Flags && bytes.Equal(a.Data, b.Data) && slices.EqualFunc(a.Kids, b.Kids, same)
}

// isAddress, isChange and isResult report what a node is, by the definitions.
func isAddress(n api.Node) bool {
	return len(n.Kids) == 0 && (n.Type == 5 && len(n.Data) == 4 || n.Type == 6 && len(n.Data) == 16)
}

func isChange(n api.Node) bool {
	return slices.Contains(changeTypes, n.Type) && len(n.Data) == 4 && len(n.Kids) == 1 && isAddress(n.Kids[0])
}

func isResult(n api.Node) bool {
	if len(n.Data) != 4 {
		return false
	}
	return n.Type == 0xc005 && len(n.Kids) == 0 || n.Type == 0xc003 && len(n.Kids) > 0 && node.Check(api.Param, n) == nil
}

// shown returns the beginning of the text of a value, which may be long.
func shown(x any) string {
	text := fmt.Sprint(x)
	return text[:min(200, len(text))]
}

// all reports whether all nodes are of some kind.
func all(l []api.Node, is func(api.Node) bool) bool {
	return !slices.ContainsFunc(l, func(n api.Node) bool { return !is(n) })
}

// sizeOf returns the number of bytes of a node, and of a list with padding
// between its nodes, by the definition.
func sizeOf(n api.Node) int { return 4 + len(n.Data) + sizeOfAll(n.Kids) }

func sizeOfAll(l []api.Node) int {
	size := 0
	for _, n := range l {
		size = (size+3)/4*4 + sizeOf(n)
	}
	return size
}

// isRequest and isAnswer report what a chunk is, by the definitions.
func isRequest(c api.Chunk) bool {
	return c.Type == 193 && c.Flags == 0 && len(c.Data) == 4 && len(c.Kids) >= 2 && len(c.Kids) <= 16384 &&
		isAddress(c.Kids[0]) && all(c.Kids[1:], isChange) && 8+sizeOfAll(c.Kids) <= 65535
}

func isAnswer(c api.Chunk) bool {
	return c.Type == 128 && c.Flags == 0 && len(c.Data) == 4 && len(c.Kids) <= 16384 && all(c.Kids, isResult) && 8+sizeOfAll(c.Kids) <= 65535
}

// changes checks Change against its definition. It reports whether there is a
// change.
func changes(t *testing.T, kind uint16, id uint32, a api.Node) bool {
	t.Helper()
	want, there := numbered(kind, id, a), slices.Contains(changeTypes, kind) && isAddress(a)
	if !there {
		want = api.Node{}
	}
	got, ok := asconf.Change(kind, id, a)
	return made(t, "Change", got, ok, want, there, id)
}

// fails checks Failure against its definition. It reports whether there is a
// result.
func fails(t *testing.T, id uint32, causes ...api.Node) bool {
	t.Helper()
	want := numbered(0xc003, id, causes...)
	there := isResult(want)
	if !there {
		want = api.Node{}
	}
	got, ok := asconf.Failure(id, causes...)
	return made(t, "Failure", got, ok, want, there, id)
}

// made checks a parameter that was made against the one that is wanted, and that
// ID returns what it was given. It returns ok.
func made(t *testing.T, name string, got api.Node, ok bool, want api.Node, there bool, id uint32) bool {
	t.Helper()
	if ok != there || !same(got, want) {
		t.Fatalf("%s: %s, %t; want %s, %t", name, shown(got), ok, shown(want), there)
	}
	if ok && node.Check(api.Param, got) != nil {
		t.Fatalf("%s: %s is not right", name, shown(got))
	}
	if !ok {
		id = 0
	}
	if back, has := asconf.ID(got); has != ok || back != id {
		t.Fatalf("%s: ID(%s): %d, %t; want %d", name, shown(got), back, has, id)
	}
	return ok
}

// identifies checks ID against its definition. It reports whether a node has an
// identifier.
func identifies(t *testing.T, n api.Node) bool {
	t.Helper()
	want, there := uint32(0), isChange(n) || isResult(n)
	if there {
		want = binary.BigEndian.Uint32(n.Data)
	}
	if id, ok := asconf.ID(n); ok != there || id != want {
		t.Fatalf("ID(%s): %d, %t; want %d, %t", shown(n), id, ok, want, there)
	}
	return there
}

// requests and responds check Request and Answer against their definitions. They
// report whether there is a chunk.
func requests(t *testing.T, serial uint32, a api.Node, l ...api.Node) bool {
	t.Helper()
	want := api.Chunk{Type: 193, Data: four(serial), Kids: append(nodes(a), l...)}
	got, ok := asconf.Request(serial, a, l...)
	return put(t, "Request", got, ok, want, isRequest(want), serial)
}

func responds(t *testing.T, serial uint32, l ...api.Node) bool {
	t.Helper()
	want := api.Chunk{Type: 128, Data: four(serial), Kids: l}
	got, ok := asconf.Answer(serial, l...)
	return put(t, "Answer", got, ok, want, isAnswer(want), serial)
}

// put checks a chunk that was made against the one that is wanted, and that
// Serial returns what it was given. It returns ok.
func put(t *testing.T, name string, got api.Chunk, ok bool, want api.Chunk, there bool, serial uint32) bool {
	t.Helper()
	if !there {
		want, serial = api.Chunk{}, 0
	}
	if ok != there || !sameChunks(got, want) {
		t.Fatalf("%s: %s, %t; want %s, %t", name, shown(got), ok, shown(want), there)
	}
	if ok && (chunk.Check(got) != nil || chunk.Size(got) != 8+sizeOfAll(want.Kids)) {
		t.Fatalf("%s: %s is not right, or has not %d bytes", name, shown(got), 8+sizeOfAll(want.Kids))
	}
	if back, has := asconf.Serial(got); has != ok || back != serial {
		t.Fatalf("%s: Serial(%s): %d, %t; want %d", name, shown(got), back, has, serial)
	}
	return ok
}

// reads checks Serial against its definition. It reports whether a chunk is a
// request or an answer.
func reads(t *testing.T, c api.Chunk) bool {
	t.Helper()
	want, there := uint32(0), isRequest(c) || isAnswer(c)
	if there {
		want = binary.BigEndian.Uint32(c.Data)
	}
	if serial, ok := asconf.Serial(c); ok != there || serial != want {
		t.Fatalf("Serial(%s): %d, %t; want %d, %t", shown(c), serial, ok, want, there)
	}
	return there
}

// compares checks Results against its definition. It reports whether there are
// results.
func compares(t *testing.T, q, a api.Chunk) bool {
	t.Helper()
	var want []int
	there := isRequest(q) && isAnswer(a) && bytes.Equal(q.Data, a.Data)
	if there {
		for _, change := range q.Kids[1:] {
			want = append(want, resultOf(change, a.Kids))
		}
	}
	if got, ok := asconf.Results(q, a); ok != there || !slices.Equal(got, want) {
		t.Fatalf("Results(%s, %s): %v, %t; want %v, %t", shown(q), shown(a), got, ok, want, there)
	}
	return there
}

// resultOf returns what the first result with the identifier of a change says.
func resultOf(change api.Node, results []api.Node) int {
	for _, n := range results {
		if bytes.Equal(n.Data, change.Data) {
			return map[uint16]int{0xc005: 1, 0xc003: 2}[n.Type]
		}
	}
	return 0
}

// request and answer return chunks, be they right or not.
func request(serial uint32, kids ...api.Node) api.Chunk {
	return api.Chunk{Type: 193, Data: four(serial), Kids: kids}
}

func answer(serial uint32, kids ...api.Node) api.Chunk {
	return api.Chunk{Type: 128, Data: four(serial), Kids: kids}
}

// asked returns a request with changes of these identifiers, and answered an
// answer with these results: successes, or failures for negative numbers.
func asked(serial uint32, ids ...uint32) api.Chunk {
	c := request(serial, ipv4(1))
	for i, id := range ids {
		c.Kids = append(c.Kids, numbered(changeTypes[i%3], id, ipv6(byte(i))))
	}
	return c
}

func answered(serial uint32, ids ...int) api.Chunk {
	c := answer(serial)
	for i, id := range ids {
		if id < 0 {
			c.Kids = append(c.Kids, numbered(0xc003, uint32(-id), cause(byte(i))))
		} else {
			c.Kids = append(c.Kids, numbered(0xc005, uint32(id)))
		}
	}
	return c
}

// notAddresses returns nodes that are none, also such that nearly are.
func notAddresses() []api.Node {
	return nodes(
		api.Node{}, plain(5), sized(5, 3), sized(5, 5), sized(5, 8), sized(5, 16), sized(6, 4), sized(6, 15), sized(6, 17), sized(6, 32), plain(6), sized(5, 65531), sized(6, 1<<20),
		sized(4, 4), sized(7, 16), sized(9, 4), sized(11, 4), sized(12, 4), sized(0x8000, 0), sized(0x0500, 4), sized(0x8005, 4), sized(0xc005, 4), sized(0xffff, 16),
		numbered(5, 1, ipv4(1)), numbered(5, 1, plain(0x8000)), api.Node{Type: 6, Data: make([]byte, 16), Kids: nodes(ipv6(1))}, with(8, ipv4(1)), with(5, ipv4(1)), nested(5, 5000),
		numbered(0xc001, 1, ipv4(1)),
	)
}

// notChanges and notResults return nodes that are none, also such that nearly
// are.
func notChanges() []api.Node {
	l := nodes(
		api.Node{}, ipv4(1), ipv6(1), plain(0x8000), sized(7, 8), plain(9, 0, 0, 0, 7), numbered(0xc000, 7, ipv4(1)), numbered(0xc006, 7, ipv4(1)), numbered(0xc006, 7), numbered(0xc005, 7),
		numbered(0xc003, 7, cause(1)), numbered(0x8001, 7, ipv4(1)), numbered(0x4001, 7, ipv4(1)), numbered(0x01c0, 7, ipv4(1)), numbered(1, 7, ipv4(1)), with(8, numbered(0xc001, 7, ipv4(1))),
	)
	for _, kind := range changeTypes {
		for _, a := range notAddresses() {
			l = append(l, numbered(kind, 7, a))
		}
		for _, size := range []int{0, 1, 3, 5, 8, 12} {
			l = append(l, api.Node{Type: kind, Data: make([]byte, size), Kids: nodes(ipv4(1))})
		}
		l = append(l, numbered(kind, 7), numbered(kind, 7, ipv4(1), ipv4(2)), numbered(kind, 7, make([]api.Node, 1<<15)...), numbered(kind, 7, numbered(kind, 7, ipv4(1))), sized(kind, 12), nested(kind, 5000))
	}
	return l
}

func notResults() []api.Node {
	l := nodes(
		api.Node{}, ipv4(1), ipv6(1), plain(0x8000), plain(9, 0, 0, 0, 7), numbered(0xc000, 7), numbered(0xc006, 7), numbered(0xc001, 7, ipv4(1)), numbered(0xc002, 7, ipv6(1)), numbered(0xc004, 7, ipv4(1)),
		numbered(0x8005, 7), numbered(0x4005, 7), numbered(0x05c0, 7), numbered(0x8003, 7, cause(1)), numbered(3, 7, cause(1)), numbered(13, 7, cause(1)), with(8, numbered(0xc005, 7)),
	)
	for _, size := range []int{0, 1, 3, 5, 8, 65532} {
		l = append(l, sized(0xc005, size), sized(0xc003, size), api.Node{Type: 0xc003, Data: make([]byte, size), Kids: nodes(cause(1))})
	}
	for _, causes := range wrongCauses() {
		l = append(l, numbered(0xc003, 7, causes...))
	}
	return append(l, numbered(0xc005, 7, cause(1)), numbered(0xc005, 7, plain(0x8000)), numbered(0xc005, 7, ipv4(1)), numbered(0xc005, 7, numbered(0xc005, 7)), nested(0xc005, 5000), nested(0xc003, 5000))
}

// wrongCauses returns lists of error causes that no result has inside.
func wrongCauses() [][]api.Node {
	return [][]api.Node{
		nil, make([]api.Node, 16385), make([]api.Node, 1<<20),
		// None of these is a right error cause.
		{sized(1, 3)}, {sized(1, 5)}, {sized(3, 0)}, {sized(4, 1)}, {sized(5, 0)}, {sized(6, 3)}, {sized(8, 0)}, {sized(9, 8)}, {sized(11, 4)}, {sized(0xa0, 0)}, {sized(0x0105, 4)},
		{sized(2, 6)}, {plain(2, 0, 0, 0, 2, 0, 1)}, {plain(2, 0, 0, 0, 1, 0, 1, 0, 2)}, {plain(2, 0, 0, 0, 0)}, {with(12, cause(1))}, {with(99, cause(1))}, {with(0, api.Node{})},
		{with(5, ipv4(1), ipv4(2))}, {with(8, sized(5, 3))}, {with(5, sized(16, 12))}, {numbered(8, 1, ipv4(1))}, {with(0xa2, numbered(0xc001, 1))},
		// Each of them is to be right.
		{cause(1), sized(4, 1)}, {sized(4, 1), cause(1)}, {cause(1), cause(2), sized(1, 2), cause(3)},
		// No deeper than 4 in all, and no longer than 65535 bytes.
		{with(8, nested(8, 2), with(8, plain(0x8000)))}, {with(8, nested(8, 3))}, {with(8, with(8, with(8, plain(0x8000))))}, {nested(8, 5000)},
		{with(11, with(8, with(8, plain(0x8000))))}, {with(8, numbered(0xc003, 1, with(5, plain(0x8000))))},
		{sized(12, 65524)}, {sized(12, 65531)}, {sized(12, 65532)}, {sized(99, 1<<20)}, {sized(12, 4), sized(12, 65516)}, slices.Repeat(nodes(plain(4)), 16382), make([]api.Node, 16384),
	}
}

// rightCauses returns lists of error causes that a result has inside.
func rightCauses() [][]api.Node {
	return [][]api.Node{
		{cause(1)}, {plain(4)}, {plain(1, 0, 5, 0, 0)}, {plain(2, 0, 0, 0, 1, 0, 1)}, {plain(6, 99, 0, 0, 4)}, {plain(0x0105, 0, 3)}, {plain(0)}, {plain(99, 1, 2, 3)}, {plain(0xffff)}, {{}},
		{with(0xa0, ipv4(1))}, {with(0xa2, ipv6(1))}, {with(5, plain(11, 'a', 0))}, {with(8, numbered(0xc001, 1, ipv4(1)))}, {with(8, ipv4(1), plain(0x8000), ipv6(1))}, {with(11, plain(0x7fff, 1))},
		{cause(1), cause(2)}, {cause(2), cause(1)}, {cause(1), cause(1), cause(1)}, {plain(12, 1), with(8, plain(7, 2)), plain(13, 3, 4), plain(99, 5, 6, 7)},
		{with(8, with(8, plain(0x8000)))}, {with(5, with(8, plain(0x8000)))}, {with(8, numbered(0xc003, 1, cause(1)))}, {with(8, with(8, plain(0x8000)), with(8, ipv4(1)))},
		{sized(12, 65523)}, {sized(12, 65522)}, {sized(12, 4), sized(12, 65515)}, {sized(99, 65523)}, slices.Repeat(nodes(plain(4)), 16381), make([]api.Node, 16381),
	}
}

// someID returns one of few identifiers, so that several are the same.
func someID(r *rand.Rand) uint32 {
	if r.Intn(10) == 0 {
		return numbers[r.Intn(len(numbers))]
	}
	return uint32(r.Intn(6))
}

// someChange and someResult return random nodes; most are right ones.
func someChange(r *rand.Rand) api.Node {
	if r.Intn(40) == 0 {
		l := nodes(ipv4(1), plain(0x8000), numbered(0xc005, 7), numbered(0xc001, 7), sized(0xc002, 12), numbered(0xc004, 7, sized(5, 3)))
		return l[r.Intn(len(l))]
	}
	a := ipv4(byte(r.Intn(256)))
	if r.Intn(2) == 0 {
		a = ipv6(byte(r.Intn(256)))
	}
	return numbered(changeTypes[r.Intn(3)], someID(r), a)
}

func someResult(r *rand.Rand) api.Node {
	if r.Intn(2) == 0 {
		return numbered(0xc005, someID(r))
	}
	l := nodes(cause(1), plain(4), plain(1, 0, 5, 0, 0), with(0xa0, ipv4(1)), with(8, ipv4(1), plain(0x8000)), plain(99, 1, 2, 3), sized(4, 1), with(99, cause(1)))
	if r.Intn(3) > 0 {
		l = l[:6]
	}
	return numbered(0xc003, someID(r), l[r.Intn(len(l))], cause(byte(r.Intn(256))))
}

// some returns random nodes, fewer than most.
func some(r *rand.Rand, most int, next func(*rand.Rand) api.Node) []api.Node {
	var l []api.Node
	for range r.Intn(most) {
		l = append(l, next(r))
	}
	return l
}

// P18.1

func TestChange(t *testing.T) {
	v6 := plain(6, 1, 2, 3, 4, 5, 6, 7, 8, 9, 10, 11, 12, 13, 14, 15, 16)
	for i, x := range []struct {
		kind uint16
		id   uint32
		a    api.Node
		data []byte
	}{
		{0xc001, 7, plain(5, 10, 0, 0, 1), []byte{0, 0, 0, 7}},
		{0xc001, 258, v6, []byte{0, 0, 1, 2}},
		{0xc002, 0, plain(5, 0, 0, 0, 0), []byte{0, 0, 0, 0}},
		{0xc002, 0x01020304, v6, []byte{1, 2, 3, 4}},
		{0xc004, math.MaxUint32, plain(5, 255, 255, 255, 255), []byte{255, 255, 255, 255}},
		{0xc004, 1 << 31, sized(6, 16), []byte{128, 0, 0, 0}},
	} {
		got, ok := asconf.Change(x.kind, x.id, x.a)
		if want := (api.Node{Type: x.kind, Data: x.data, Kids: nodes(x.a)}); !ok || !same(got, want) {
			t.Errorf("%d: Change(%#x, %d, %v): %v, %t; want %v", i, x.kind, x.id, x.a, got, ok, want)
		}
	}
	for _, kind := range changeTypes {
		for _, id := range numbers {
			if !changes(t, kind, id, ipv4(1)) || !changes(t, kind, id, ipv6(1)) {
				t.Errorf("no change %#x with the identifier %d", kind, id)
			}
		}
	}
}

func TestNoChange(t *testing.T) {
	for kind := range 1 << 16 {
		want := kind == 0xc001 || kind == 0xc002 || kind == 0xc004
		if changes(t, uint16(kind), 7, ipv4(1)) != want || changes(t, uint16(kind), 7, ipv6(1)) != want {
			t.Errorf("Change with the type %#x: %t", kind, !want)
		}
	}
	for kind := range 1 << 16 {
		if changes(t, 0xc001, 7, sized(uint16(kind), 4)) != (kind == 5) || changes(t, 0xc002, 7, sized(uint16(kind), 16)) != (kind == 6) {
			t.Errorf("Change with a parameter %#x", kind)
		}
	}
	for size := range 40 {
		if changes(t, 0xc004, 7, sized(5, size)) != (size == 4) || changes(t, 0xc004, 7, sized(6, size)) != (size == 16) {
			t.Errorf("Change with %d bytes", size)
		}
	}
	for i, a := range notAddresses() {
		for _, kind := range append([]uint16{0, 5, 0xc003, 0xc005}, changeTypes...) {
			if n, ok := asconf.Change(kind, 7, a); ok || !same(n, api.Node{}) || changes(t, kind, 7, a) {
				t.Errorf("%d: Change(%#x, 7, %s): %s, %t", i, kind, shown(a), shown(n), ok)
			}
		}
	}
}

func TestSuccess(t *testing.T) {
	for id, want := range map[uint32][]byte{
		0: {0, 0, 0, 0}, 1: {0, 0, 0, 1}, 258: {0, 0, 1, 2}, 0x01020304: {1, 2, 3, 4}, 1 << 31: {128, 0, 0, 0}, math.MaxUint32: {255, 255, 255, 255},
	} {
		if got := asconf.Success(id); !same(got, plain(0xc005, want...)) {
			t.Errorf("Success(%d): %v; want %v", id, got, want)
		}
	}
	for _, id := range numbers {
		made(t, "Success", asconf.Success(id), true, numbered(0xc005, id), true, id)
	}
}

func TestFailure(t *testing.T) {
	for i, causes := range rightCauses() {
		got, ok := asconf.Failure(0x01020304, causes...)
		if want := (api.Node{Type: 0xc003, Data: []byte{1, 2, 3, 4}, Kids: causes}); !ok || !same(got, want) || !fails(t, 9, causes...) {
			t.Errorf("%d: Failure(%s): %s, %t", i, shown(causes), shown(got), ok)
		}
	}
	for i, causes := range wrongCauses() {
		got, ok := asconf.Failure(0x01020304, causes...)
		if ok || !same(got, api.Node{}) || fails(t, 9, causes...) {
			t.Errorf("%d: Failure(%s): %s, %t", i, shown(causes), shown(got), ok)
		}
	}
	for _, id := range numbers {
		if !fails(t, id, cause(1)) || !fails(t, id, plain(4), with(8, ipv4(1))) || fails(t, id) || fails(t, id, sized(4, 1)) {
			t.Errorf("Failure with the identifier %d", id)
		}
	}
}

func TestID(t *testing.T) {
	for i, x := range []struct {
		n  api.Node
		id uint32
	}{
		{api.Node{Type: 0xc001, Data: []byte{0, 0, 0, 7}, Kids: nodes(ipv4(1))}, 7},
		{api.Node{Type: 0xc002, Data: []byte{0, 0, 1, 2}, Kids: nodes(ipv6(1))}, 258},
		{api.Node{Type: 0xc004, Data: []byte{1, 2, 3, 4}, Kids: nodes(ipv4(1))}, 0x01020304},
		{api.Node{Type: 0xc003, Data: []byte{255, 255, 255, 255}, Kids: nodes(cause(1))}, math.MaxUint32},
		{api.Node{Type: 0xc003, Data: []byte{0, 0, 0, 0}, Kids: nodes(plain(4), with(8, ipv4(1)))}, 0},
		{plain(0xc005, 128, 0, 0, 0), 1 << 31},
	} {
		if id, ok := asconf.ID(x.n); !ok || id != x.id || !identifies(t, x.n) {
			t.Errorf("%d: ID(%v): %d, %t; want %d", i, x.n, id, ok, x.id)
		}
	}
	for i, causes := range rightCauses() {
		if !identifies(t, numbered(0xc003, 9, causes...)) {
			t.Errorf("%d: ID of a result with %s", i, shown(causes))
		}
	}
}

func TestNoID(t *testing.T) {
	for i, n := range slices.Concat(notAddresses(), notChanges(), notResults()) {
		id, ok := asconf.ID(n)
		if known := isChange(n) || isResult(n); ok != known || !ok && id != 0 || identifies(t, n) != known {
			t.Errorf("%d: ID(%s): %d, %t", i, shown(n), id, ok)
		}
	}
	for kind := range 1 << 16 {
		k := uint16(kind)
		if identifies(t, numbered(k, 7)) != (k == 0xc005) || identifies(t, numbered(k, 7, ipv4(1))) != slices.Contains(changeTypes, k) || identifies(t, numbered(k, 7, cause(1))) != (k == 0xc003) {
			t.Errorf("ID of the type %#x", kind)
		}
	}
}

// P18.2

func TestRequest(t *testing.T) {
	first, _ := asconf.Change(0xc001, 7, ipv4(2))
	second, _ := asconf.Change(0xc002, 8, ipv6(3))
	third, _ := asconf.Change(0xc004, 7, ipv4(2))
	for i, l := range [][]api.Node{{first}, {second}, {first, second}, {second, first}, {third, third, second}, {third, second, first, second}} {
		for _, a := range nodes(ipv4(1), ipv6(1)) {
			got, ok := asconf.Request(0x01020304, a, l...)
			want := api.Chunk{Type: api.Asconf, Data: []byte{1, 2, 3, 4}, Kids: append(nodes(a), l...)}
			if !ok || !sameChunks(got, want) {
				t.Errorf("%d: Request(%v, %v): %v, %t; want %v", i, a, l, got, ok, want)
			}
			for _, serial := range numbers {
				if !requests(t, serial, a, l...) {
					t.Errorf("%d: no request with the number %d", i, serial)
				}
			}
		}
	}
}

func TestNoRequest(t *testing.T) {
	change := numbered(0xc001, 7, ipv4(2))
	if c, ok := asconf.Request(9, ipv4(1)); ok || !sameChunks(c, api.Chunk{}) || requests(t, 9, ipv4(1)) {
		t.Errorf("Request without changes: %v, %t", c, ok)
	}
	for i, a := range append(notAddresses(), change, numbered(0xc005, 7)) {
		if c, ok := asconf.Request(9, a, change); ok || !sameChunks(c, api.Chunk{}) || requests(t, 9, a, change, change) || requests(t, 9, a) {
			t.Errorf("%d: Request(%s): %s, %t", i, shown(a), shown(c), ok)
		}
	}
	for i, n := range notChanges() {
		for _, l := range [][]api.Node{{n}, {n, change}, {change, n}, {change, n, change}, {n, n}} {
			if c, ok := asconf.Request(9, ipv6(1), l...); ok || !sameChunks(c, api.Chunk{}) || requests(t, 9, ipv4(1), l...) {
				t.Errorf("%d: Request(%s): %s, %t", i, shown(l), shown(c), ok)
			}
		}
	}
}

func TestRequestOfAllTypes(t *testing.T) {
	change := numbered(0xc001, 7, ipv4(2))
	for kind := range 1 << 16 {
		k := uint16(kind)
		want := slices.Contains(changeTypes, k)
		n := numbered(k, 7, ipv4(2))
		if requests(t, 9, ipv4(1), n) != want || requests(t, 9, ipv4(1), change, n) != want || requests(t, 9, numbered(k, 7), change) != (k == 5) {
			t.Errorf("Request with the type %#x", kind)
		}
		// Right parameters, but no changes.
		if requests(t, 9, ipv4(1), plain(k)) || requests(t, 9, ipv4(1), change, numbered(k, 7)) {
			t.Errorf("Request with a plain parameter %#x", kind)
		}
	}
}

func TestAnswer(t *testing.T) {
	failed, _ := asconf.Failure(8, cause(1), with(0xa0, ipv4(1)))
	done := asconf.Success(7)
	for i, l := range [][]api.Node{nil, {}, {done}, {failed}, {done, failed}, {failed, done}, {done, done}, {failed, done, failed, failed}} {
		got, ok := asconf.Answer(0x01020304, l...)
		if want := (api.Chunk{Type: api.AsconfAck, Data: []byte{1, 2, 3, 4}, Kids: l}); !ok || !sameChunks(got, want) {
			t.Errorf("%d: Answer(%v): %v, %t; want %v", i, l, got, ok, want)
		}
		for _, serial := range numbers {
			if !responds(t, serial, l...) {
				t.Errorf("%d: no answer with the number %d", i, serial)
			}
		}
	}
}

func TestNoAnswer(t *testing.T) {
	done := numbered(0xc005, 7)
	for i, n := range notResults() {
		for _, l := range [][]api.Node{{n}, {n, done}, {done, n}, {done, n, done}, {n, n}} {
			if c, ok := asconf.Answer(9, l...); ok || !sameChunks(c, api.Chunk{}) || responds(t, 9, l...) {
				t.Errorf("%d: Answer(%s): %s, %t", i, shown(l), shown(c), ok)
			}
		}
	}
	for kind := range 1 << 16 {
		k := uint16(kind)
		if responds(t, 9, numbered(k, 7)) != (k == 0xc005) || responds(t, 9, done, numbered(k, 7, cause(1))) != (k == 0xc003) || responds(t, 9, plain(k)) {
			t.Errorf("Answer with the type %#x", kind)
		}
	}
}

func TestLongChunks(t *testing.T) {
	// All bytes of a chunk are at most 65535: those of its kids, at most 65527.
	v4, v6, done := numbered(0xc001, 7, ipv4(2)), numbered(0xc002, 8, ipv6(2)), numbered(0xc005, 7)
	for i, x := range []struct {
		a     api.Node
		l     []api.Node
		isOne bool
	}{
		{ipv4(1), slices.Repeat(nodes(v4), 4094), true}, {ipv4(1), slices.Repeat(nodes(v4), 4095), false}, {ipv6(1), slices.Repeat(nodes(v4), 4094), true}, {ipv6(1), slices.Repeat(nodes(v4), 4095), false},
		{ipv4(1), slices.Repeat(nodes(v6), 2339), true}, {ipv4(1), slices.Repeat(nodes(v6), 2340), false}, {ipv4(1), slices.Repeat(nodes(v4), 16383), false}, {ipv4(1), slices.Repeat(nodes(v4), 1<<20), false},
	} {
		if requests(t, 9, x.a, x.l...) != x.isOne {
			t.Errorf("%d: Request: %t", i, !x.isOne)
		}
	}
	failed := func(size int) api.Node { return numbered(0xc003, 7, sized(12, size)) }
	for i, x := range []struct {
		l     []api.Node
		isOne bool
	}{
		{slices.Repeat(nodes(done), 8190), true}, {slices.Repeat(nodes(done), 8191), false}, {slices.Repeat(nodes(done), 16384), false}, {slices.Repeat(nodes(done), 16385), false}, {slices.Repeat(nodes(done), 1<<20), false},
		{nodes(failed(65515)), true}, {nodes(failed(65516)), false}, {nodes(failed(65523)), false}, {nodes(done, failed(65507)), true}, {nodes(done, failed(65508)), false},
		// There is padding in front of the second one.
		{nodes(failed(65505), done), false}, {nodes(failed(65504), done), true}, {nodes(failed(65503), done), true},
	} {
		if responds(t, 9, x.l...) != x.isOne {
			t.Errorf("%d: Answer: %t", i, !x.isOne)
		}
	}
}

func TestSerial(t *testing.T) {
	change, failed, done := numbered(0xc001, 7, ipv4(2)), numbered(0xc003, 7, cause(1)), numbered(0xc005, 7)
	for i, x := range []struct {
		c      api.Chunk
		serial uint32
	}{
		{api.Chunk{Type: 193, Data: []byte{0, 0, 1, 2}, Kids: nodes(ipv4(1), change)}, 258},
		{api.Chunk{Type: 193, Data: []byte{1, 2, 3, 4}, Kids: nodes(ipv6(1), change, change)}, 0x01020304},
		{api.Chunk{Type: 128, Data: []byte{255, 255, 255, 255}}, math.MaxUint32},
		{api.Chunk{Type: 128, Data: []byte{128, 0, 0, 0}, Kids: nodes(done)}, 1 << 31},
		{api.Chunk{Type: 128, Data: []byte{0, 0, 0, 0}, Kids: nodes(failed, done)}, 0},
	} {
		if serial, ok := asconf.Serial(x.c); !ok || serial != x.serial || !reads(t, x.c) {
			t.Errorf("%d: Serial(%v): %d, %t; want %d", i, x.c, serial, ok, x.serial)
		}
		for kind := range 256 {
			c := x.c
			c.Type = byte(kind)
			if reads(t, c) != (c.Type == x.c.Type) {
				t.Errorf("%d: Serial of the type %d", i, kind)
			}
			c = x.c
			c.Flags = byte(kind)
			if reads(t, c) != (kind == 0) {
				t.Errorf("%d: Serial with the flags %d", i, kind)
			}
		}
		for _, size := range []int{0, 1, 2, 3, 5, 6, 8, 12, 16, 65531, 65532, 1 << 20} {
			c := x.c
			c.Data = make([]byte, size)
			if reads(t, c) {
				t.Errorf("%d: Serial of %d bytes", i, size)
			}
		}
	}
}

func TestSerialOfOtherChunks(t *testing.T) {
	change, done := numbered(0xc001, 7, ipv4(2)), numbered(0xc005, 7)
	others := []api.Chunk{{}, request(9), request(9, ipv4(1)), request(9, change), request(9, change, change), request(9, change, ipv4(1)), request(9, make([]api.Node, 1<<20)...), answer(9, make([]api.Node, 1<<20)...)}
	for _, n := range notAddresses() {
		others = append(others, request(9, n, change), request(9, n))
	}
	for _, n := range notChanges() {
		others = append(others, request(9, ipv4(1), n), request(9, ipv4(1), n, change), request(9, ipv4(1), change, n))
	}
	for _, n := range notResults() {
		others = append(others, answer(9, n), answer(9, n, done), answer(9, done, n))
	}
	for i, c := range others {
		if serial, ok := asconf.Serial(c); ok || serial != 0 || reads(t, c) {
			t.Errorf("%d: Serial(%s): %d, %t", i, shown(c), serial, ok)
		}
	}
}

func TestRandomChunks(t *testing.T) {
	r := rand.New(rand.NewSource(1))
	requested, responded := 0, 0
	for range 20000 {
		a := ipv4(1)
		if r.Intn(10) == 0 {
			l := nodes(sized(5, 3), sized(6, 4), plain(0x8000), numbered(0xc001, 7, ipv4(1)), numbered(5, 1, ipv4(1)), ipv6(1))
			a = l[r.Intn(len(l))]
		}
		if requests(t, r.Uint32(), a, some(r, 6, someChange)...) {
			requested++
		}
		if responds(t, r.Uint32(), some(r, 6, someResult)...) {
			responded++
		}
	}
	if requested < 10000 || requested > 18000 || responded < 10000 || responded > 19000 {
		t.Error(requested, "requests,", responded, "answers")
	}
}

// P18.3

func TestResults(t *testing.T) {
	for i, x := range []struct {
		q, a api.Chunk
		want []int
	}{
		{asked(9, 7, 8), answered(9, 8), []int{0, 1}},
		{asked(9, 7, 8), answered(9, 7), []int{1, 0}},
		{asked(9, 7, 8), answered(9, -7), []int{2, 0}},
		{asked(9, 7, 8), answered(9, -8, 7), []int{1, 2}},
		{asked(9, 7, 8), answered(9), []int{0, 0}},
		{asked(9, 7, 8), answered(9, 1, -2, 3), []int{0, 0}},
		{asked(9, 7), answered(9, 6, 7, -8), []int{1}},
		// The first result with an identifier counts, for each change that has it.
		{asked(9, 7), answered(9, 7, -7), []int{1}},
		{asked(9, 7), answered(9, -7, 7), []int{2}},
		{asked(9, 7), answered(9, -7, 7, 7, 7), []int{2}},
		{asked(9, 7, 8, 7), answered(9, 8, 7, -7, -8), []int{1, 1, 1}},
		{asked(9, 7, 7, 8, 7), answered(9, -7), []int{2, 2, 0, 2}},
		{asked(9, 5, 4, 3, 2, 1), answered(9, 1, -2, 3, -4), []int{0, 2, 1, 2, 1}},
		{asked(9, 0, 1, 256, 65536, 1<<24), answered(9, 1<<24, -256), []int{0, 0, 2, 0, 1}},
		{asked(0, 0), answered(0, 0), []int{1}},
		{asked(math.MaxUint32, math.MaxUint32, 0), answered(math.MaxUint32, math.MaxUint32), []int{1, 0}},
	} {
		got, ok := asconf.Results(x.q, x.a)
		if !ok || !slices.Equal(got, x.want) || !compares(t, x.q, x.a) {
			t.Errorf("%d: Results(%v, %v): %v, %t; want %v", i, x.q, x.a, got, ok, x.want)
		}
	}
}

func TestResultsBySerial(t *testing.T) {
	for _, x := range numbers {
		for _, y := range numbers {
			// The identifiers do not count.
			q, a := asked(x, y, x), answered(y, int(x), -int(y))
			if got, ok := asconf.Results(q, a); ok != (x == y) || !ok && len(got) != 0 || compares(t, q, a) != ok {
				t.Errorf("Results with the numbers %d and %d: %v, %t", x, y, got, ok)
			}
		}
	}
}

func TestResultsByIdentifier(t *testing.T) {
	for i, x := range numbers {
		for j, y := range numbers {
			q := asked(9, x, y)
			compares(t, q, answer(9, numbered(0xc005, x), numbered(0xc003, y, cause(1))))
			if got, ok := asconf.Results(q, answer(9, numbered(0xc003, y, cause(1)))); !ok || got[1] != 2 || got[0] != map[bool]int{true: 2}[i == j] {
				t.Errorf("Results for the identifiers %d and %d: %v, %t", x, y, got, ok)
			}
		}
	}
}

func TestNoResults(t *testing.T) {
	q, a := asked(9, 7, 8), answered(9, 7, -8)
	if !compares(t, q, a) {
		t.Errorf("Results(%v, %v)", q, a)
	}
	change, done := q.Kids[1], a.Kids[0]
	others := []api.Chunk{
		{}, request(9), request(9, ipv4(1)), request(9, change, change), request(9, ipv4(1), done), request(9, ipv4(1), change, done), request(9, sized(5, 3), change), answer(9, change), answer(9, ipv4(1), change),
		answer(9, ipv4(1)), answer(9, done, plain(0x8000)), answer(9, sized(0xc005, 3)), answer(9, numbered(0xc003, 7)), {Type: 130, Kids: nodes(plain(15, 0, 0, 0, 9))}, {Type: 7, Data: four(9)}, {Type: 99, Data: four(9)},
		{Type: 193, Flags: 1, Data: four(9), Kids: q.Kids}, {Type: 193, Kids: q.Kids}, {Type: 193, Data: make([]byte, 5), Kids: q.Kids}, {Type: 192, Data: four(9)}, {Type: 193, Data: four(9), Kids: a.Kids},
		{Type: 128, Flags: 128, Data: four(9), Kids: a.Kids}, {Type: 128, Kids: a.Kids}, {Type: 128, Data: make([]byte, 3), Kids: a.Kids}, {Type: 129, Data: four(9), Kids: a.Kids}, {Type: 128, Data: four(9), Kids: q.Kids},
	}
	for i, c := range others {
		for _, x := range [][2]api.Chunk{{q, c}, {c, a}, {c, c}, {a, c}, {c, q}} {
			if got, ok := asconf.Results(x[0], x[1]); ok || len(got) != 0 || compares(t, x[0], x[1]) {
				t.Errorf("%d: Results(%v, %v): %v, %t", i, x[0], x[1], got, ok)
			}
		}
	}
	for _, x := range [][2]api.Chunk{{a, q}, {q, q}, {a, a}, {answered(9), answered(9)}} {
		if got, ok := asconf.Results(x[0], x[1]); ok || len(got) != 0 || compares(t, x[0], x[1]) {
			t.Errorf("Results(%v, %v): %v, %t", x[0], x[1], got, ok)
		}
	}
}

func TestResultsOfRandomChunks(t *testing.T) {
	r := rand.New(rand.NewSource(2))
	found := 0
	for range 20000 {
		q := request(9, append(nodes(ipv4(1)), some(r, 6, someChange)...)...)
		a := answer(uint32(9+r.Intn(10)/9), some(r, 8, someResult)...)
		if compares(t, q, a) {
			found++
		}
		compares(t, a, q)
	}
	if found < 8000 || found > 17000 {
		t.Error(found, "with results")
	}
}

func TestManyResults(t *testing.T) {
	q, a := asked(9), answered(9)
	for i := range 2300 {
		q.Kids = append(q.Kids, numbered(0xc001, uint32(i*2654435761), ipv4(byte(i))))
	}
	for i := range 4600 {
		a.Kids = append(a.Kids, numbered(0xc005, uint32((4599-i)*2654435761)))
	}
	a.Kids[4599] = numbered(0xc003, 0, cause(1))
	got, ok := asconf.Results(q, a)
	if !ok || len(got) != 2300 || got[0] != 2 || slices.ContainsFunc(got[1:], func(x int) bool { return x != 1 }) || !compares(t, q, a) {
		t.Errorf("Results: %s, %t", shown(got), ok)
	}
	a.Kids = a.Kids[:2300]
	if got, ok := asconf.Results(q, a); !ok || slices.ContainsFunc(got, func(x int) bool { return x != 0 }) || len(got) != 2300 || !compares(t, q, a) {
		t.Errorf("Results: %s, %t", shown(got), ok)
	}
}

// P18.4: all of it is checked with P18.2 too; here through the bytes of chunks.

func TestThroughBytes(t *testing.T) {
	r := rand.New(rand.NewSource(3))
	parsed := func(c api.Chunk, ok bool) api.Chunk {
		b, err := chunk.Encode(c)
		if !ok || err != nil {
			t.Fatal(c, ok, err)
		}
		if c, err = chunk.Parse(b); err != nil {
			t.Fatal(c, err)
		}
		return c
	}
	for range 3000 {
		serial, id := r.Uint32(), r.Uint32()
		a, _ := address.Of([]byte{10, 0, byte(id), 1})
		first, _ := asconf.Change(changeTypes[r.Intn(3)], id, a)
		second, _ := asconf.Change(changeTypes[r.Intn(3)], ^id, ipv6(byte(id)))
		third, _ := asconf.Change(changeTypes[r.Intn(3)], id+1, ipv6(byte(id)))
		failed, _ := asconf.Failure(id, cause(1), with(0xa0, a))
		q := parsed(asconf.Request(serial, a, first, second, third))
		c := parsed(asconf.Answer(serial, failed, asconf.Success(^id), asconf.Success(id)))
		for _, x := range []api.Chunk{q, c} {
			if back, ok := asconf.Serial(x); !ok || back != serial {
				t.Fatalf("Serial(%v): %d, %t; want %d", x, back, ok, serial)
			}
		}
		if got, ok := asconf.Results(q, c); !ok || !slices.Equal(got, []int{2, 1, resultOf(third, c.Kids)}) {
			t.Fatalf("Results(%v, %v): %v, %t", q, c, got, ok)
		}
	}
}

// The rules: arguments stay as they are, and no memory is shared.

// scribble changes all bytes and all nodes, also those of the unused capacity.
func scribble(l []api.Node) {
	l = l[:cap(l)]
	for i, n := range l {
		scribbleBytes(n.Data)
		scribble(n.Kids)
		l[i] = plain(^n.Type, 0xee)
	}
}

func scribbleBytes(b []byte) {
	b = b[:cap(b)]
	for i := range b {
		// Several times do not give the same bytes again.
		b[i] += 41
	}
}

// copied returns the same nodes in new memory, with unused capacity that is not
// zero, and whole returns them with that capacity as parts of them.
func copied(l []api.Node) []api.Node {
	c := make([]api.Node, len(l), len(l)+1)
	c[:len(l)+1][len(l)] = plain(0xcccc, 0xdd)
	for i, n := range l {
		c[i] = api.Node{Type: n.Type, Data: append(bytes.Clone(n.Data), 0xaa, 0xbb)[:len(n.Data)], Kids: copied(n.Kids)}
	}
	return c
}

func whole(l []api.Node) []api.Node {
	c := slices.Clone(l[:cap(l)])
	for i, n := range c {
		c[i].Data, c[i].Kids = bytes.Clone(n.Data[:cap(n.Data)]), whole(n.Kids)
	}
	return c
}

func TestParametersShareNoMemory(t *testing.T) {
	for _, from := range [][]api.Node{{ipv4(1)}, {ipv6(1)}} {
		l := copied(from)
		before := whole(l)
		n, _ := asconf.Change(0xc001, 7, l[0])
		other, _ := asconf.Change(0xc001, 7, l[0])
		asconf.ID(l[0])
		if !slices.EqualFunc(whole(l), before, same) {
			t.Error("Change changes the address", l)
		}
		scribble(l)
		scribble(nodes(other))
		if !same(n, numbered(0xc001, 7, from...)) {
			t.Error("a change shares memory", n)
		}
	}
	from := nodes(cause(1), with(8, with(8, ipv4(1)), ipv6(2)), cause(2))
	l := copied(from)
	before := whole(l)
	n, _ := asconf.Failure(7, l...)
	other, _ := asconf.Failure(7, l...)
	asconf.ID(n)
	if !slices.EqualFunc(whole(l), before, same) {
		t.Error("Failure changes the causes", l)
	}
	scribble(l)
	scribble(nodes(other))
	if !same(n, numbered(0xc003, 7, from...)) {
		t.Error("a failure shares memory", n)
	}
	done, again := asconf.Success(7), asconf.Success(7)
	scribble(nodes(done))
	if !same(again, numbered(0xc005, 7)) {
		t.Error("successes share memory", again)
	}
}

func TestChunksShareNoMemory(t *testing.T) {
	for _, x := range []struct {
		from []api.Node
		put  func(l []api.Node) (api.Chunk, bool)
	}{
		{nodes(ipv4(1), numbered(0xc001, 7, ipv4(2)), numbered(0xc002, 8, ipv6(3))), func(l []api.Node) (api.Chunk, bool) { return asconf.Request(9, l[0], l[1:]...) }},
		{nodes(numbered(0xc005, 7), numbered(0xc003, 8, cause(1), with(8, ipv4(1)))), func(l []api.Node) (api.Chunk, bool) { return asconf.Answer(9, l...) }},
	} {
		l := copied(x.from)
		before := whole(l)
		c, _ := x.put(l)
		other, _ := x.put(l)
		if !slices.EqualFunc(whole(l), before, same) {
			t.Error("the parameters are changed", l)
		}
		scribble(l)
		scribble(other.Kids)
		scribbleBytes(other.Data)
		if !slices.EqualFunc(c.Kids, x.from, same) || !bytes.Equal(c.Data, four(9)) {
			t.Error("a chunk shares memory", c)
		}
		// No two slices of one result share memory.
		scribbleBytes(c.Data)
		scribble(nodes(c.Kids[0]))
		if !slices.EqualFunc(c.Kids[1:], x.from[1:], same) {
			t.Error("the parts of a chunk share memory", c)
		}
	}
	// One parameter that is given twice is put in a chunk twice.
	done := asconf.Success(7)
	c, _ := asconf.Answer(9, done, done)
	scribble(c.Kids[:1:1])
	if !same(c.Kids[1], numbered(0xc005, 7)) || !same(done, c.Kids[1]) {
		t.Error("a chunk shares memory with itself", c, done)
	}
}

func TestResultsShareNoMemory(t *testing.T) {
	q, a := asked(9, 7, 8, 9), answered(9, 9, -8, 8)
	q.Kids, a.Kids = copied(q.Kids), copied(a.Kids)
	asking, answering := whole(q.Kids), whole(a.Kids)
	got, _ := asconf.Results(q, a)
	again, _ := asconf.Results(q, a)
	for i := range got[:cap(got)] {
		got[:cap(got)][i] = 9
	}
	if want := []int{0, 2, 1}; !slices.Equal(again, want) {
		t.Error("results share memory", again)
	}
	asconf.Serial(q)
	asconf.Serial(a)
	if !slices.EqualFunc(whole(q.Kids), asking, same) || !slices.EqualFunc(whole(a.Kids), answering, same) {
		t.Error("Results or Serial changes the chunks", q, a)
	}
}

// P1: all arguments are allowed, and the functions may be called concurrently.

func TestAnyArguments(t *testing.T) {
	deep, wide := nested(0xc003, 1<<16), numbered(0xc003, 7, slices.Repeat(nodes(with(8, make([]api.Node, 100)...)), 1000)...)
	deepCause := with(8, nested(8, 1<<16))
	l := nodes(deep, wide, deepCause, nested(8, 5000), sized(0xc003, 1<<20), sized(0xc005, 1<<20), with(0xc001, deep), numbered(0xc001, 7, deep), numbered(0xc003, 7, deep), numbered(0xc003, 7, deepCause), api.Node{})
	for _, n := range l {
		if identifies(t, n) || changes(t, 0xc001, 7, n) || requests(t, 9, n, numbered(0xc001, 7, ipv4(1))) || requests(t, 9, ipv4(1), n) || responds(t, 9, n) {
			t.Errorf("%s", shown(n))
		}
		fails(t, 9, n)
		fails(t, 9, cause(1), n)
		c := answer(9, n)
		if reads(t, c) || reads(t, request(9, ipv4(1), n)) || compares(t, asked(9, 7), c) || compares(t, request(9, n, n), answered(9, 7)) {
			t.Errorf("%s", shown(c))
		}
	}
	requests(t, 9, l[0], l...)
	responds(t, 9, l...)
	fails(t, 9, l...)
}

func TestConcurrently(t *testing.T) {
	q, a := asked(9, 7, 8), answered(9, 8, -7)
	var group sync.WaitGroup
	for range 8 {
		group.Go(func() {
			for range 50 {
				if got, ok := asconf.Results(q, a); !ok || !slices.Equal(got, []int{2, 1}) {
					t.Error("Results", got, ok)
				}
				change, _ := asconf.Change(0xc001, 7, ipv6(0))
				failed, _ := asconf.Failure(7, cause(1))
				if id, ok := asconf.ID(change); !ok || id != 7 || !same(change, q.Kids[1]) || !same(failed, a.Kids[1]) || !same(asconf.Success(8), a.Kids[0]) {
					t.Error("Change, Failure, Success or ID")
				}
				asking, _ := asconf.Request(9, ipv4(1), q.Kids[1:]...)
				answering, _ := asconf.Answer(9, a.Kids...)
				if serial, ok := asconf.Serial(asking); !ok || serial != 9 || !sameChunks(asking, q) || !sameChunks(answering, a) {
					t.Error("Request, Answer or Serial")
				}
			}
		})
	}
	group.Wait()
}
