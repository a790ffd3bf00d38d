package data_test

import (
	"bytes"
	"encoding/binary"
	"math"
	"math/rand"
	"reflect"
	"slices"
	"sync"
	"testing"

	"wharf/api"
	"wharf/chunk"
	"wharf/data"
)

// The greatest numbers of bytes of User of a data chunk and an i-data chunk.
const (
	mostData  = 65519
	mostIData = 65515
)

// message returns a description with Begin and End.
func message(inter bool, user ...byte) data.Part {
	return data.Part{
		Inter: inter, TSN: 0x01020304, Stream: 0x0506, Seq: 0x0708, Proto: 0x090a0b0c,
		Begin: true, End: true, User: user,
	}
}

// long returns n bytes that differ from those next to them.
func long(n int) []byte {
	b := make([]byte, n)
	for i := range b {
		b[i] = byte(i)
	}
	return b
}

// changed returns a description with a change.
func changed(p data.Part, change func(*data.Part)) data.Part {
	change(&p)
	return p
}

// same reports whether all fields are the same, by the definition.
func same(a, b data.Part) bool {
	if string(a.User) != string(b.User) {
		return false
	}
	a.User, b.User = nil, nil
	return reflect.DeepEqual(a, b)
}

// sameAll reports whether two lists have the same descriptions.
func sameAll(a, b []data.Part) bool { return slices.EqualFunc(a, b, same) }

// zeroChunk and zeroPart report whether a result is the zero value.
func zeroChunk(c api.Chunk) bool { return chunk.Same(c, api.Chunk{}) }
func zeroPart(p data.Part) bool  { return same(p, data.Part{}) }

// right reports whether p is a description.
func right(p data.Part) bool {
	if p.Inter {
		return len(p.User) > 0 && len(p.User) <= mostIData
	}
	return len(p.User) > 0 && len(p.User) <= mostData && p.Seq < 1<<16
}

// written returns the chunk of a description by its definition.
func written(p data.Part) api.Chunk {
	var c api.Chunk
	for i, on := range []bool{p.End, p.Begin, p.Unordered, p.Now} {
		if on {
			c.Flags |= 1 << i
		}
	}
	b := binary.BigEndian.AppendUint32(nil, p.TSN)
	b = binary.BigEndian.AppendUint16(b, p.Stream)
	if p.Inter {
		c.Type = 64
		b = binary.BigEndian.AppendUint32(append(b, 0, 0), p.Seq)
	} else {
		b = binary.BigEndian.AppendUint16(b, uint16(p.Seq))
	}
	b = binary.BigEndian.AppendUint32(b, p.Proto)
	c.Data = append(b, p.User...)
	return c
}

// cut returns the pieces of a description with Begin and End by their
// definition.
func cut(p data.Part, n int) []data.Part {
	var l []data.Part
	for k, at := 0, 0; at < len(p.User); k++ {
		end := len(p.User)
		if n < end-at {
			end = at + n
		}
		q := p
		q.TSN = uint32((uint64(p.TSN) + uint64(k)) % (1 << 32))
		q.Begin, q.End = at == 0, end == len(p.User)
		if p.Inter && k > 0 {
			q.Proto = uint32(k)
		}
		q.User = p.User[at:end]
		l = append(l, q)
		at = end
	}
	return l
}

// glued returns the description with Begin and End whose pieces are l for any
// number of bytes, and true, by trying all numbers.
func glued(l []data.Part) (data.Part, bool) {
	if len(l) == 0 {
		return data.Part{}, false
	}
	p := l[0]
	p.Begin, p.End, p.User = true, true, nil
	for _, piece := range l {
		p.User = append(p.User, piece.User...)
	}
	if !right(p) {
		return data.Part{}, false
	}
	for n := 1; n <= len(p.User); n++ {
		if sameAll(cut(p, n), l) {
			return p, true
		}
	}
	return data.Part{}, false
}

// some returns a random description with at most n bytes.
func some(r *rand.Rand, n int) data.Part {
	p := data.Part{
		Inter: r.Intn(2) == 0, TSN: r.Uint32(), Stream: uint16(r.Uint32()), Seq: r.Uint32(), Proto: r.Uint32(),
		Begin: r.Intn(2) == 0, End: r.Intn(2) == 0, Unordered: r.Intn(2) == 0, Now: r.Intn(2) == 0,
		User: make([]byte, 1+r.Intn(n)),
	}
	if !p.Inter {
		p.Seq %= 1 << 16
	}
	if r.Intn(3) == 0 {
		p.TSN = -uint32(r.Intn(5)) // the next ones are 0 and 1
	}
	r.Read(p.User)
	return p
}

// someMessage returns a random description with Begin and End.
func someMessage(r *rand.Rand, n int) data.Part {
	p := some(r, n)
	p.Begin, p.End = true, true
	return p
}

// changes are ways to change a description in one field.
func changes() []func(*data.Part) {
	return []func(*data.Part){
		func(p *data.Part) { p.Inter = !p.Inter },
		func(p *data.Part) { p.TSN++ },
		func(p *data.Part) { p.TSN-- },
		func(p *data.Part) { p.TSN ^= 1 << 31 },
		func(p *data.Part) { p.Stream++ },
		func(p *data.Part) { p.Stream ^= 1 << 15 },
		func(p *data.Part) { p.Seq++ },
		func(p *data.Part) { p.Seq ^= 1 << 15 },
		func(p *data.Part) { p.Seq ^= 1 << 16 },
		func(p *data.Part) { p.Seq ^= 1 << 31 },
		func(p *data.Part) { p.Proto++ },
		func(p *data.Part) { p.Proto ^= 1 << 31 },
		func(p *data.Part) { p.Begin = !p.Begin },
		func(p *data.Part) { p.End = !p.End },
		func(p *data.Part) { p.Unordered = !p.Unordered },
		func(p *data.Part) { p.Now = !p.Now },
		func(p *data.Part) { p.User = append(bytes.Clone(p.User), 0) },
	}
}

// filled returns a copy of a description with unused capacity that is not zero.
func filled(p data.Part) data.Part {
	p.User = append(bytes.Clone(p.User), 0xaa, 0xbb)[:len(p.User)]
	return p
}

// filledAll returns copies of descriptions in new memory, with unused capacity
// that is not zero.
func filledAll(l []data.Part) []data.Part {
	c := make([]data.Part, len(l), len(l)+1)
	for i, p := range l {
		c[i] = filled(p)
	}
	c[:cap(c)][len(l)] = data.Part{TSN: 0xcccc}
	return c
}

// isFilled reports whether a list is what filledAll made of other ones.
func isFilled(l, from []data.Part) bool {
	for i, p := range from {
		if !same(l[i], p) || !bytes.Equal(l[i].User[len(p.User):len(p.User)+2], []byte{0xaa, 0xbb}) {
			return false
		}
	}
	return len(l) == len(from) && same(l[:len(l)+1][len(l)], data.Part{TSN: 0xcccc})
}

// scribble changes all bytes, also those of the unused capacity.
func scribble(b []byte) {
	b = b[:cap(b)]
	for i := range b {
		b[i] ^= 0xff
	}
}

// P13.1

func TestMake(t *testing.T) {
	for i, x := range []struct {
		p    data.Part
		want api.Chunk
	}{
		{message(false, 13), api.Chunk{Type: 0, Flags: 3, Data: []byte{1, 2, 3, 4, 5, 6, 7, 8, 9, 10, 11, 12, 13}}},
		{message(true, 13, 14), api.Chunk{Type: 64, Flags: 3, Data: []byte{1, 2, 3, 4, 5, 6, 0, 0, 0, 0, 7, 8, 9, 10, 11, 12, 13, 14}}},
		{data.Part{User: []byte{0}}, api.Chunk{Data: make([]byte, 13)}},
		{data.Part{Inter: true, User: []byte{0}}, api.Chunk{Type: 64, Data: make([]byte, 17)}},
		{data.Part{End: true, User: []byte{0}}, api.Chunk{Flags: 1, Data: make([]byte, 13)}},
		{data.Part{Begin: true, User: []byte{0}}, api.Chunk{Flags: 2, Data: make([]byte, 13)}},
		{data.Part{Unordered: true, User: []byte{0}}, api.Chunk{Flags: 4, Data: make([]byte, 13)}},
		{data.Part{Now: true, User: []byte{0}}, api.Chunk{Flags: 8, Data: make([]byte, 13)}},
		{data.Part{Inter: true, End: true, Now: true, User: []byte{0}}, api.Chunk{Type: 64, Flags: 9, Data: make([]byte, 17)}},
		{data.Part{Inter: true, Begin: true, Unordered: true, User: []byte{0}}, api.Chunk{Type: 64, Flags: 6, Data: make([]byte, 17)}},
		{
			data.Part{TSN: 1<<32 - 1, Stream: 1<<16 - 1, Seq: 1<<16 - 1, Proto: 1<<32 - 1, Begin: true, End: true, Unordered: true, Now: true, User: []byte{255}},
			api.Chunk{Flags: 15, Data: bytes.Repeat([]byte{255}, 13)},
		},
		{
			data.Part{Inter: true, TSN: 1, Stream: 2, Seq: 1<<32 - 1, Proto: 4, User: []byte{5}},
			api.Chunk{Type: 64, Data: []byte{0, 0, 0, 1, 0, 2, 0, 0, 255, 255, 255, 255, 0, 0, 0, 4, 5}},
		},
		{data.Part{Inter: true, Seq: 1 << 16, User: []byte{5}}, api.Chunk{Type: 64, Data: []byte{0, 0, 0, 0, 0, 0, 0, 0, 0, 1, 0, 0, 0, 0, 0, 0, 5}}},
	} {
		got, ok := data.Make(x.p)
		if !ok || !chunk.Same(got, x.want) || chunk.Check(got) != nil {
			t.Errorf("%d: Make(%v): %v, %t; want %v", i, x.p, got, ok, x.want)
		}
		back, ok := data.Of(x.want)
		if !ok || !same(back, x.p) {
			t.Errorf("%d: Of(%v): %v, %t; want %v", i, x.want, back, ok, x.p)
		}
	}
}

func TestMakeOfTheGreatest(t *testing.T) {
	for _, p := range []data.Part{message(false, long(mostData)...), message(true, long(mostIData)...)} {
		c, ok := data.Make(p)
		if !ok || chunk.Size(c) != 65535 || chunk.Check(c) != nil || !chunk.Same(c, written(p)) {
			t.Error(p.Inter, ok, chunk.Size(c))
		}
		if back, ok := data.Of(c); !ok || !same(back, p) {
			t.Error(p.Inter, ok)
		}
		p.User = append(p.User, 0)
		if c, ok := data.Make(p); ok || !zeroChunk(c) {
			t.Error(p.Inter, ok, chunk.Size(c))
		}
	}
}

func TestMakeOfNone(t *testing.T) {
	for i, p := range []data.Part{
		{}, {Inter: true}, message(false), message(true), message(false, []byte{}...), message(true, []byte{}...),
		changed(message(false, 1), func(p *data.Part) { p.Seq = 1 << 16 }),
		changed(message(false, 1), func(p *data.Part) { p.Seq = 1<<31 + 1 }),
		changed(message(false, 1), func(p *data.Part) { p.Seq = 1<<32 - 1 }),
		message(false, long(mostData+1)...), message(true, long(mostIData+1)...), message(true, long(mostData)...),
		message(false, long(65535)...), message(true, long(65536)...), message(false, long(65537)...), message(true, long(1<<20)...),
	} {
		if c, ok := data.Make(p); ok || !zeroChunk(c) {
			t.Errorf("%d: %v, %t", i, c, ok)
		}
	}
}

func TestMakeWithAllFlags(t *testing.T) {
	for flags := range byte(32) {
		bit := func(x byte) bool { return flags&x != 0 }
		p := data.Part{
			Inter: bit(16), TSN: 7, Stream: 8, Seq: 9, Proto: 10,
			End: bit(1), Begin: bit(2), Unordered: bit(4), Now: bit(8), User: []byte{11, 12, 13},
		}
		c, ok := data.Make(p)
		if !ok || c.Flags != flags%16 || c.Type != flags/16*64 || !chunk.Same(c, written(p)) {
			t.Errorf("Make(%v): %v, %t", p, c, ok)
		}
		if back, ok := data.Of(c); !ok || !same(back, p) {
			t.Errorf("Of(%v): %v, %t", c, back, ok)
		}
	}
}

func TestMakeOfRandomDescriptions(t *testing.T) {
	r := rand.New(rand.NewSource(1))
	for range 20000 {
		p := some(r, 20)
		c, ok := data.Make(p)
		if !ok || !chunk.Same(c, written(p)) || chunk.Check(c) != nil {
			t.Fatalf("Make(%v): %v, %t", p, c, ok)
		}
		if back, ok := data.Of(c); !ok || !same(back, p) {
			t.Fatalf("Of(%v): %v, %t; want %v", c, back, ok, p)
		}
	}
}

func TestOfOtherChunks(t *testing.T) {
	kid := []api.Node{{Type: 0x8000}}
	deep := api.Node{}
	for range 20 {
		deep = api.Node{Type: 8, Kids: []api.Node{deep}}
	}
	for i, c := range []api.Chunk{
		{}, {Data: make([]byte, 12)}, {Type: 64}, {Type: 64, Data: make([]byte, 16)}, {Type: 64, Data: make([]byte, 13)},
		{Flags: 16, Data: make([]byte, 13)}, {Flags: 128, Data: make([]byte, 13)}, {Flags: 255, Data: make([]byte, 13)},
		{Type: 64, Flags: 16, Data: make([]byte, 17)}, {Type: 64, Flags: 64, Data: make([]byte, 17)},
		{Type: 64, Data: []byte{0, 0, 0, 0, 0, 0, 0, 1, 0, 0, 0, 0, 0, 0, 0, 0, 0}},
		{Type: 64, Data: []byte{0, 0, 0, 0, 0, 0, 1, 0, 0, 0, 0, 0, 0, 0, 0, 0, 0}},
		{Data: make([]byte, 13), Kids: kid}, {Type: 64, Data: make([]byte, 17), Kids: kid}, {Data: make([]byte, 13), Kids: []api.Node{deep}},
		{Data: make([]byte, 65532)}, {Type: 64, Data: make([]byte, 65532)}, {Data: make([]byte, 1<<20)},
	} {
		if p, ok := data.Of(c); ok || !zeroPart(p) {
			t.Errorf("%d: %v, %t", i, p, ok)
		}
	}
	for kinds := range 256 {
		k := byte(kinds)
		for _, size := range []int{0, 4, 13, 16, 17, 20} {
			c := api.Chunk{Type: k, Data: make([]byte, size)}
			want := k == 0 && size >= 13 || k == 64 && size >= 17
			if p, ok := data.Of(c); ok != want || !ok && !zeroPart(p) {
				t.Errorf("Of(%v): %v, %t", c, p, ok)
			}
		}
	}
}

func TestOfRandomChunks(t *testing.T) {
	r := rand.New(rand.NewSource(2))
	for range 20000 {
		c := api.Chunk{Type: byte(64 * r.Intn(2)), Flags: byte(r.Intn(20)), Data: make([]byte, r.Intn(24))}
		r.Read(c.Data)
		if len(c.Data) > 8 && r.Intn(4) > 0 {
			c.Data[6], c.Data[7] = 0, 0
		}
		p, ok := data.Of(c)
		switch {
		case ok != (chunk.Check(c) == nil):
			t.Fatalf("Of(%v): %t", c, ok)
		case !ok && !zeroPart(p):
			t.Fatalf("Of(%v): %v", c, p)
		case ok && (!right(p) || !chunk.Same(written(p), c)):
			t.Fatalf("Of(%v): %v", c, p)
		}
		if again, ok := data.Make(p); ok && !chunk.Same(again, c) {
			t.Fatalf("Make(%v): %v; want %v", p, again, c)
		}
	}
}

func TestMakeAndOfShareNoMemory(t *testing.T) {
	for _, from := range []data.Part{message(false, 1, 2, 3), message(true, 4, 5, 6, 7)} {
		p := filled(from)
		c, _ := data.Make(p)
		other, _ := data.Make(p)
		if !same(p, from) || !bytes.Equal(p.User[len(from.User):len(from.User)+2], []byte{0xaa, 0xbb}) {
			t.Error("Make changes", p)
		}
		scribble(p.User)
		if !chunk.Same(c, written(from)) {
			t.Error("Make shares memory", c)
		}
		scribble(c.Data)
		if !chunk.Same(other, written(from)) {
			t.Error("Make shares memory", other)
		}
		given := written(from)
		given.Data = append(given.Data, 0xcc)[:len(given.Data)]
		back, _ := data.Of(given)
		if !chunk.Same(given, written(from)) || given.Data[:len(given.Data)+1][len(given.Data)] != 0xcc {
			t.Error("Of changes", given)
		}
		scribble(given.Data)
		if !same(back, from) {
			t.Error("Of shares memory", back)
		}
	}
}

// P13.2

func TestSplit(t *testing.T) {
	for i, x := range []struct {
		p    data.Part
		n    int
		want []data.Part
	}{
		{
			data.Part{TSN: 9, Stream: 1, Seq: 2, Proto: 3, Begin: true, End: true, User: []byte{1, 2, 3, 4, 5}}, 2,
			[]data.Part{
				{TSN: 9, Stream: 1, Seq: 2, Proto: 3, Begin: true, User: []byte{1, 2}},
				{TSN: 10, Stream: 1, Seq: 2, Proto: 3, User: []byte{3, 4}},
				{TSN: 11, Stream: 1, Seq: 2, Proto: 3, End: true, User: []byte{5}},
			},
		},
		{
			data.Part{Inter: true, TSN: 1<<32 - 2, Stream: 1, Seq: 70000, Proto: 3, Begin: true, End: true, Now: true, User: []byte{1, 2, 3, 4}}, 1,
			[]data.Part{
				{Inter: true, TSN: 1<<32 - 2, Stream: 1, Seq: 70000, Proto: 3, Begin: true, Now: true, User: []byte{1}},
				{Inter: true, TSN: 1<<32 - 1, Stream: 1, Seq: 70000, Proto: 1, Now: true, User: []byte{2}},
				{Inter: true, TSN: 0, Stream: 1, Seq: 70000, Proto: 2, Now: true, User: []byte{3}},
				{Inter: true, TSN: 1, Stream: 1, Seq: 70000, Proto: 3, End: true, Now: true, User: []byte{4}},
			},
		},
		{
			data.Part{TSN: 1<<32 - 1, Begin: true, End: true, Unordered: true, User: []byte{1, 2, 3, 4}}, 2,
			[]data.Part{
				{TSN: 1<<32 - 1, Begin: true, Unordered: true, User: []byte{1, 2}},
				{TSN: 0, End: true, Unordered: true, User: []byte{3, 4}},
			},
		},
		{message(true, 1, 2), 2, []data.Part{message(true, 1, 2)}},
		{message(false, 1, 2), 3, []data.Part{message(false, 1, 2)}},
		{message(true, 1), 1, []data.Part{message(true, 1)}},
		{message(false, 1, 2), math.MaxInt, []data.Part{message(false, 1, 2)}},
		{message(true, 1, 2), math.MaxInt - 1, []data.Part{message(true, 1, 2)}},
	} {
		if got := data.Split(x.p, x.n); !sameAll(got, x.want) {
			t.Errorf("%d: Split(%v, %d): %v; want %v", i, x.p, x.n, got, x.want)
		}
		if p, ok := data.Join(x.want...); !ok || !same(p, x.p) {
			t.Errorf("%d: Join(%v): %v, %t; want %v", i, x.want, p, ok, x.p)
		}
	}
}

func TestSplitOfNone(t *testing.T) {
	for i, x := range []struct {
		p data.Part
		n int
	}{
		{message(false, 1, 2), 0}, {message(true, 1, 2), -1}, {message(true, 1, 2), math.MinInt},
		{data.Part{}, 1}, {message(false), 1}, {message(true), 1}, {message(true, []byte{}...), 0},
		{changed(message(false, 1, 2), func(p *data.Part) { p.Begin = false }), 1},
		{changed(message(true, 1, 2), func(p *data.Part) { p.End = false }), 1},
		{changed(message(true, 1, 2), func(p *data.Part) { p.Begin, p.End = false, false }), 5},
		{changed(message(false, 1, 2), func(p *data.Part) { p.Seq = 1 << 16 }), 1},
		{message(false, long(mostData+1)...), 1000}, {message(true, long(mostIData+1)...), 1000},
		{message(false, long(65537)...), 1}, {message(true, long(65537)...), 1}, {message(false, long(1<<20)...), 100000},
	} {
		if l := data.Split(x.p, x.n); len(l) != 0 {
			t.Errorf("%d: %d pieces", i, len(l))
		}
	}
}

func TestSplitInMany(t *testing.T) {
	for _, p := range []data.Part{message(false, long(mostData)...), message(true, long(mostIData)...)} {
		for _, n := range []int{1, 2, 1000, 32768, len(p.User) - 1, len(p.User), len(p.User) + 1} {
			l := data.Split(p, n)
			if !sameAll(l, cut(p, n)) || len(l) != (len(p.User)+n-1)/n {
				t.Errorf("%t: %d pieces of %d bytes", p.Inter, len(l), n)
			}
			if back, ok := data.Join(l...); !ok || !same(back, p) {
				t.Errorf("%t: %d pieces of %d bytes: %t", p.Inter, len(l), n, ok)
			}
		}
	}
}

func TestSplitOfRandomDescriptions(t *testing.T) {
	r := rand.New(rand.NewSource(3))
	for range 10000 {
		p := some(r, 20)
		p.Begin, p.End = r.Intn(8) > 0, r.Intn(8) > 0
		n := r.Intn(24) - 1
		var want []data.Part
		if p.Begin && p.End && n >= 1 {
			want = cut(p, n)
		}
		got := data.Split(p, n)
		if !sameAll(got, want) {
			t.Fatalf("Split(%v, %d): %v; want %v", p, n, got, want)
		}
		for _, piece := range got {
			if _, ok := data.Make(piece); !ok {
				t.Fatalf("%v is no description", piece)
			}
		}
		if len(got) == 0 {
			continue
		}
		if back, ok := data.Join(got...); !ok || !same(back, p) {
			t.Fatalf("Join(%v): %v, %t; want %v", got, back, ok, p)
		}
	}
}

func TestSplitSharesNoMemory(t *testing.T) {
	for _, from := range []data.Part{message(false, long(7)...), message(true, long(6)...)} {
		for _, n := range []int{1, 2, 3, 100} {
			p := filled(from)
			l := data.Split(p, n)
			if !same(p, from) || !bytes.Equal(p.User[len(p.User):len(p.User)+2], []byte{0xaa, 0xbb}) {
				t.Error("Split changes", p)
			}
			scribble(p.User)
			want := cut(from, n)
			if !sameAll(l, want) {
				t.Error("Split shares memory", l)
			}
			for i := range l {
				scribble(l[i].User)
				if !sameAll(l[i+1:], want[i+1:]) {
					t.Error("pieces share memory", l)
				}
			}
		}
	}
}

// P13.3

// joins reports an error, if Join does not do with a list what glued does.
func joins(t *testing.T, l ...data.Part) bool {
	t.Helper()
	want, wantOK := glued(l)
	got, ok := data.Join(l...)
	if ok != wantOK || !same(got, want) {
		t.Fatalf("Join(%v): %v, %t; want %v, %t", l, got, ok, want, wantOK)
	}
	return ok
}

func TestJoin(t *testing.T) {
	first := data.Part{Inter: true, TSN: 1<<32 - 1, Stream: 1, Seq: 2, Proto: 50, Begin: true, User: []byte{1, 2}}
	second := data.Part{Inter: true, TSN: 0, Stream: 1, Seq: 2, Proto: 1, User: []byte{3, 4}}
	third := data.Part{Inter: true, TSN: 1, Stream: 1, Seq: 2, Proto: 2, End: true, User: []byte{5}}
	want := data.Part{Inter: true, TSN: 1<<32 - 1, Stream: 1, Seq: 2, Proto: 50, Begin: true, End: true, User: []byte{1, 2, 3, 4, 5}}
	if got, ok := data.Join(first, second, third); !ok || !same(got, want) {
		t.Errorf("%v, %t; want %v", got, ok, want)
	}
	// One piece is what it is a piece of, with any number as Proto.
	for _, p := range []data.Part{message(false, 1), message(true, 1, 2), changed(message(true, 7), func(p *data.Part) { p.Proto = 0 }), message(false, long(mostData)...)} {
		if got, ok := data.Join(p); !ok || !same(got, p) {
			t.Errorf("Join(%v): %v, %t", p, got, ok)
		}
	}
}

func TestJoinOfNone(t *testing.T) {
	a := data.Part{TSN: 7, Begin: true, User: []byte{1, 2}}
	b := data.Part{TSN: 8, User: []byte{3, 4}}
	c := data.Part{TSN: 9, End: true, User: []byte{5}}
	with := func(p data.Part, change func(*data.Part)) data.Part { return changed(p, change) }
	bytesOf := func(l ...byte) func(*data.Part) { return func(p *data.Part) { p.User = l } }
	whole := message(false, 1, 2)
	for i, l := range [][]data.Part{
		nil, {}, {{}}, {message(false)}, {message(true)}, {a}, {b}, {c}, {a, b}, {b, c}, {a, c}, {c, b, a}, {a, c, b}, {b, a, c},
		{a, b, b, c}, {a, a, b, c}, {a, b, c, c}, {whole, whole}, {whole, a, b, c}, {a, b, c, whole},
		{with(whole, func(p *data.Part) { p.Begin = false })}, {with(whole, func(p *data.Part) { p.End = false })},
		{with(whole, func(p *data.Part) { p.Seq = 1 << 16 })},
		{with(a, func(p *data.Part) { p.Seq = 1 << 16 }), with(b, func(p *data.Part) { p.Seq = 1 << 16 }), with(c, func(p *data.Part) { p.Seq = 1 << 16 })},
		// The numbers of bytes.
		{a, b, with(c, bytesOf())}, {a, with(b, bytesOf()), c}, {with(a, bytesOf()), b, c}, {with(a, bytesOf()), with(b, bytesOf()), with(c, bytesOf())},
		{a, b, with(c, bytesOf(5, 6, 7))}, {a, with(b, bytesOf(3)), c}, {a, with(b, bytesOf(3, 4, 4)), c}, {with(a, bytesOf(1)), b, c}, {with(a, bytesOf(1, 2, 2)), b, c},
		{message(false, long(mostData+1)...)}, {message(true, long(mostIData+1)...)},
	} {
		if p, ok := data.Join(l...); ok || !zeroPart(p) {
			t.Errorf("%d: Join(%v): %v, %t", i, l, p, ok)
		}
		joins(t, l...)
	}
	if !joins(t, a, b, c) || !joins(t, a, b, with(c, bytesOf(5, 6))) {
		t.Error("the pieces themselves are not joined")
	}
}

func TestJoinOfTooManyBytes(t *testing.T) {
	for _, x := range []struct {
		inter bool
		total int
		want  bool
	}{
		{false, mostData, true}, {false, mostData + 1, false}, {true, mostIData, true}, {true, mostIData + 1, false},
		{true, mostData, false}, {false, 65537, false}, {true, 100000, false},
	} {
		for _, n := range []int{1, 1000, 32768, 65000} {
			p := message(x.inter, long(x.total)...)
			got, ok := data.Join(cut(p, n)...)
			if ok != x.want || ok && !same(got, p) || !ok && !zeroPart(got) {
				t.Errorf("%t: %d bytes in pieces of %d: %t", x.inter, x.total, n, ok)
			}
		}
	}
}

func TestJoinOfChangedPieces(t *testing.T) {
	r := rand.New(rand.NewSource(4))
	for range 500 {
		l := cut(someMessage(r, 12), 1+r.Intn(5))
		if !joins(t, l...) {
			t.Fatalf("%v: not joined", l)
		}
		for i := range l {
			for _, change := range changes() {
				other := slices.Clone(l)
				change(&other[i])
				joins(t, other...)
			}
			joins(t, slices.Delete(slices.Clone(l), i, i+1)...)
			joins(t, l[:i]...)
			joins(t, l[i:]...)
			joins(t, slices.Insert(slices.Clone(l), i, l[r.Intn(len(l))])...)
			other := slices.Clone(l)
			j := r.Intn(len(l))
			other[i], other[j] = other[j], other[i]
			joins(t, other...)
			other[i].User, other[j].User = other[j].User, other[i].User
			joins(t, other...)
			// All of them changed in the same way.
			for _, change := range changes() {
				other := slices.Clone(l)
				for k := range other {
					change(&other[k])
				}
				joins(t, other...)
			}
		}
	}
}

func TestJoinSharesNoMemory(t *testing.T) {
	for _, n := range []int{2, 100} {
		from := message(true, long(7)...)
		pieces := cut(from, n)
		l := filledAll(pieces)
		p, ok := data.Join(l...)
		if !ok || !isFilled(l, pieces) {
			t.Error("Join changes", l)
		}
		for i := range l {
			scribble(l[i].User)
		}
		if !same(p, from) {
			t.Error("Join shares memory", p)
		}
		l = filledAll(pieces)
		p, _ = data.Join(l...)
		scribble(p.User)
		if !isFilled(l, pieces) {
			t.Error("Join shares memory", l)
		}
	}
}

// P13.4

func TestSame(t *testing.T) {
	for i, x := range []struct {
		a, b data.Part
		want bool
	}{
		{data.Part{}, data.Part{}, true}, {data.Part{}, data.Part{User: []byte{}}, true}, {message(true), message(true, []byte{}...), true},
		{data.Part{}, data.Part{User: []byte{0}}, false}, {message(false, 1, 2), message(false, 1, 2), true},
		{message(false, 1, 2), message(false, 1, 3), false}, {message(false, 1, 2), message(false, 2, 1), false}, {message(false, 1, 2), message(false, 1), false},
		{message(false, 1), message(true, 1), false}, {message(false, long(70000)...), message(false, long(70000)...), true},
		{data.Part{Begin: true}, data.Part{End: true}, false}, {data.Part{Unordered: true}, data.Part{Now: true}, false},
		{data.Part{TSN: 1}, data.Part{Proto: 1}, false}, {data.Part{Stream: 1}, data.Part{Seq: 1}, false}, {data.Part{Seq: 1}, data.Part{Seq: 1<<16 + 1}, false},
		{data.Part{Inter: true}, data.Part{Stream: 64}, false},
	} {
		if data.Same(x.a, x.b) != x.want || data.Same(x.b, x.a) != x.want {
			t.Errorf("%d: Same(%v, %v) is not %t", i, x.a, x.b, x.want)
		}
	}
	r := rand.New(rand.NewSource(5))
	for range 500 {
		p := some(r, 5)
		if !data.Same(p, filled(p)) {
			t.Fatalf("%v is not the same as itself", p)
		}
		for i, change := range changes() {
			q := filled(p)
			change(&q)
			if data.Same(p, q) || data.Same(q, p) {
				t.Fatalf("%d: %v and %v are the same", i, p, q)
			}
		}
	}
	// All fields count: a new one would need a change of its own.
	if n := reflect.TypeFor[data.Part]().NumField(); n != 10 {
		t.Error(n, "fields")
	}
}

func TestMost(t *testing.T) {
	for i, x := range []struct {
		inter      bool
		size, want int
	}{
		{false, 0, 0}, {false, 15, 0}, {false, 16, 0}, {false, 17, 1}, {false, 18, 2}, {false, 1488, 1472}, {false, 65534, 65518}, {false, 65535, mostData},
		{true, 0, 0}, {true, 16, 0}, {true, 17, 0}, {true, 20, 0}, {true, 21, 1}, {true, 1488, 1468}, {true, 65535, mostIData},
	} {
		if got := data.Most(x.inter, x.size); got != x.want {
			t.Errorf("%d: Most(%t, %d): %d; want %d", i, x.inter, x.size, got, x.want)
		}
	}
	for size := range 65536 {
		for _, inter := range []bool{false, true} {
			most := data.Most(inter, size)
			front := 16
			if inter {
				front = 20
			}
			if most < 0 || most > 0 && most+front > size || most+1+front <= size {
				t.Fatalf("Most(%t, %d): %d", inter, size, most)
			}
		}
	}
}

func TestMostOfMadeChunks(t *testing.T) {
	for _, inter := range []bool{false, true} {
		for _, size := range []int{17, 18, 21, 22, 64, 1500, 65534, 65535} {
			most := data.Most(inter, size)
			c, ok := data.Make(message(inter, long(most)...))
			if ok != (most > 0) || ok && chunk.Size(c) != size {
				t.Error(inter, size, most, ok)
			}
			if c, ok := data.Make(message(inter, long(most+1)...)); ok && chunk.Size(c) <= size {
				t.Error(inter, size, most)
			}
		}
	}
}

// P13.5 is checked with P13.1 and P13.2; here through chunks and their bytes.

func TestPiecesAsChunks(t *testing.T) {
	r := rand.New(rand.NewSource(6))
	for range 500 {
		p := someMessage(r, 3000)
		var back []data.Part
		for _, piece := range data.Split(p, data.Most(p.Inter, 64+r.Intn(500))) {
			c, _ := data.Make(piece)
			b, err := chunk.Encode(c)
			if err != nil {
				t.Fatal(err)
			}
			c, err = chunk.Parse(b)
			q, ok := data.Of(c)
			if err != nil || !ok {
				t.Fatal(err, ok)
			}
			back = append(back, q)
		}
		if got, ok := data.Join(back...); !ok || !same(got, p) {
			t.Fatalf("%v, %t; want %v", got, ok, p)
		}
	}
}

// P1, and the rules: all arguments are allowed, and the functions may be called
// concurrently.

func TestAnyArguments(t *testing.T) {
	r := rand.New(rand.NewSource(7))
	for range 20000 {
		p := some(r, 10)
		if r.Intn(3) == 0 {
			p.User = nil
		}
		p.Seq = r.Uint32() >> r.Intn(32)
		c, ok := data.Make(p)
		if ok != right(p) || !ok && !zeroChunk(c) {
			t.Fatalf("Make(%v): %v, %t", p, c, ok)
		}
		l := data.Split(p, int(r.Uint64())>>r.Intn(64))
		if len(l) > 0 && (!ok || !p.Begin || !p.End) {
			t.Fatalf("Split(%v): %v", p, l)
		}
		joins(t, p, p)
		joins(t, append(l, p)...)
	}
	for _, size := range []int{-1, math.MinInt, math.MinInt + 20, 65536, math.MaxInt} {
		data.Most(false, size)
		data.Most(true, size)
	}
	for kinds := range 256 {
		c := api.Chunk{Type: byte(kinds), Flags: byte(r.Uint32()), Data: make([]byte, r.Intn(100))}
		r.Read(c.Data)
		data.Of(c)
	}
}

func TestConcurrently(t *testing.T) {
	p := message(true, long(100)...)
	want, pieces := written(p), cut(p, 7)
	var group sync.WaitGroup
	for range 8 {
		group.Go(func() {
			for range 50 {
				c, made := data.Make(p)
				back, read := data.Of(want)
				l := data.Split(p, 7)
				whole, joined := data.Join(pieces...)
				if !made || !read || !joined || !chunk.Same(c, want) || !same(back, p) || !sameAll(l, pieces) || !same(whole, p) {
					t.Error("Make, Of, Split or Join")
				}
				if !data.Same(p, back) || data.Most(true, 120) != 100 {
					t.Error("Same or Most")
				}
			}
		})
	}
	group.Wait()
}
