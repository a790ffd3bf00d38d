package tlv_test

import (
	"bytes"
	"errors"
	"iter"
	"math/rand"
	"slices"
	"sync"
	"testing"

	"wharf/api"
	"wharf/tlv"
)

// mostBytes is the greatest number of bytes of a list of which the chapter
// speaks.
const mostBytes = 1 << 20

// frame returns a frame with some bytes as its value.
func frame(kind uint16, value ...byte) tlv.Frame { return tlv.Frame{Type: kind, Value: value} }

// example is a list with the bytes exampleBytes, both from the chapter.
var (
	example      = []tlv.Frame{frame(5, 9), frame(6)}
	exampleBytes = []byte{0, 5, 0, 5, 9, 0, 0, 0, 0, 6, 0, 4}
)

// random returns n random bytes.
func random(r *rand.Rand, n int) []byte {
	b := make([]byte, n)
	r.Read(b)
	return b
}

// randomList returns a list of up to n frames with values of up to most bytes.
func randomList(r *rand.Rand, n, most int) []tlv.Frame {
	l := make([]tlv.Frame, r.Intn(n+1))
	for i := range l {
		l[i] = tlv.Frame{Type: uint16(r.Intn(1 << 16)), Value: random(r, r.Intn(most+1))}
	}
	return l
}

// written returns the bytes of a list by their definition.
func written(l []tlv.Frame) []byte {
	var b []byte
	for i, f := range l {
		size := len(f.Value) + 4
		b = append(b, byte(f.Type/256), byte(f.Type%256), byte(size/256), byte(size%256))
		b = append(b, f.Value...)
		for i < len(l)-1 && len(b)%4 != 0 {
			b = append(b, 0)
		}
	}
	return b
}

// met returns the frames and their offsets that reading from the beginning
// meets in front of the first error, and that error; nil, if there is none. The
// frame whose padding is wrong is not in front of it.
func met(b []byte) (ats []int, l []tlv.Frame, err error) {
	for at := 0; at < len(b); {
		if len(b)-at < 4 {
			return ats, l, api.Fault{Code: api.Length, At: at}
		}
		size := 256*int(b[at+2]) + int(b[at+3])
		if size < 4 || size > len(b)-at {
			return ats, l, api.Fault{Code: api.Length, At: at}
		}
		end := at + size
		next := (end + 3) / 4 * 4
		if end < len(b) && (next >= len(b) || !bytes.Equal(b[end:next], make([]byte, next-end))) {
			return ats, l, api.Fault{Code: api.Padding, At: end}
		}
		ats, l = append(ats, at), append(l, frame(256*uint16(b[at])+uint16(b[at+1]), b[at+4:end]...))
		at = next
	}
	return ats, l, nil
}

// same reports whether two lists have the same frames.
func same(a, b []tlv.Frame) bool {
	return slices.EqualFunc(a, b, func(f, g tlv.Frame) bool {
		return f.Type == g.Type && bytes.Equal(f.Value, g.Value)
	})
}

// all returns what an iterator yields.
func all(s iter.Seq2[int, tlv.Frame]) (ats []int, l []tlv.Frame) {
	for at, f := range s {
		ats, l = append(ats, at), append(l, f)
	}
	return ats, l
}

// reads checks that Split and All return what reading b meets.
func reads(t *testing.T, b []byte) {
	t.Helper()
	ats, want, fault := met(b)
	gotAts, got := all(tlv.All(b))
	if !slices.Equal(gotAts, ats) || !same(got, want) {
		t.Fatalf("All(%d): %d, %v; want %d, %v", b, gotAts, got, ats, want)
	}
	if fault != nil {
		want = nil
	}
	if got, err := tlv.Split(b); !same(got, want) || err != fault {
		t.Fatalf("Split(%d): %v, %v; want %v, %v", b, got, err, want, fault)
	}
}

// P6.1

func TestPut(t *testing.T) {
	for _, x := range []struct {
		f    tlv.Frame
		want []byte
	}{
		{frame(0), []byte{0, 0, 0, 4}},
		{tlv.Frame{Type: 6, Value: []byte{}}, []byte{0, 6, 0, 4}},
		{frame(5, 9), []byte{0, 5, 0, 5, 9}},
		{frame(0x1234, 0, 0, 0), []byte{0x12, 0x34, 0, 7, 0, 0, 0}},
		{frame(0xffff, 1, 2, 3, 4), []byte{0xff, 0xff, 0, 8, 1, 2, 3, 4}},
		{frame(0x8000, make([]byte, 252)...), append([]byte{0x80, 0, 1, 0}, make([]byte, 252)...)},
		{frame(1, make([]byte, 251)...), append([]byte{0, 1, 0, 255}, make([]byte, 251)...)},
	} {
		if got, ok := tlv.Put(x.f); !bytes.Equal(got, x.want) || !ok {
			t.Errorf("Put(%v): %d, %t; want %d", x.f, got, ok, x.want)
		}
		if got, ok := tlv.Join(x.f); !bytes.Equal(got, x.want) || !ok {
			t.Errorf("Join(%v): %d, %t; want %d", x.f, got, ok, x.want)
		}
	}
}

func TestGreatestValueThatFits(t *testing.T) {
	value := random(rand.New(rand.NewSource(1)), mostBytes)
	for _, n := range []int{65530, 65531} {
		f := frame(0xabcd, value[:n]...)
		want := append([]byte{0xab, 0xcd, 0xff, byte(n + 4)}, value[:n]...)
		if got, ok := tlv.Put(f); !bytes.Equal(got, want) || !ok {
			t.Errorf("Put of %d bytes: %d bytes, %t", n, len(got), ok)
		}
		if got, ok := tlv.Join(f); !bytes.Equal(got, want) || !ok {
			t.Errorf("Join of %d bytes: %d bytes, %t", n, len(got), ok)
		}
		reads(t, want)
	}
	for _, n := range []int{65532, 65533, 65535, 65536, 65540, 131068, mostBytes - 4} {
		f := frame(7, value[:n]...)
		if got, ok := tlv.Put(f); len(got) != 0 || ok {
			t.Errorf("Put of %d bytes: %d bytes, %t", n, len(got), ok)
		}
		if got, ok := tlv.Join(f); len(got) != 0 || ok {
			t.Errorf("Join of %d bytes: %d bytes, %t", n, len(got), ok)
		}
		if got := tlv.Size(f); got != n+4 {
			t.Errorf("Size with %d bytes: %d", n, got)
		}
	}
}

func TestJoin(t *testing.T) {
	for _, x := range []struct {
		l    []tlv.Frame
		want []byte
	}{
		{nil, nil},
		{example, exampleBytes},
		{[]tlv.Frame{frame(6), frame(5, 9)}, []byte{0, 6, 0, 4, 0, 5, 0, 5, 9}},
		{[]tlv.Frame{frame(1), frame(1), frame(1)}, []byte{0, 1, 0, 4, 0, 1, 0, 4, 0, 1, 0, 4}},
		{[]tlv.Frame{frame(1, 2, 3), frame(4, 5, 6, 7), frame(8, 9)},
			[]byte{0, 1, 0, 6, 2, 3, 0, 0, 0, 4, 0, 7, 5, 6, 7, 0, 0, 8, 0, 5, 9}},
		{[]tlv.Frame{frame(1, 0, 0, 0, 0), frame(2, 0)}, []byte{0, 1, 0, 8, 0, 0, 0, 0, 0, 2, 0, 5, 0}},
	} {
		if got, ok := tlv.Join(x.l...); !bytes.Equal(got, x.want) || !ok {
			t.Errorf("Join(%v): %d, %t; want %d", x.l, got, ok, x.want)
		}
		if got := tlv.Size(x.l...); got != len(x.want) {
			t.Errorf("Size(%v): %d; want %d", x.l, got, len(x.want))
		}
	}
	if got, ok := tlv.Join(); len(got) != 0 || !ok || tlv.Size() != 0 {
		t.Errorf("Join(): %d, %t; Size(): %d", got, ok, tlv.Size())
	}
}

func TestJoinOfRandomLists(t *testing.T) {
	r := rand.New(rand.NewSource(2))
	for range 3000 {
		l := randomList(r, 8, 11)
		want := written(l)
		if got, ok := tlv.Join(l...); !bytes.Equal(got, want) || !ok {
			t.Fatalf("Join(%v): %d, %t; want %d", l, got, ok, want)
		}
		if got := tlv.Size(l...); got != len(want) {
			t.Fatalf("Size(%v): %d; want %d", l, got, len(want))
		}
	}
}

func TestJoinRefusesAFrameThatDoesNotFitAnywhere(t *testing.T) {
	large := frame(3, make([]byte, 65532)...)
	for place := range 4 {
		l := slices.Insert([]tlv.Frame{frame(1, 1), frame(2), frame(4, 1, 2, 3)}, place, large)
		if got, ok := tlv.Join(l...); len(got) != 0 || ok {
			t.Errorf("Join, place %d: %d bytes, %t", place, len(got), ok)
		}
	}
}

func TestSizeOfFramesThatDoNotFit(t *testing.T) {
	large := frame(3, make([]byte, 65533)...)
	for _, x := range []struct {
		l    []tlv.Frame
		want int
	}{
		{[]tlv.Frame{large}, 65537},
		{[]tlv.Frame{large, frame(1)}, 65544},
		{[]tlv.Frame{frame(1, 1), large}, 65545},
		{[]tlv.Frame{large, large, frame(1, 1)}, 131085},
	} {
		if got := tlv.Size(x.l...); got != x.want {
			t.Errorf("Size: %d; want %d", got, x.want)
		}
	}
}

// P6.2

func TestSplit(t *testing.T) {
	for _, b := range [][]byte{nil, {}} {
		if got, err := tlv.Split(b); len(got) != 0 || err != nil {
			t.Errorf("no bytes: %v, %v", got, err)
		}
	}
	if got, err := tlv.Split(exampleBytes); !same(got, example) || err != nil {
		t.Errorf("%v, %v", got, err)
	}
	want := []tlv.Frame{frame(0xfedc, 1, 2, 3, 4), frame(0), frame(0), frame(1, 0, 0)}
	b := []byte{0xfe, 0xdc, 0, 8, 1, 2, 3, 4, 0, 0, 0, 4, 0, 0, 0, 4, 0, 1, 0, 6, 0, 0}
	if got, err := tlv.Split(b); !same(got, want) || err != nil {
		t.Errorf("%v, %v", got, err)
	}
}

func TestErrorsOfSplit(t *testing.T) {
	for i, x := range []struct {
		b    []byte
		want api.Fault
	}{
		// Less than 4 bytes.
		{[]byte{0}, api.Fault{Code: api.Length, At: 0}},
		{[]byte{0, 5}, api.Fault{Code: api.Length, At: 0}},
		{[]byte{0, 5, 0}, api.Fault{Code: api.Length, At: 0}},
		{[]byte{0, 5, 0, 4, 0}, api.Fault{Code: api.Length, At: 4}},
		{[]byte{0, 5, 0, 4, 0, 6}, api.Fault{Code: api.Length, At: 4}},
		{[]byte{0, 5, 0, 4, 0, 6, 0}, api.Fault{Code: api.Length, At: 4}},
		{[]byte{0, 5, 0, 5, 9, 0, 0, 0, 7}, api.Fault{Code: api.Length, At: 8}},
		// A length less than 4.
		{[]byte{0, 5, 0, 0}, api.Fault{Code: api.Length, At: 0}},
		{[]byte{0, 5, 0, 3}, api.Fault{Code: api.Length, At: 0}},
		{[]byte{0, 0, 0, 0, 0, 0, 0, 0}, api.Fault{Code: api.Length, At: 0}},
		{[]byte{0, 5, 0, 8, 1, 2, 3, 4, 0, 6, 0, 3}, api.Fault{Code: api.Length, At: 8}},
		// A length greater than the number of bytes.
		{[]byte{0, 5, 0, 5}, api.Fault{Code: api.Length, At: 0}},
		{[]byte{0, 5, 1, 4}, api.Fault{Code: api.Length, At: 0}},
		{[]byte{0, 5, 0xff, 0xff, 1, 2}, api.Fault{Code: api.Length, At: 0}},
		{[]byte{0, 5, 0, 9, 1, 2, 3, 4}, api.Fault{Code: api.Length, At: 0}},
		{[]byte{0, 5, 0, 6, 1, 2, 0, 0, 0, 6, 0, 5}, api.Fault{Code: api.Length, At: 8}},
		// Bytes that are not the padding.
		{[]byte{0, 5, 0, 5, 9, 1, 0, 0, 0, 6, 0, 4}, api.Fault{Code: api.Padding, At: 5}},
		{[]byte{0, 5, 0, 5, 9, 0, 1, 0, 0, 6, 0, 4}, api.Fault{Code: api.Padding, At: 5}},
		{[]byte{0, 5, 0, 5, 9, 0, 0, 1, 0, 6, 0, 4}, api.Fault{Code: api.Padding, At: 5}},
		{[]byte{0, 5, 0, 6, 9, 9, 0, 0x80, 0, 6, 0, 4}, api.Fault{Code: api.Padding, At: 6}},
		{[]byte{0, 5, 0, 7, 9, 9, 9, 9, 0, 6, 0, 4}, api.Fault{Code: api.Padding, At: 7}},
		{[]byte{0, 4, 0, 4, 0, 5, 0, 5, 9, 2, 0, 0, 0, 6, 0, 4}, api.Fault{Code: api.Padding, At: 9}},
		// A part of the padding, and a padding without a byte after it.
		{[]byte{0, 5, 0, 5, 9, 0}, api.Fault{Code: api.Padding, At: 5}},
		{[]byte{0, 5, 0, 5, 9, 0, 0}, api.Fault{Code: api.Padding, At: 5}},
		{[]byte{0, 5, 0, 5, 9, 0, 0, 0}, api.Fault{Code: api.Padding, At: 5}},
		{[]byte{0, 5, 0, 6, 9, 9, 0}, api.Fault{Code: api.Padding, At: 6}},
		{[]byte{0, 5, 0, 7, 9, 9, 9, 0}, api.Fault{Code: api.Padding, At: 7}},
		{append(bytes.Clone(exampleBytes), 0, 5, 0, 5, 9, 0, 0, 0), api.Fault{Code: api.Padding, At: 17}},
		// The first of several errors.
		{[]byte{0, 5, 0, 5, 9, 1, 0, 0, 0, 6, 0, 3}, api.Fault{Code: api.Padding, At: 5}},
		{[]byte{0, 5, 0, 3, 9, 1, 0, 0, 0}, api.Fault{Code: api.Length, At: 0}},
		{[]byte{0, 5, 0, 4, 0, 6, 0, 2, 0, 5, 0, 5, 9, 1, 0, 0}, api.Fault{Code: api.Length, At: 4}},
	} {
		got, err := tlv.Split(x.b)
		if len(got) != 0 || err != error(x.want) {
			t.Errorf("%d: %v, %#v; want %#v", i, got, err, x.want)
		}
		if !errors.Is(err, x.want.Code) {
			t.Errorf("%d: %v is not %v", i, err, x.want.Code)
		}
		reads(t, x.b)
	}
}

func TestSplitLooksNotBeyondTheBytes(t *testing.T) {
	whole := append(bytes.Clone(exampleBytes), 0, 0, 0, 0)
	for n := range whole {
		reads(t, whole[:n])
	}
}

func TestSplitOfChangedLists(t *testing.T) {
	r := rand.New(rand.NewSource(3))
	for range 20000 {
		b := written(randomList(r, 6, 9))
		reads(t, b)
		for range r.Intn(3) {
			if len(b) > 0 {
				b[r.Intn(len(b))] = byte(r.Intn(8))
			}
		}
		reads(t, b)
		reads(t, b[:r.Intn(len(b)+1)])
		reads(t, append(b, make([]byte, r.Intn(5))...))
	}
}

func TestLongestLists(t *testing.T) {
	many := make([]tlv.Frame, mostBytes/4)
	for i := range many {
		many[i] = frame(uint16(i))
	}
	var large []tlv.Frame
	for i := range 15 {
		large = append(large, frame(uint16(i), random(rand.New(rand.NewSource(4)), 65531-i%4)...))
	}
	for i, l := range [][]tlv.Frame{many, large} {
		want := written(l)
		b, ok := tlv.Join(l...)
		if !bytes.Equal(b, want) || !ok || tlv.Size(l...) != len(want) {
			t.Errorf("%d: Join: %d bytes, %t; Size: %d; want %d", i, len(b), ok, tlv.Size(l...), len(want))
		}
		if got, err := tlv.Split(want); !same(got, l) || err != nil {
			t.Errorf("%d: Split: %d frames, %v", i, len(got), err)
		}
		want[len(want)-1] ^= 0xff
		reads(t, want)
	}
}

// P6.3

func TestAll(t *testing.T) {
	for i, x := range []struct {
		b    []byte
		ats  []int
		want []tlv.Frame
	}{
		{nil, nil, nil},
		{[]byte{}, nil, nil},
		{exampleBytes, []int{0, 8}, example},
		{[]byte{0, 5, 0, 4, 0, 6, 0, 7, 1, 2, 3}, []int{0, 4}, []tlv.Frame{frame(5), frame(6, 1, 2, 3)}},
		// Up to an error.
		{[]byte{0, 5, 0}, nil, nil},
		{[]byte{0, 5, 0, 3}, nil, nil},
		{[]byte{0, 5, 0, 5}, nil, nil},
		{exampleBytes[:11], []int{0}, example[:1]},
		{append(bytes.Clone(exampleBytes), 0), []int{0, 8}, example},
		{append(bytes.Clone(exampleBytes), 0, 1, 0, 3, 0, 1, 0, 4), []int{0, 8}, example},
		// Up to a wrong padding, whose frame is not yielded.
		{[]byte{0, 5, 0, 5, 9, 0}, nil, nil},
		{[]byte{0, 5, 0, 5, 9, 0, 0}, nil, nil},
		{[]byte{0, 5, 0, 5, 9, 0, 0, 0}, nil, nil},
		{[]byte{0, 5, 0, 5, 9, 1, 0, 0, 0, 6, 0, 4}, nil, nil},
		{[]byte{0, 5, 0, 5, 9, 0, 1, 0, 0, 6, 0, 4}, nil, nil},
		{[]byte{0, 5, 0, 5, 9, 0, 0, 1, 0, 6, 0, 4}, nil, nil},
		{[]byte{0, 5, 0, 6, 9, 9, 0, 1, 0, 6, 0, 4}, nil, nil},
		{[]byte{0, 5, 0, 7, 9, 9, 9, 1, 0, 6, 0, 4}, nil, nil},
		{[]byte{0, 5, 0, 7, 9, 9, 9, 0}, nil, nil},
		{[]byte{0, 5, 0, 4, 0, 6, 0, 5, 7, 0}, []int{0}, []tlv.Frame{frame(5)}},
		{append(bytes.Clone(exampleBytes), 0, 7, 0, 6, 1, 2, 0, 0), []int{0, 8}, example},
		{append(bytes.Clone(exampleBytes), 0, 7, 0, 6, 1, 2, 0, 3, 0, 8, 0, 4), []int{0, 8}, example},
		// A frame whose padding is right comes before the error after that.
		{[]byte{0, 5, 0, 5, 9, 0, 0, 0, 7}, []int{0}, example[:1]},
		{[]byte{0, 5, 0, 5, 9, 0, 0, 0, 0, 6, 0, 3}, []int{0}, example[:1]},
	} {
		if ats, got := all(tlv.All(x.b)); !slices.Equal(ats, x.ats) || !same(got, x.want) {
			t.Errorf("%d: %d, %v; want %d, %v", i, ats, got, x.ats, x.want)
		}
	}
}

func TestAllIsUsedSeveralTimes(t *testing.T) {
	l := []tlv.Frame{frame(1, 1), frame(2, 2, 2, 2, 2), frame(3)}
	s := tlv.All(written(l))
	for range 3 {
		if ats, got := all(s); !slices.Equal(ats, []int{0, 8, 16}) || !same(got, l) {
			t.Errorf("%d, %v", ats, got)
		}
	}
	rounds := 0
	for range s {
		for range s {
			rounds++
		}
	}
	if rounds != 9 {
		t.Error(rounds, "frames within all frames")
	}
}

func TestAllIsStoppedAtAnyTime(t *testing.T) {
	l := []tlv.Frame{frame(1, 1), frame(2, 2, 2, 2, 2), frame(3)}
	ats := []int{0, 8, 16}
	s := tlv.All(written(l))
	for n := range len(l) {
		var got []tlv.Frame
		for at, f := range s {
			if at != ats[len(got)] {
				t.Error(at)
			}
			got = append(got, f)
			if len(got) == n+1 {
				break
			}
		}
		if !same(got, l[:n+1]) {
			t.Errorf("stopped after %d: %v", n+1, got)
		}
		calls := 0
		s(func(int, tlv.Frame) bool {
			calls++
			return calls <= n
		})
		if calls != n+1 {
			t.Errorf("%d calls; want %d", calls, n+1)
		}
	}
	if again, got := all(s); !slices.Equal(again, ats) || !same(got, l) {
		t.Errorf("%d, %v", again, got)
	}
}

func TestAllKeepsNoBytes(t *testing.T) {
	b := bytes.Clone(exampleBytes)
	s := tlv.All(b)
	clear(b)
	for range 2 {
		if ats, got := all(s); !slices.Equal(ats, []int{0, 8}) || !same(got, example) {
			t.Errorf("%d, %v", ats, got)
		}
		for _, f := range s {
			f.Value = f.Value[:cap(f.Value)]
			for i := range f.Value {
				f.Value[i] ^= 0xff
			}
		}
	}
	for _, f := range s {
		_ = append(f.Value, 0xff, 0xff, 0xff, 0xff, 0xff, 0xff, 0xff)
	}
	if _, got := all(s); !same(got, example) {
		t.Errorf("%v", got)
	}
}

// P6.4

func TestSame(t *testing.T) {
	for i, x := range []struct {
		a, b tlv.Frame
		want bool
	}{
		{tlv.Frame{}, tlv.Frame{}, true},
		{tlv.Frame{Type: 1}, tlv.Frame{Type: 1, Value: []byte{}}, true},
		{frame(1, 2, 3), frame(1, 2, 3), true},
		{frame(1, make([]byte, 70000)...), frame(1, make([]byte, 70000)...), true},
		{frame(1), frame(2), false},
		{frame(1), frame(0x101), false},
		{frame(0x8001, 2), frame(1, 2), false},
		{frame(1, 2, 3), frame(2, 2, 3), false},
		{frame(1, 2, 3), frame(1, 3, 2), false},
		{frame(1, 2, 3), frame(1, 2), false},
		{frame(1, 2, 3), frame(1, 2, 4), false},
		{frame(1, 2, 3), frame(1, 4, 3), false},
		{frame(1, 0), frame(1), false},
		{frame(1, 0), frame(1, 0, 0), false},
	} {
		if got, back := tlv.Same(x.a, x.b), tlv.Same(x.b, x.a); got != x.want || back != x.want {
			t.Errorf("%d: %t, %t", i, got, back)
		}
	}
}

// P6.5

func TestSplitInvertsJoin(t *testing.T) {
	r := rand.New(rand.NewSource(5))
	for range 5000 {
		l := randomList(r, 10, 13)
		b, _ := tlv.Join(l...)
		if got, err := tlv.Split(b); !same(got, l) || err != nil {
			t.Fatalf("Split(%d): %v, %v; want %v", b, got, err, l)
		}
	}
}

func TestJoinInvertsSplitWithoutAnError(t *testing.T) {
	r := rand.New(rand.NewSource(6))
	for range 20000 {
		b := written(randomList(r, 4, 7))
		if len(b) > 0 {
			b[r.Intn(len(b))] = byte(r.Intn(13))
		}
		l, err := tlv.Split(b)
		if err != nil {
			continue
		}
		if got, ok := tlv.Join(l...); !bytes.Equal(got, b) || !ok {
			t.Fatalf("Join(Split(%d)): %d, %t", b, got, ok)
		}
	}
}

// fillings yields all lists of n of some bytes.
func fillings(n int, symbols ...byte) iter.Seq[[]byte] {
	return func(yield func([]byte) bool) {
		b := make([]byte, n)
		var fill func(i int) bool
		fill = func(i int) bool {
			if i == n {
				return yield(b)
			}
			for _, x := range symbols {
				if b[i] = x; !fill(i + 1) {
					return false
				}
			}
			return true
		}
		fill(0)
	}
}

// lists returns the bytes of all lists of n bytes whose types and values have
// only some symbols.
func lists(n int, symbols ...byte) map[string]bool {
	found := map[string]bool{}
	var grow func(l []tlv.Frame)
	grow = func(l []tlv.Frame) {
		b := written(l)
		if len(b) == n {
			found[string(b)] = true
		}
		for k := 0; (len(b)+3)/4*4+4+k <= n; k++ {
			for f := range fillings(2+k, symbols...) {
				grow(append(slices.Clone(l), frame(256*uint16(f[0])+uint16(f[1]), bytes.Clone(f[2:])...)))
			}
		}
	}
	grow(nil)
	return found
}

// Whatever is not the bytes of a list is refused, and whatever is one is read.
func TestSplitReadsTheBytesOfListsOnly(t *testing.T) {
	for _, x := range []struct {
		n       int
		symbols []byte
	}{
		{0, []byte{0, 4}},
		{1, []byte{0, 1, 4}},
		{2, []byte{0, 2, 4}},
		{3, []byte{0, 3, 4}},
		{4, []byte{0, 3, 4, 5}},
		{5, []byte{0, 4, 5, 6}},
		{6, []byte{0, 4, 6, 7}},
		{7, []byte{0, 4, 5, 7}},
		{8, []byte{0, 4, 5, 8}},
		{9, []byte{0, 4, 5}},
		{10, []byte{0, 4, 6}},
		{12, []byte{0, 4, 5}},
	} {
		wanted := lists(x.n, x.symbols...)
		read := 0
		for b := range fillings(x.n, x.symbols...) {
			reads(t, b)
			l, err := tlv.Split(b)
			if (err == nil) != wanted[string(b)] || err == nil && !bytes.Equal(written(l), b) {
				t.Fatalf("Split(%d): %v, %v; a list: %t", b, l, err, wanted[string(b)])
			}
			if err == nil {
				read++
			}
		}
		if (read > 0) != (x.n == 0 || x.n > 3) {
			t.Errorf("%d lists of %d bytes", read, x.n)
		}
	}
}

// P1 and the rules

func TestArgumentsStayAsTheyAreAndAreNotShared(t *testing.T) {
	spoil := func(b []byte) {
		b = b[:cap(b)]
		for i := range b {
			b[i] ^= 0xff
		}
	}
	full := append(bytes.Clone(exampleBytes), 7, 7, 7, 7)
	whole := bytes.Clone(full)
	b := full[:len(exampleBytes)]
	l, _ := tlv.Split(b)
	for i := range l {
		spoil(l[i].Value)
	}
	if again, err := tlv.Split(b); !same(again, example) || err != nil || !bytes.Equal(full, whole) {
		t.Errorf("%v, %v; the bytes given became %d", again, err, full)
	}
	value := []byte{1, 2, 3, 4, 5, 6, 7, 8}
	f := tlv.Frame{Type: 9, Value: value[:5]}
	given := []tlv.Frame{f, frame(1), f}
	put, _ := tlv.Put(f)
	spoil(put)
	joined, _ := tlv.Join(given[:2]...)
	spoil(joined)
	tlv.Size(given[:2]...)
	tlv.Same(f, given[2])
	if !bytes.Equal(value, []byte{1, 2, 3, 4, 5, 6, 7, 8}) || !same(given, []tlv.Frame{f, frame(1), f}) {
		t.Errorf("the arguments became %d, %v", value, given)
	}
}

func TestFramesOfOneResultShareNothing(t *testing.T) {
	b := written([]tlv.Frame{frame(1, 1, 1, 1, 1), frame(2, 2, 2, 2, 2)})
	l, _ := tlv.Split(b)
	_ = append(l[0].Value, 9, 9, 9, 9, 9, 9, 9, 9)
	l[0].Value[3] = 9
	if !bytes.Equal(l[1].Value, []byte{2, 2, 2, 2}) {
		t.Errorf("%v", l)
	}
}

func TestFunctionsMayBeCalledConcurrently(t *testing.T) {
	s := tlv.All(exampleBytes)
	var group sync.WaitGroup
	for range 16 {
		group.Go(func() {
			l, err := tlv.Split(exampleBytes)
			b, ok := tlv.Join(example...)
			ats, got := all(s)
			if !same(l, example) || err != nil || !bytes.Equal(b, exampleBytes) || !ok || !slices.Equal(ats, []int{0, 8}) || !same(got, example) {
				t.Error("other results than without concurrency")
			}
		})
	}
	group.Wait()
}
