package kind_test

import (
	"bytes"
	"math"
	"slices"
	"strconv"
	"strings"
	"sync"
	"testing"

	"wharf/api"
	"wharf/kind"
)

// anySize is the chapter's Any.
const anySize = 65531

// rows are the rows of the chapter's table: type, name, Mask, Least, Most, Unit
// and Kids.
const rows = `
0 data 15 13 Any 1 0
1 init 0 16 16 1 2
2 init-ack 0 16 16 1 2
3 sack 0 12 Any 4 0
4 heartbeat 0 0 0 1 1
5 heartbeat-ack 0 0 0 1 1
6 abort 1 0 0 1 3
7 shutdown 0 4 4 1 0
8 shutdown-ack 0 0 0 1 0
9 error 0 0 0 1 4
10 cookie-echo 0 1 Any 1 0
11 cookie-ack 0 0 0 1 0
12 ecne 0 4 4 1 0
13 cwr 0 4 4 1 0
14 shutdown-complete 1 0 0 1 0
15 auth 0 5 Any 1 0
64 i-data 15 17 Any 1 0
128 asconf-ack 0 4 4 1 2
130 re-config 0 0 0 1 5
132 pad 0 0 Any 1 0
192 forward-tsn 0 4 Any 4 0
193 asconf 0 4 4 1 6
194 i-forward-tsn 0 4 Any 8 0
`

// allTypes are the types of the table, as the chapter has them.
var allTypes = []byte{0, 1, 2, 3, 4, 5, 6, 7, 8, 9, 10, 11, 12, 13, 14, 15, 64, 128, 130, 132, 192, 193, 194}

// number reads a number of a row.
func number(t *testing.T, s string) int {
	t.Helper()
	if s == "Any" {
		return anySize
	}
	n, err := strconv.ParseUint(s, 10, 8)
	if err != nil {
		t.Fatal(err)
	}
	return int(n)
}

// kinds returns the forms as the chapter has them, in its order.
func kinds(t *testing.T) []kind.Kind {
	t.Helper()
	var l []kind.Kind
	for row := range strings.Lines(strings.TrimSpace(rows)) {
		w := strings.Fields(row)
		l = append(l, kind.Kind{
			Type:  byte(number(t, w[0])),
			Name:  w[1],
			Mask:  byte(number(t, w[2])),
			Least: number(t, w[3]),
			Most:  number(t, w[4]),
			Unit:  number(t, w[5]),
			Kids:  number(t, w[6]),
		})
	}
	return l
}

// byType returns the forms by their types.
func byType(t *testing.T) map[byte]kind.Kind {
	t.Helper()
	m := map[byte]kind.Kind{}
	for _, k := range kinds(t) {
		m[k.Type] = k
	}
	return m
}

// sizes returns the numbers of bytes that a form can have.
func sizes(k kind.Kind) map[int]bool {
	m := map[int]bool{}
	for n := k.Least; n <= k.Most; n += k.Unit {
		m[n] = true
	}
	return m
}

// P11.1

func TestOf(t *testing.T) {
	want := byType(t)
	for x := range 1 << 8 {
		k, ok := kind.Of(byte(x))
		w, known := want[byte(x)]
		if k != w || ok != known {
			t.Errorf("Of(%d) = %v, %v", x, k, ok)
		}
	}
}

func TestOfExample(t *testing.T) {
	k, ok := kind.Of(3)
	if k.Name != "sack" || !ok {
		t.Error(k, ok)
	}
	for n, want := range map[int]bool{12: true, 14: false, 16: true} {
		if kind.Fits(k, n) != want {
			t.Error(n)
		}
	}
}

func TestKnown(t *testing.T) {
	for x := range 1 << 8 {
		if want := slices.Contains(allTypes, byte(x)); kind.Known(byte(x)) != want {
			t.Errorf("Known(%d) is not %v", x, want)
		}
	}
}

func TestByName(t *testing.T) {
	for _, want := range kinds(t) {
		if k, ok := kind.ByName(want.Name); k != want || !ok {
			t.Errorf("ByName(%q) = %v, %v", want.Name, k, ok)
		}
	}
}

func TestByNameOfNone(t *testing.T) {
	check := func(name string) {
		if k, ok := kind.ByName(name); k != (kind.Kind{}) || ok {
			t.Errorf("ByName(%q) = %v, %v", name, k, ok)
		}
	}
	// Names of parameters and of error causes, and spellings of other texts,
	// are no names of chunks.
	others := []string{
		"", " ", "-", "0", "3", "\x00", "\xff", "type-99", "unknown", "heartbeat-info", "ecn", "ipv4", "padding",
		"restart", "user-abort", "reconf", "idata", "iforward", "sack\x00", strings.Repeat("data", 1<<16),
	}
	for _, name := range others {
		check(name)
	}
	for _, k := range kinds(t) {
		check(k.Name[1:])
		check(k.Name + " ")
		check(" " + k.Name)
		check(k.Name + "-")
		check(strings.ToUpper(k.Name))
		check(strings.ToUpper(k.Name[:1]) + k.Name[1:])
		if short := k.Name[:len(k.Name)-1]; short != "" {
			check(short)
		}
		if strings.Contains(k.Name, "-") {
			check(strings.ReplaceAll(k.Name, "-", "_"))
			check(strings.ReplaceAll(k.Name, "-", ""))
		}
	}
}

// P11.2

func TestTypes(t *testing.T) {
	if l := kind.Types(); !bytes.Equal(l, allTypes) {
		t.Errorf("Types() = %v, want %v", l, allTypes)
	}
}

// TestTypesAreNew checks that a result that is overwritten leaves the others
// and the table as they are.
func TestTypesAreNew(t *testing.T) {
	a, b := kind.Types(), kind.Types()
	full := a[:cap(a)]
	for i := range full {
		full[i] = 0xff
	}
	if c := kind.Types(); !bytes.Equal(b, allTypes) || !bytes.Equal(c, allTypes) {
		t.Error(b, c)
	}
	if kind.Known(0xff) || !kind.Known(0) {
		t.Error("the table has changed")
	}
}

func TestIsData(t *testing.T) {
	for x := range 1 << 8 {
		if want := x == 0 || x == 64; kind.IsData(byte(x)) != want {
			t.Errorf("IsData(%d) is not %v", x, want)
		}
	}
}

// P11.3

func TestFits(t *testing.T) {
	for _, k := range kinds(t) {
		want := sizes(k)
		for n := -70; n < 1<<16+70; n++ {
			if kind.Fits(k, n) != want[n] {
				t.Fatalf("Fits(%v, %d) is not %v", k, n, want[n])
			}
		}
		for _, n := range []int{1 << 17, 1<<32 + k.Least, math.MaxInt, math.MaxInt - 1, math.MinInt, math.MinInt + 1, math.MinInt + k.Least} {
			if kind.Fits(k, n) {
				t.Errorf("Fits(%v, %d)", k, n)
			}
		}
	}
}

// TestFitsAtBounds has the least and the greatest numbers of bytes written out,
// with those next to them.
func TestFitsAtBounds(t *testing.T) {
	for _, x := range []struct {
		t    byte
		n    int
		want bool
	}{
		{0, 12, false}, {0, 13, true}, {0, 65531, true}, {0, 65532, false},
		{1, 15, false}, {1, 16, true}, {1, 17, false}, {1, 20, false},
		{3, 65528, true}, {3, 65531, false}, {3, 65532, false},
		{4, -1, false}, {4, 0, true}, {4, 1, false},
		{10, 0, false}, {10, 1, true}, {15, 4, false}, {15, 5, true},
		{64, 16, false}, {64, 17, true}, {132, 0, true}, {132, 65531, true},
		{192, 0, false}, {192, 4, true}, {192, 6, false}, {192, 8, true}, {192, 65528, true},
		{194, 4, true}, {194, 8, false}, {194, 12, true}, {194, 65524, true}, {194, 65528, false},
	} {
		k, ok := kind.Of(x.t)
		if !ok || kind.Fits(k, x.n) != x.want {
			t.Errorf("Fits(%v, %d) is not %v", k, x.n, x.want)
		}
	}
}

// TestFitsOfOthers checks P1 for forms that are not of the table.
func TestFitsOfOthers(t *testing.T) {
	for _, unit := range []int{0, -1, 1, math.MinInt, math.MaxInt} {
		for _, least := range []int{0, -1, math.MinInt, math.MaxInt} {
			for _, n := range []int{0, -1, 1, math.MinInt, math.MaxInt} {
				kind.Fits(kind.Kind{Least: least, Most: math.MaxInt, Unit: unit}, n)
			}
		}
	}
	kind.Fits(kind.Kind{}, 0)
}

// P11.4

func TestInside(t *testing.T) {
	want := map[int][3]int{
		kind.Info:   {1, 1, 1},
		kind.Params: {1, 0, 16384},
		kind.Causes: {2, 0, 16384},
		kind.Some:   {2, 1, 16384},
		kind.Pair:   {1, 1, 2},
		kind.Change: {1, 2, 16384},
	}
	check := func(kids int) {
		class, least, most := kind.Inside(kids)
		if got := [3]int{class, least, most}; got != want[kids] {
			t.Errorf("Inside(%d) = %v, want %v", kids, got, want[kids])
		}
	}
	for kids := -1000; kids <= 1000; kids++ {
		check(kids)
	}
	for _, kids := range []int{1<<8 + 1, 1<<16 + 2, 1<<32 + 3, math.MaxInt, math.MinInt, math.MinInt + 4} {
		check(kids)
	}
}

func TestKidsAreNumbers(t *testing.T) {
	got := []int{kind.None, kind.Info, kind.Params, kind.Causes, kind.Some, kind.Pair, kind.Change}
	if !slices.Equal(got, []int{0, 1, 2, 3, 4, 5, 6}) {
		t.Error(got)
	}
}

// P11.5

func TestAllDiffer(t *testing.T) {
	l := kind.Types()
	types, names := map[byte]bool{}, map[string]bool{}
	for _, x := range l {
		k, ok := kind.Of(x)
		if !ok || k.Type != x || k.Name == "" {
			t.Errorf("Of(%d) = %v, %v", x, k, ok)
		}
		if same, ok := kind.ByName(k.Name); !ok || same != k {
			t.Errorf("ByName(%q) = %v, %v", k.Name, same, ok)
		}
		types[x], names[k.Name] = true, true
	}
	if len(l) != 23 || len(types) != 23 || len(names) != 23 {
		t.Error(len(l), len(types), len(names))
	}
}

// TestTypesOfAPI checks that the constants of api are the types with their names.
func TestTypesOfAPI(t *testing.T) {
	for x, name := range map[byte]string{
		api.Data: "data", api.Sack: "sack", api.Abort: "abort", api.Error: "error", api.Auth: "auth",
		api.IData: "i-data", api.Reconf: "re-config", api.Forward: "forward-tsn", api.IForward: "i-forward-tsn",
	} {
		if k, ok := kind.Of(x); !ok || k.Name != name {
			t.Error(x, k, ok)
		}
	}
}

// P1: the functions may be called concurrently, and give the same each time.

func TestConcurrently(t *testing.T) {
	want := kinds(t)
	var group sync.WaitGroup
	for range 8 {
		group.Go(func() {
			for range 50 {
				for i, x := range kind.Types() {
					k, ok := kind.Of(x)
					same, found := kind.ByName(want[i].Name)
					if k != want[i] || same != want[i] || !ok || !found {
						t.Error(x, k, same)
					}
				}
			}
		})
	}
	group.Wait()
}
