package shape_test

import (
	"math"
	"slices"
	"strconv"
	"strings"
	"sync"
	"testing"

	"wharf/api"
	"wharf/shape"
)

// anySize is the chapter's Any.
const anySize = 65531

// paramRows are the chapter's rows of the parameters: type, name, Least, Most,
// Unit and Kids.
const paramRows = `
1 heartbeat-info 0 Any 1 0
5 ipv4 4 4 1 0
6 ipv6 16 16 1 0
7 state-cookie 0 Any 1 0
8 unrecognized 0 0 1 1
9 cookie-preservative 4 4 1 0
11 host-name 1 Any 1 0
12 address-types 2 Any 2 0
13 outgoing-reset 12 Any 2 0
14 incoming-reset 4 Any 2 0
15 tsn-reset 4 4 1 0
16 reconfig-response 8 16 8 0
17 add-outgoing 8 8 1 0
18 add-incoming 8 8 1 0
0x8000 ecn 0 0 1 0
0x8002 random 1 Any 1 0
0x8003 chunk-list 0 Any 1 0
0x8004 hmac-algorithms 2 Any 2 0
0x8005 padding 0 Any 1 0
0x8008 extensions 0 Any 1 0
0xc000 forward-tsn 0 0 1 0
0xc001 add-ip 4 4 1 4
0xc002 delete-ip 4 4 1 4
0xc003 error-indication 4 4 1 3
0xc004 set-primary 4 4 1 4
0xc005 success 4 4 1 0
0xc006 adaptation 4 4 1 0
`

// causeRows are those of the error causes.
const causeRows = `
1 invalid-stream 4 4 1 0
2 missing-parameter 6 Any 2 0
3 stale-cookie 4 4 1 0
4 out-of-resource 0 0 1 0
5 unresolvable-address 0 0 1 1
6 unrecognized-chunk 4 Any 1 0
7 invalid-parameter 0 0 1 0
8 unrecognized-parameters 0 0 1 2
9 no-user-data 4 4 1 0
10 cookie-while-shutting-down 0 0 1 0
11 restart 0 0 1 2
12 user-abort 0 Any 1 0
13 protocol-violation 0 Any 1 0
0xa0 delete-last-address 0 0 1 1
0xa1 resource-shortage 0 Any 1 0
0xa2 delete-source-address 0 0 1 1
0xa3 illegal-asconf-ack 0 Any 1 0
0xa4 no-authorization 0 Any 1 0
0x0105 unsupported-hmac 2 2 1 0
`

// classes are both classes; otherClasses are some numbers of no class.
var (
	classes      = []int{api.Param, api.Cause}
	otherClasses = []int{0, 3, 4, -1, -2, 65537, 1<<32 + 1, math.MaxInt, math.MinInt}
)

// number reads a number of a row.
func number(t *testing.T, s string) int {
	t.Helper()
	if s == "Any" {
		return anySize
	}
	n, err := strconv.ParseUint(s, 0, 16)
	if err != nil {
		t.Fatal(err)
	}
	return int(n)
}

// forms returns the forms of a class as the chapter has them, in its order.
func forms(t *testing.T, class int) []shape.Form {
	t.Helper()
	text := map[int]string{api.Param: paramRows, api.Cause: causeRows}[class]
	var l []shape.Form
	for row := range strings.Lines(strings.TrimSpace(text)) {
		w := strings.Fields(row)
		l = append(l, shape.Form{
			Class: class,
			Type:  uint16(number(t, w[0])),
			Name:  w[1],
			Least: number(t, w[2]),
			Most:  number(t, w[3]),
			Unit:  number(t, w[4]),
			Kids:  number(t, w[5]),
		})
	}
	return l
}

// byType returns the forms of a class by their types.
func byType(t *testing.T, class int) map[uint16]shape.Form {
	m := map[uint16]shape.Form{}
	for _, f := range forms(t, class) {
		m[f.Type] = f
	}
	return m
}

// fits counts the sizes of a form, up to any that it can have.
func fits(f shape.Form) map[int]bool {
	m := map[int]bool{}
	for n := f.Least; n <= f.Most; n += f.Unit {
		m[n] = true
	}
	return m
}

// P7.1

func TestOf(t *testing.T) {
	for _, class := range classes {
		want := byType(t, class)
		for x := range 1 << 16 {
			f, ok := shape.Of(class, uint16(x))
			w, known := want[uint16(x)]
			if f != w || ok != known {
				t.Fatalf("Of(%d, %d) = %v, %v", class, x, f, ok)
			}
		}
	}
	for _, class := range otherClasses {
		for x := range 1 << 16 {
			if f, ok := shape.Of(class, uint16(x)); f != (shape.Form{}) || ok {
				t.Fatalf("Of(%d, %d) = %v, %v", class, x, f, ok)
			}
		}
	}
}

func TestOfExample(t *testing.T) {
	f, ok := shape.Of(api.Param, 16)
	if f.Name != "reconfig-response" || !ok {
		t.Error(f, ok)
	}
	for n, want := range map[int]bool{8: true, 12: false, 16: true} {
		if shape.Fits(f, n) != want {
			t.Error(n)
		}
	}
}

func TestKnown(t *testing.T) {
	for _, class := range append(otherClasses, classes...) {
		want := byType(t, class)
		for x := range 1 << 16 {
			if _, known := want[uint16(x)]; shape.Known(class, uint16(x)) != known {
				t.Fatalf("Known(%d, %d) is not %v", class, x, known)
			}
		}
	}
}

func TestByName(t *testing.T) {
	for _, class := range classes {
		for _, want := range forms(t, class) {
			if f, ok := shape.ByName(class, want.Name); f != want || !ok {
				t.Errorf("ByName(%d, %q) = %v, %v", class, want.Name, f, ok)
			}
		}
	}
}

func TestByNameOfNone(t *testing.T) {
	check := func(class int, name string) {
		if f, ok := shape.ByName(class, name); f != (shape.Form{}) || ok {
			t.Errorf("ByName(%d, %q) = %v, %v", class, name, f, ok)
		}
	}
	for _, name := range []string{"", " ", "-", "\x00", "\xff", "ip", "data", "param", "cause", "type-2", "ipv5"} {
		for _, class := range append(otherClasses, classes...) {
			check(class, name)
		}
	}
	for _, class := range classes {
		for _, f := range forms(t, class) {
			check(class, f.Name[1:])
			check(class, f.Name[:len(f.Name)-1])
			check(class, f.Name+" ")
			check(class, strings.ToUpper(f.Name))
			check(class, strings.ReplaceAll(f.Name, "-", "_")+"_")
			// A name of one class is none of the other one.
			check(api.Param+api.Cause-class, f.Name)
			for _, other := range otherClasses {
				check(other, f.Name)
			}
		}
	}
}

// P7.2

func TestTypes(t *testing.T) {
	for _, class := range classes {
		known := byType(t, class)
		var want []uint16
		for x := range 1 << 16 {
			if _, ok := known[uint16(x)]; ok {
				want = append(want, uint16(x))
			}
		}
		if got := shape.Types(class); !slices.Equal(got, want) {
			t.Errorf("Types(%d) = %v, want %v", class, got, want)
		}
	}
	for _, class := range otherClasses {
		if l := shape.Types(class); len(l) != 0 {
			t.Errorf("Types(%d) = %v", class, l)
		}
	}
}

// TestTypesAreNew checks that a result that is overwritten leaves the others
// and the table as they are.
func TestTypesAreNew(t *testing.T) {
	for _, class := range classes {
		a, b := shape.Types(class), shape.Types(class)
		want := slices.Clone(b)
		full := a[:cap(a)]
		for i := range full {
			full[i] = 0xffff
		}
		if c := shape.Types(class); !slices.Equal(b, want) || !slices.Equal(c, want) {
			t.Error(class, b, c)
		}
		if shape.Known(class, 0xffff) || !shape.Known(class, want[0]) {
			t.Error(class)
		}
	}
}

// P7.3

func TestFits(t *testing.T) {
	for _, class := range classes {
		for _, f := range forms(t, class) {
			want := fits(f)
			for n := -70; n < 1<<16+70; n++ {
				if shape.Fits(f, n) != want[n] {
					t.Fatalf("Fits(%v, %d) is not %v", f, n, want[n])
				}
			}
			for _, n := range []int{1 << 17, 1<<32 + f.Least, math.MaxInt, math.MaxInt - 1, math.MinInt, math.MinInt + 1, math.MinInt + f.Least} {
				if shape.Fits(f, n) {
					t.Errorf("Fits(%v, %d)", f, n)
				}
			}
		}
	}
}

// TestFitsOfOthers checks P1 for forms that are not of the table.
func TestFitsOfOthers(t *testing.T) {
	for _, unit := range []int{0, -1, 1, math.MinInt, math.MaxInt} {
		for _, least := range []int{0, -1, math.MinInt, math.MaxInt} {
			for _, n := range []int{0, -1, 1, math.MinInt, math.MaxInt} {
				shape.Fits(shape.Form{Least: least, Most: math.MaxInt, Unit: unit}, n)
			}
		}
	}
	shape.Fits(shape.Form{}, 0)
}

// P7.4

func TestInside(t *testing.T) {
	want := map[int][3]int{
		shape.One:     {1, 1, 1},
		shape.Params:  {1, 1, 16384},
		shape.Causes:  {2, 1, 16384},
		shape.Address: {1, 1, 1},
	}
	check := func(kids int) {
		class, least, most := shape.Inside(kids)
		if got := [3]int{class, least, most}; got != want[kids] {
			t.Errorf("Inside(%d) = %v, want %v", kids, got, want[kids])
		}
	}
	for kids := -1000; kids <= 1000; kids++ {
		check(kids)
	}
	for _, kids := range []int{1<<8 + 1, 1<<16 + 2, 1<<32 + 3, math.MaxInt, math.MinInt, math.MinInt + 4} {
		check(kids)
	}
}

func TestKidsAreNumbers(t *testing.T) {
	got := []int{shape.None, shape.One, shape.Params, shape.Causes, shape.Address}
	if !slices.Equal(got, []int{0, 1, 2, 3, 4}) {
		t.Error(got)
	}
}

// P7.5

func TestAllDiffer(t *testing.T) {
	for class, count := range map[int]int{api.Param: 27, api.Cause: 19} {
		l := shape.Types(class)
		types, names := map[uint16]bool{}, map[string]bool{}
		for _, x := range l {
			f, ok := shape.Of(class, x)
			if !ok || f.Type != x || f.Class != class || f.Name == "" {
				t.Errorf("Of(%d, %d) = %v, %v", class, x, f, ok)
			}
			types[x], names[f.Name] = true, true
		}
		if len(l) != count || len(types) != count || len(names) != count {
			t.Error(class, len(l), len(types), len(names))
		}
	}
}

// P1: the functions may be called concurrently, and give the same each time.

func TestConcurrently(t *testing.T) {
	want := map[int][]shape.Form{}
	for _, class := range classes {
		want[class] = forms(t, class)
	}
	var group sync.WaitGroup
	for range 8 {
		group.Go(func() {
			for range 20 {
				for class, l := range want {
					for i, x := range shape.Types(class) {
						f, ok := shape.Of(class, x)
						g, found := shape.ByName(class, l[i].Name)
						if f != l[i] || g != l[i] || !ok || !found {
							t.Error(class, x, f, g)
						}
					}
				}
			}
		})
	}
	group.Wait()
}
