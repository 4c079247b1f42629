package reason_test

import (
	"fmt"
	"math"
	"slices"
	"strconv"
	"strings"
	"testing"

	"polyglot/reason"
)

// table is the document's, line by line: the kinds, and the codes that they may have.
const table = `2 | 0 128 to 138 140 144 149 151 153 to 157 159
4 5 | 0 16 128 131 135 144 145 151 153
6 7 | 0 146
9 | 0 1 2 128 131 135 143 145 151 158 161 162
11 | 0 17 128 131 135 143 145
14 | 0 4 128 to 131 135 137 139 141 142 143 144 147 to 162
15 | 0 24 25`

// pairs are the return codes of 3.1.1 with the reason codes of 5 to which they correspond.
var pairs = [][2]int{{0, 0}, {1, 132}, {2, 133}, {3, 136}, {4, 134}, {5, 135}}

// read returns the numbers of a cell of the table; "a to b" are all from a to b.
func read(t *testing.T, cell string) []int {
	t.Helper()
	var l []int
	words := strings.Fields(cell)
	for i, word := range words {
		if word == "to" {
			continue
		}
		n, err := strconv.Atoi(word)
		if err != nil {
			t.Fatal(err)
		}
		if i > 0 && words[i-1] == "to" {
			for between := l[len(l)-1] + 1; between < n; between++ {
				l = append(l, between)
			}
		}
		l = append(l, n)
	}
	return l
}

// meant returns the codes of each kind, by the table.
func meant(t *testing.T) map[int][]int {
	t.Helper()
	codes := map[int][]int{}
	for line := range strings.Lines(table) {
		left, right, _ := strings.Cut(line, "|")
		for _, kind := range read(t, left) {
			codes[kind] = read(t, right)
		}
	}
	return codes
}

// numbers are all bytes, what lies around them, and what would be one if a number was cut, or its sign lost.
func numbers() []int {
	var l []int
	for n := -600; n <= 600; n++ {
		l = append(l, n)
	}
	for _, n := range []int{0, 1, 2, 16, 24, 63, 64, 127, 128, 132, 146, 162} {
		l = append(l, 1<<16+n, 1<<32+n, 1<<62+n, math.MinInt+n, math.MaxInt-n, -1<<16+n, -1<<32+n)
	}
	return l
}

// P6.1: every kind with every code; a kind that has none, or that does not exist, may have none.
func TestMay(t *testing.T) {
	codes := meant(t)
	if len(codes) != 9 {
		t.Fatal(codes)
	}
	for _, kind := range numbers() {
		for _, code := range numbers() {
			if got := reason.May(kind, code); got != slices.Contains(codes[kind], code) {
				t.Fatalf("May(%d, %d): %v", kind, code, got)
			}
		}
	}
}

// P6.1: all codes of every kind, in ascending order.
func TestAll(t *testing.T) {
	codes := meant(t)
	for _, kind := range numbers() {
		if got := reason.All(kind); !slices.Equal(got, codes[kind]) {
			t.Errorf("All(%d): %v, not %v", kind, got, codes[kind])
		}
	}
}

// Rule 3: each list is new memory.
func TestAllIsNew(t *testing.T) {
	codes := meant(t)
	for kind := range 17 {
		l := reason.All(kind)
		_ = append(l, 7)
		for i := range l {
			l[i] = 7
		}
		if got := reason.All(kind); !slices.Equal(got, codes[kind]) {
			t.Errorf("All(%d): %v after its first result was changed", kind, got)
		}
	}
}

// P6.1: the return codes and the grants of 3.1.1.
func TestReturnGrant(t *testing.T) {
	for _, code := range numbers() {
		if got := reason.Return(code); got != (0 <= code && code <= 5) {
			t.Errorf("Return(%d): %v", code, got)
		}
		if got := reason.Grant(code); got != slices.Contains([]int{0, 1, 2, 128}, code) {
			t.Errorf("Grant(%d): %v", code, got)
		}
	}
}

// P6.2: what corresponds in both directions, and that nothing else does.
func TestCorrespond(t *testing.T) {
	to5, to311 := map[int]int{}, map[int]int{}
	for _, p := range pairs {
		to5[p[0]], to311[p[1]] = p[1], p[0]
	}
	for _, code := range numbers() {
		want, wantIs := to5[code]
		if got, is := reason.To5(code); got != want || is != wantIs {
			t.Errorf("To5(%d): %d %v", code, got, is)
		}
		want, wantIs = to311[code]
		if got, is := reason.To311(code); got != want || is != wantIs {
			t.Errorf("To311(%d): %d %v", code, got, is)
		}
	}
}

// P6.2: what says that something failed.
func TestBad(t *testing.T) {
	for _, code := range numbers() {
		if got := reason.Bad(code); got != (128 <= code && code <= 255) {
			t.Errorf("Bad(%d): %v", code, got)
		}
	}
}

// P6.2: two digits for each code of any kind, and ? for others, those of 3.1.1 alone among them.
func TestText(t *testing.T) {
	known := map[int]bool{}
	for _, codes := range meant(t) {
		for _, code := range codes {
			known[code] = true
		}
	}
	for _, code := range numbers() {
		want := "?"
		if known[code] {
			want = fmt.Sprintf("%02x", code)
		}
		if got := reason.Text(code); got != want {
			t.Errorf("Text(%d): %q, not %q", code, got, want)
		}
	}
	for code, want := range map[int]string{0: "00", 4: "04", 16: "10", 24: "18", 128: "80", 162: "a2", 3: "?", 5: "?", 127: "?", 163: "?", 255: "?", 256: "?", -1: "?"} {
		if got := reason.Text(code); got != want {
			t.Errorf("Text(%d): %q, not %q", code, got, want)
		}
	}
}

// P6.3: there and back; and each that corresponds is one that both versions have in a CONNACK.
func TestThereAndBack(t *testing.T) {
	for code := range 6 {
		there, is := reason.To5(code)
		if !is || !reason.May(2, there) || reason.Bad(there) != (code != 0) {
			t.Errorf("To5(%d): %d %v", code, there, is)
		}
		if back, is := reason.To311(there); back != code || !is {
			t.Errorf("To311(To5(%d)): %d %v", code, back, is)
		}
	}
}
