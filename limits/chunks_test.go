package limits_test

import (
	"math"
	"math/rand"
	"slices"
	"strings"
	"testing"

	"polyglot/api"
	"polyglot/head"
	"polyglot/limits"
	"polyglot/mstream"
)

// pieces returns s divided, by the words of the document: place by place, with an end for each index that is there.
func pieces(s string, cuts []int) (l []string) {
	start := 0
	for i := range len(s) + 1 {
		for _, cut := range cuts {
			if cut == i {
				l = append(l, s[start:i])
				start = i
			}
		}
	}
	return append(l, s[start:])
}

func divide(t *testing.T, s string, cuts ...int) []string {
	t.Helper()
	want := pieces(s, cuts)
	before := slices.Clone(cuts)
	l := limits.Chunks(s, cuts...)
	if !slices.Equal(l, want) {
		t.Fatalf("Chunks(%.100q, %.100v): %.200q, not %.200q", s, before, l, want)
	}
	if !slices.Equal(cuts, before) {
		t.Fatalf("Chunks(%.100q, %.100v) makes %.100v of them", s, before, cuts)
	}
	if strings.Join(l, "") != s {
		t.Fatalf("Chunks(%.100q, %.100v): %.200q", s, before, l)
	}
	return l
}

// P15.2: by hand; the chapter's example comes first.
func TestChunks(t *testing.T) {
	for _, c := range []struct {
		s    string
		cuts []int
		want []string
	}{
		{"abc", []int{2, 0}, []string{"", "ab", "c"}},
		{"", nil, []string{""}},
		{"", []int{0}, []string{"", ""}},
		{"", []int{0, 0}, []string{"", "", ""}},
		{"", []int{1, -1}, []string{""}},
		{"abc", nil, []string{"abc"}},
		{"abc", []int{}, []string{"abc"}},
		{"abc", []int{0}, []string{"", "abc"}},
		{"abc", []int{1}, []string{"a", "bc"}},
		{"abc", []int{3}, []string{"abc", ""}},
		{"abc", []int{4}, []string{"abc"}},
		{"abc", []int{-1}, []string{"abc"}},
		{"abc", []int{math.MinInt, math.MaxInt}, []string{"abc"}},
		{"abc", []int{1<<32 + 1, 1<<8 + 1, -2}, []string{"abc"}},
		{"abc", []int{math.MaxInt, 1, math.MinInt}, []string{"a", "bc"}},
		{"abc", []int{1, 2}, []string{"a", "b", "c"}},
		{"abc", []int{2, 1}, []string{"a", "b", "c"}},
		{"abc", []int{1, 1}, []string{"a", "", "bc"}},
		{"abc", []int{2, 1, 2, 1}, []string{"a", "", "b", "", "c"}},
		{"abc", []int{3, 3, 0, 0}, []string{"", "", "abc", "", ""}},
		{"abc", []int{3, 2, 1, 0}, []string{"", "a", "b", "c", ""}},
		{"\x00\xff", []int{1}, []string{"\x00", "\xff"}},
		{"\u00e4", []int{1}, []string{"\xc3", "\xa4"}}, // bytes, not code points
	} {
		if l := divide(t, c.s, c.cuts...); !slices.Equal(l, c.want) {
			t.Errorf("Chunks(%q, %v): %q, not %q", c.s, c.cuts, l, c.want)
		}
	}
}

// P15.2: up to four indexes, in every order, within the string and beyond it: a chunk more than there are valid ones.
func TestChunksAll(t *testing.T) {
	for size := range 5 {
		s := "abcd"[:size]
		var more func(cuts []int)
		more = func(cuts []int) {
			valid := 0
			for _, cut := range cuts {
				if cut >= 0 && cut <= size {
					valid++
				}
			}
			if l := divide(t, s, cuts...); len(l) != valid+1 {
				t.Fatalf("Chunks(%q, %v): %q, with %d valid ones", s, cuts, l, valid)
			}
			if len(cuts) == 4 {
				return
			}
			for cut := -2; cut <= size+2; cut++ {
				more(append(cuts[:len(cuts):len(cuts)], cut))
			}
		}
		more(nil)
	}
}

// Rule 3: the indexes stay as they are, with their spare capacity, and the chunks are new memory.
func TestChunksArguments(t *testing.T) {
	cuts := []int{3, 1, 2, 9, -1, 1, 0, 4, 2}
	before := slices.Clone(cuts)
	for size := range len(cuts) + 1 {
		divide(t, "abcdef", cuts[:size]...)
		if !slices.Equal(cuts, before) {
			t.Fatalf("%d indexes: %v", size, cuts)
		}
	}
	first := limits.Chunks("abcdef", cuts...)
	for i := range first[:cap(first)] {
		first[:cap(first)][i] = "spoilt"
	}
	divide(t, "abcdef", cuts...)
}

// P15.2: many indexes, from behind.
func TestChunksMany(t *testing.T) {
	const many = 200_000
	s := strings.Repeat("ab", many/2)
	var cuts []int
	for i := many; i >= 0; i-- {
		cuts = append(cuts, i, i+many+1, -i-1)
	}
	l := limits.Chunks(s, cuts...)
	if len(l) != many+2 || l[0] != "" || l[many+1] != "" || strings.Join(l, "") != s {
		t.Fatal(len(l))
	}
	for i, chunk := range l[1 : many+1] {
		if chunk != s[i:i+1] {
			t.Fatalf("%d: %q", i, chunk)
		}
	}
}

// agree wants of a stream that receives the chunks what Split returns, and as much at each chunk as of the bytes up to there.
func agree(t *testing.T, version, maxPacket int, s string, cuts ...int) {
	t.Helper()
	stream, e := mstream.New(version, limited(maxPacket))
	if e != api.OK {
		t.Fatal(e)
	}
	fed, told := 0, 0
	for _, chunk := range divide(t, s, cuts...) {
		fed += len(chunk)
		got, e := stream.Feed(chunk)
		want, at, wantE := limits.Split(version, limited(maxPacket), s[:fed])
		if len(want) < told || !slices.EqualFunc(got, want[told:], head.Same) || e != wantE || stream.At() != at {
			t.Fatalf("%d, %d, %.200x, cut at %.100v: %.400v %d %d, not %.400v %d %d after %d of them",
				version, maxPacket, s[:fed], cuts, got, stream.At(), e, want, at, wantE, told)
		}
		told = len(want)
	}
	expect(t, version, maxPacket, s, meant(version, maxPacket, s))
}

// P15.3: packets and what is wrong, in every division into up to three chunks, and into single bytes.
func TestStream(t *testing.T) {
	for _, version := range versions {
		_, whole, _ := series(version)
		for _, s := range []string{"", whole, whole + whole[:7], whole + "\x00", whole[:20] + "\x30\x7f" + whole} {
			agree(t, version, 18, s)
			for i := range len(s) + 1 {
				agree(t, version, 18, s, len(s)-i, i)
				agree(t, version, 17, s, i, i)
			}
			every := make([]int, len(s))
			for i := range s {
				every[i] = i
			}
			agree(t, version, 18, s, every...)
			agree(t, version, 16, s, append(every, every...)...)
		}
	}
	for _, c := range wrong {
		for _, front := range []string{"", "\xc0\x00", samples(c.version)[2].s} {
			s := front + c.s + "\xc0\x00"
			for i := range len(s) + 1 {
				for j := i; j <= len(s); j++ {
					agree(t, c.version, 20, s, j, i)
				}
			}
		}
	}
}

// P15.3: the longest packets, cut about their ends.
func TestStreamLongest(t *testing.T) {
	for _, size := range []int{16, 131, 16_388, 1<<20 - 1, 1 << 20} {
		s := publication(t, size).s + "\xd0\x00" + publication(t, size).s
		for _, maxPacket := range []int{size - 1, size, size + 1} {
			if maxPacket >= 16 && maxPacket <= 1<<20 {
				agree(t, 4, maxPacket, s)
				agree(t, 4, maxPacket, s, 1, 2, 3, 4, 5, size-1, size, size+1, size+2, size+3, size+4, len(s)-1)
			}
		}
	}
}

// P15.3: packets in any order, some of them changed, with any limit, cut anywhere.
func TestStreamChanged(t *testing.T) {
	r := rand.New(rand.NewSource(15))
	for range 20_000 {
		version := versions[r.Intn(2)]
		s := ""
		for range r.Intn(10) {
			s += samples(version)[r.Intn(len(samples(version)))].s
		}
		if s != "" && r.Intn(3) > 0 {
			at := r.Intn(len(s))
			s = s[:at] + string([]byte{byte(r.Intn(256))}) + s[at+r.Intn(2):]
		}
		cuts := make([]int, r.Intn(8))
		for i := range cuts {
			cuts[i] = r.Intn(len(s)+5) - 2
		}
		agree(t, version, 16+r.Intn(6), s, cuts...)
	}
}
