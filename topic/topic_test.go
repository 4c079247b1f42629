package topic_test

import (
	"slices"
	"strings"
	"testing"

	"polyglot/topic"
)

const most = 65535 // bytes of a string

// paths returns all strings of up to depth levels, each one of the given.
func paths(depth int, levels ...string) []string {
	var every []string
	longest := slices.Clone(levels)
	for range depth {
		every = append(every, longest...)
		var longer []string
		for _, path := range longest {
			for _, level := range levels {
				longer = append(longer, path+"/"+level)
			}
		}
		longest = longer
	}
	return every
}

// split cuts s at its slashes, byte by byte.
func split(s string) []string {
	levels := []string{""}
	for i := range len(s) {
		if s[i] == '/' {
			levels = append(levels, "")
			continue
		}
		levels[len(levels)-1] += s[i : i+1]
	}
	return levels
}

// isFilter says by the words of the document, without recursion, whether s of good text is a filter.
func isFilter(s string) bool {
	if s == "" {
		return false
	}
	for i := range len(s) {
		begins := i == 0 || s[i-1] == '/'
		ends := i == len(s)-1 || s[i+1] == '/'
		if s[i] == '+' && !(begins && ends) || s[i] == '#' && !(begins && i == len(s)-1) {
			return false
		}
	}
	return true
}

// meant says by the words of the document whether a filter matches a name, both good.
func meant(filter, name string) bool {
	f, n := split(filter), split(name)
	if (f[0] == "+" || f[0] == "#") && name[0] == '$' {
		return false
	}
	whole := f[len(f)-1] == "#"
	if whole {
		f = f[:len(f)-1]
	}
	if len(n) < len(f) || len(n) > len(f) && !whole {
		return false
	}
	for i, level := range f {
		if level != "+" && level != n[i] {
			return false
		}
	}
	return true
}

// P4.1: names.
func TestName(t *testing.T) {
	for s, want := range map[string]bool{
		"a": true, "a/b": true, "/": true, "//": true, "/a": true, "a/": true, " ": true, "a b": true, "*": true,
		"$": true, "$x": true, "$share/g/a": true, "a/$": true, "\xc3\xa4/\xe2\x82\xac": true, "\xef\xbf\xbd": true, "\x01": true,
		"": false, "+": false, "#": false, "a+": false, "a#": false, "a/+": false, "a/#": false, "+/a": false, "a+b": false, "#/a": false,
		"\x00": false, "a\x00": false, "\xff": false, "a/\xc3": false, "\xc0\x80": false, "\xed\xa0\x80": false,
		strings.Repeat("a", most): true, strings.Repeat("/", most): true, strings.Repeat("a", most+1): false, strings.Repeat("/", most+1): false,
		strings.Repeat("a", most-1) + "+": false, strings.Repeat("a", most-1) + "#": false,
	} {
		if topic.Name(s) != want {
			t.Errorf("Name of %.40q (%d bytes): %v", s, len(s), !want)
		}
	}
}

// P4.1: filters; one that begins with $share/ goes by its levels, too.
func TestFilter(t *testing.T) {
	for s, want := range map[string]bool{
		"a": true, "+": true, "#": true, "/": true, "+/+": true, "+/#": true, "/#": true, "/+": true, "+/": true, "a/+/b": true, "a/#": true, "a//#": true,
		"$x/#": true, "$/+": true, "$share/g/a": true, "$share/g": true, "$share/": true, "$share//a": true, "$share/+/a": true, "$share/#": true, "\xc3\xa4/+": true,
		"": false, "a+": false, "+a": false, "a/b+": false, "a/+b/c": false, "++": false, "a+/b": false, "##": false, "+#": false, "#+": false,
		"a#": false, "#a": false, "a/b#": false, "#/": false, "#/a": false, "#/#": false, "a/#/b": false, "a/#/": false,
		"$share/g+/a": false, "$share/#/a": false, "$share/g/a#": false,
		"\x00": false, "+/\x00": false, "\xff": false, "#/\xff": false, "+/\xc3": false, "\xc0\x80": false,
		strings.Repeat("a", most-2) + "/#": true, strings.Repeat("a", most-1) + "/#": false,
		strings.Repeat("+/", most/2) + "#": true, strings.Repeat("+/", most/2) + "+/": false, strings.Repeat("/", most): true,
	} {
		if topic.Filter(s) != want {
			t.Errorf("Filter of %.40q (%d bytes): %v", s, len(s), !want)
		}
	}
	for _, s := range paths(3, "", "a", "+", "#", "a+", "#a", "$") {
		if want := isFilter(s); topic.Filter(s) != want {
			t.Errorf("Filter of %q: %v", s, !want)
		}
		if want := s != "" && !strings.Contains(s, "+") && !strings.Contains(s, "#"); topic.Name(s) != want {
			t.Errorf("Name of %q: %v", s, !want)
		}
	}
}

// P4.1: levels, one more than there are slashes, of any bytes.
func TestLevels(t *testing.T) {
	for _, c := range []struct {
		s    string
		want []string
	}{
		{"", []string{""}},
		{"a", []string{"a"}},
		{"/", []string{"", ""}},
		{"a/b", []string{"a", "b"}},
		{"a//b", []string{"a", "", "b"}},
		{"//", []string{"", "", ""}},
		{"a/", []string{"a", ""}},
		{"+/#/a#", []string{"+", "#", "a#"}},
		{"\x00/\xff\xc3", []string{"\x00", "\xff\xc3"}},
		{"$share/g/a", []string{"$share", "g", "a"}},
	} {
		if got := topic.Levels(c.s); !slices.Equal(got, c.want) {
			t.Errorf("Levels of %q: %q", c.s, got)
		}
	}
	if got := topic.Levels(strings.Repeat("/", 3*most)); len(got) != 3*most+1 {
		t.Errorf("%d levels", len(got))
	}
}

// P4.1: joins, also of what is no level.
func TestJoin(t *testing.T) {
	for _, c := range []struct {
		levels []string
		want   string
	}{
		{nil, ""},
		{[]string{""}, ""},
		{[]string{"a"}, "a"},
		{[]string{"", ""}, "/"},
		{[]string{"a", "", "b"}, "a//b"},
		{[]string{"a/b", "c/"}, "a/b/c/"},
		{[]string{"+", "#", "\xff", "\x00"}, "+/#/\xff/\x00"},
	} {
		given := slices.Clone(c.levels)
		if got := topic.Join(c.levels...); got != c.want {
			t.Errorf("Join of %q: %q", c.levels, got)
		}
		if !slices.Equal(given, c.levels) {
			t.Errorf("Join changed %q to %q", given, c.levels)
		}
	}
	if topic.Join() != "" || topic.Join("a", "b") != "a/b" {
		t.Error(topic.Join(), topic.Join("a", "b"))
	}
}

// Rule 3: levels are new memory, and a join keeps nothing of them.
func TestNewMemory(t *testing.T) {
	first, second := topic.Levels("a/b"), topic.Levels("a/b")
	joined := topic.Join(first...)
	first[0] = "x"
	_ = append(first, "y")
	if second[0] != "a" || joined != "a/b" || topic.Levels("a/b")[0] != "a" {
		t.Error(second, joined)
	}
}

// P4.1: Dollar asks for the first byte alone.
func TestDollar(t *testing.T) {
	for s, want := range map[string]bool{"$": true, "$x": true, "$share/g/a": true, "$\x00\xff": true, "": false, "x$": false, "/$": false, " $": false, "+": false, "\xff$": false} {
		if topic.Dollar(s) != want {
			t.Errorf("Dollar of %q: %v", s, !want)
		}
	}
}

// P4.2: known matches.
func TestMatches(t *testing.T) {
	for _, c := range []struct {
		filter, name string
		want         bool
	}{
		{"a/#", "a", true},
		{"+/b", "/b", true},
		{"#", "$x", false},
		{"#", "a", true},
		{"#", "/", true},
		{"#", "a/b/c", true},
		{"#", "a/$x", true},
		{"+", "a", true},
		{"+", "/", false},
		{"+", "/a", false},
		{"+", "$x", false},
		{"+/#", "a", true},
		{"+/#", "$x/a", false},
		{"+/x", "$x/x", false},
		{"+/+", "/a", true},
		{"/+", "/a", true},
		{"/+", "/", true},
		{"/#", "/", true},
		{"/#", "a", false},
		{"a/#", "a/", true},
		{"a/#", "a/b/c", true},
		{"a/#", "ab", false},
		{"a/+/#", "a", false},
		{"a/+/#", "a/b", true},
		{"a/+", "a", false},
		{"a/+", "a/", true},
		{"a/+", "a/b", true},
		{"a/+", "a/$b", true},
		{"a/+", "a/b/c", false},
		{"a/+/c", "a/b/c", true},
		{"a/+/c", "a/b/d", false},
		{"$x/#", "$x", true},
		{"$x/#", "$x/a", true},
		{"$x/+", "$x/$a", true},
		{"$x", "$x", true},
		{"$share/g/a", "a", false},
		{"$share/g/a", "$share/g/a", true},
		{"a", "b", false},
		{"a", "A", false},
		{"a", "a/", false},
		{"a/", "a", false},
		{"\xc3\xa4/+", "\xc3\xa4/\xe2\x82\xac", true},
		{"\xc3\xa4", "a\xcc\x88", false}, // byte by byte, however alike they look
	} {
		if topic.Matches(c.filter, c.name) != c.want {
			t.Errorf("%q and %q: %v", c.filter, c.name, !c.want)
		}
	}
}

// P4.2: what is not valid matches nothing, and is matched by nothing.
func TestMatchesNothing(t *testing.T) {
	bad := []string{"", "\x00", "\xff", "a/\xc3", "a\x00b", "a#", "#/a", "a+", strings.Repeat("a", most+1)}
	for _, s := range bad {
		for _, good := range []string{"a", "#", "+", "a/#", s} {
			if topic.Matches(good, s) || topic.Matches(s, good) {
				t.Errorf("%.40q and %q", s, good)
			}
		}
	}
	for _, name := range []string{"+", "#", "a/+", "a/#"} {
		if topic.Matches("#", name) || topic.Matches(name, name) {
			t.Errorf("%q is not a name", name)
		}
	}
}

// P4.2: every filter and name of a few levels.
func TestMatchesEvery(t *testing.T) {
	names := paths(4, "", "a", "b", "$", "$a")
	for _, filter := range paths(3, "", "a", "$", "$a", "+", "#") {
		for _, name := range names {
			want := isFilter(filter) && name != "" && meant(filter, name)
			if topic.Matches(filter, name) != want {
				t.Errorf("%q and %q: %v", filter, name, !want)
			}
		}
	}
}

// P4.2: the longest names and filters, and those with the most levels.
func TestLongest(t *testing.T) {
	levels := strings.Repeat("/", most) // one more than bytes
	word := strings.Repeat("a", most)
	for _, c := range []struct {
		filter, name string
		want         bool
	}{
		{levels, levels, true},
		{levels, levels[1:], false},
		{levels[1:], levels, false},
		{levels[1:] + "#", levels, true},
		{levels[1:] + "#", levels[1:], true},
		{levels[2:] + "#", levels[1:], true},
		{levels[1:] + "#", levels[2:], true}, // the parent
		{levels[1:] + "#", levels[3:], false},
		{strings.Repeat("+/", most/2) + "+", strings.Repeat("a/", most/2) + "a", true},
		{strings.Repeat("+/", most/2) + "+", strings.Repeat("a/", most/2), true},
		{strings.Repeat("+/", most/2) + "+", strings.Repeat("a/", most/2-1), false},
		{"#", levels, true},
		{"+", word, true},
		{"+", word + "a", false},
		{word, word, true},
	} {
		if topic.Matches(c.filter, c.name) != c.want {
			t.Errorf("%.20q (%d bytes) and %.20q (%d bytes): %v", c.filter, len(c.filter), c.name, len(c.name), !c.want)
		}
	}
	if !topic.Within(levels, levels) || !topic.Within(levels, levels[1:]+"#") || topic.Within(levels[1:]+"#", levels) {
		t.Error("Within, of the most levels")
	}
}

// P4.2: shared filters.
func TestShared(t *testing.T) {
	for _, c := range []struct{ s, group, filter string }{
		{"$share/g/a", "g", "a"},
		{"$share/g/a/#", "g", "a/#"},
		{"$share/g/#", "g", "#"},
		{"$share/g/+", "g", "+"},
		{"$share/g//", "g", "/"},
		{"$share/g//a", "g", "/a"},
		{"$share/ /a", " ", "a"},
		{"$share/$share/a", "$share", "a"},
		{"$share/g/$share/h/a", "g", "$share/h/a"},
		{"$share/g/$x/#", "g", "$x/#"},
		{"$share/\xc3\xa4/\xe2\x82\xac", "\xc3\xa4", "\xe2\x82\xac"},
		{"$share/g/" + strings.Repeat("a", most-9), "g", strings.Repeat("a", most-9)},
		{"$share/" + strings.Repeat("g", most-9) + "/#", strings.Repeat("g", most-9), "#"},
	} {
		if group, filter, is := topic.Shared(c.s); group != c.group || filter != c.filter || !is {
			t.Errorf("Shared of %.40q (%d bytes): %.40q %.40q %v", c.s, len(c.s), group, filter, is)
		}
	}
}

// P4.2: what is not a shared filter has neither a group nor a filter.
func TestNotShared(t *testing.T) {
	for _, s := range []string{
		"", "a", "#", "$", "$share", "$share/", "$share/g", "$share/g/", "$share//", "$share//a", "$share///a",
		"$share/+/a", "$share/#/a", "$share/g+/a", "$share/#g/a", "$share/g/a#", "$share/g/a+", "$share/g/#/a",
		"$Share/g/a", "share/g/a", " $share/g/a", "/$share/g/a", "$shared/g/a", "$sharE/g/a",
		"$share/g\x00/a", "$share/g/\x00", "$share/\xff/a", "$share/g/\xff", "$share/\xc3/\xa4", "$share/g/a\xed\xa0\x80",
		"$share/g/" + strings.Repeat("a", most-8), "$share/" + strings.Repeat("g", most-8) + "/#",
	} {
		if group, filter, is := topic.Shared(s); group != "" || filter != "" || is {
			t.Errorf("Shared of %.40q (%d bytes): %.40q %.40q %v", s, len(s), group, filter, is)
		}
	}
}

// P4.2: known filters within others.
func TestWithin(t *testing.T) {
	for _, c := range []struct {
		a, b string
		want bool
	}{
		{"a", "a", true},
		{"a", "+", true},
		{"a", "#", true},
		{"a", "a/#", true},
		{"a", "b", false},
		{"+", "a", false},
		{"+", "#", true},
		{"+", "+/#", true},
		{"#", "+", false},
		{"#", "a/#", false},
		{"a/+", "a/#", true},
		{"a/#", "a/+", false},
		{"a/#", "a/+/#", false}, // it matches a
		{"a/+/#", "a/#", true},
		{"a/+/#", "+/#", true},
		{"a/b/#", "a/#", true},
		{"a/#", "a/b/#", false},
		{"#", "+/#", true},    // no name is empty
		{"/#", "/+/#", true},  // likewise
		{"/#", "+/+/#", true}, // likewise
		{"/#", "/+", false},
		{"+/#", "+/+/#", false},
		{"//#", "//+/#", false},
		{"$x", "#", false},
		{"$x", "+", false},
		{"$x/a", "+/a", false},
		{"$x/#", "#", false},
		{"$x/#", "+/#", false},
		{"$x/a", "$x/+", true},
		{"$x/$a", "$x/+", true},
		{"#", "$x/#", false},
		{"a/$x", "a/+", true},
		{"$share/g/a", "a", false},
		{"$share/g/a", "$share/+/a", true},
	} {
		if topic.Within(c.a, c.b) != c.want {
			t.Errorf("%q within %q: %v", c.a, c.b, !c.want)
		}
	}
	for _, bad := range []string{"", "a#", "#/a", "a+", "\x00", "a/\xff", strings.Repeat("a", most+1)} {
		if topic.Within(bad, "#") || topic.Within("a", bad) || topic.Within(bad, bad) {
			t.Errorf("%.40q is not a filter", bad)
		}
	}
}

// P4.2: the greatest length of a name does not make a filter lie within another: there is always a name of another count of levels.
func TestWithinLongest(t *testing.T) {
	word := strings.Repeat("a", most-2)
	for _, c := range []struct {
		a, b string
		want bool
	}{
		{word + "/#", word + "/#", true},
		{word + "/#", "+/#", true},
		{word + "/#", "+/+", false},
		{word + "/#", word + "/+", false},
		{word + "/#", word, false},
		{word + "/+", word + "/#", true},
		{word + "/+", word + "/", false},
		{"+/" + word, "+/#", true},
		{"+/" + word, "/" + word, false},
		{"+/" + word, "a/" + word, false},
	} {
		if topic.Within(c.a, c.b) != c.want {
			t.Errorf("%.20q within %.20q: %v", c.a, c.b, !c.want)
		}
	}
}

// P4.2 and P4.3: each pair of filters of a few levels, held against the names that both match. The names have a level, z, that no filter names, and one level more.
func TestWithinEvery(t *testing.T) {
	var filters []string
	for _, s := range paths(4, "", "a", "$", "+", "#") {
		if isFilter(s) {
			filters = append(filters, s)
		}
	}
	names := paths(5, "", "a", "z", "$")[1:] // without the empty one
	matched := make([][]bool, len(filters))
	for i, filter := range filters {
		for _, name := range names {
			matched[i] = append(matched[i], meant(filter, name))
		}
	}
	for i, a := range filters {
		for j, b := range filters {
			want := true
			for k := range names {
				if matched[i][k] && !matched[j][k] {
					want = false
					break
				}
			}
			if topic.Within(a, b) != want {
				t.Errorf("%q within %q: %v", a, b, !want)
			}
		}
	}
}

// P4.3: a name matches itself, and join of the levels is the string.
func TestThereAndBack(t *testing.T) {
	for _, s := range paths(4, "", "a", "$", "\xc3\xa4", "+", "#", "\xff", "\x00") {
		if topic.Name(s) && !topic.Matches(s, s) {
			t.Errorf("%q does not match itself", s)
		}
		levels := topic.Levels(s)
		if topic.Join(levels...) != s || !slices.Equal(levels, split(s)) {
			t.Errorf("%q: %q", s, levels)
		}
	}
}

// P4.3: Within is a preorder, and goes along with Matches.
func TestPreorder(t *testing.T) {
	var filters []string
	for _, s := range paths(3, "", "a", "$", "+", "#") {
		if topic.Filter(s) {
			filters = append(filters, s)
		}
	}
	for _, a := range filters {
		if !topic.Within(a, a) {
			t.Errorf("%q not within itself", a)
		}
		for _, b := range filters {
			if topic.Name(a) && topic.Within(a, b) != topic.Matches(b, a) {
				t.Errorf("the name %q and %q", a, b)
			}
			if !topic.Within(a, b) {
				continue
			}
			for _, c := range filters {
				if topic.Within(b, c) && !topic.Within(a, c) {
					t.Errorf("%q within %q within %q", a, b, c)
				}
			}
		}
	}
}
