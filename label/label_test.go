package label_test

import (
	"slices"
	"strconv"
	"strings"
	"testing"
	"unicode/utf8"

	"switchboard/api"
	"switchboard/label"
)

// A name's bounds, in bytes of one and of two.
var (
	longest     = strings.Repeat("x", api.MaxName)
	longestWide = strings.Repeat("\u00c4", api.MaxName/2)
)

func goodNames() []string {
	return []string{
		"a", "Z", "0", "9.8", "wien", "Wien.Example", "A-b.c9", "a--b", "1-2.3-4", "xn--p1ai",
		"\u00c0", "\u00d6\u00d8", "\u00f6\u00f8", "\u00de\u00df", "\u00ff", "\u0100", "\u024f.x",
		longest, longestWide, "a." + longest[2:], longest[2:] + ".a",
		strings.Repeat("a.", 31) + "ab",
	}
}

func badNames() []string {
	return []string{
		"", ".", "..", "-", "a.", ".a", "a..b", "a.b.", ".a.b", "a...b",
		"-a", "a-", "a.-b", "a-.b", "a.-", "-.a", "a.-.b", "--",
		"a b", " a", "a ", "a_b", "a/b", "a:b", "a@b", "a[b", "a`b", "a{b", "a\x00", "a\n", "*",
		"\u00d7", "\u00f7", "a\u00d7b", "a\u00f7b", "\u00bf", "\u0250", "\u0391", "\u0663", "\uff21", "\u3002", "\ufffd", "\U00010400",
		"\xff", "a\xff", "\xffa", "a\x80b", "\xc3", "a\xc3", "\xc3.a", "\xc1\x81", "\xe0\x83\x84", "\xed\xa0\x80", "\xf4\x90\x80\x80",
		longest + "x", longestWide + "a", "a" + longestWide, longest[1:] + "\u00c4", strings.Repeat("a.", 32) + "a", strings.Repeat("x", 1<<20),
	}
}

// isSign says once more, the long way, what a sign is.
func isSign(r rune) bool {
	if strings.ContainsRune("abcdefghijklmnopqrstuvwxyzABCDEFGHIJKLMNOPQRSTUVWXYZ0123456789-", r) {
		return true
	}
	return r >= 0xc0 && r <= 0x24f && r != 0xd7 && r != 0xf7
}

// isName says once more, part by part, what a name is.
func isName(s string) bool {
	if s == "" || len(s) > 64 || !utf8.ValidString(s) {
		return false
	}
	for _, part := range strings.Split(s, ".") {
		if part == "" || strings.HasPrefix(part, "-") || strings.HasSuffix(part, "-") {
			return false
		}
		for _, r := range part {
			if !isSign(r) {
				return false
			}
		}
	}
	return true
}

// texts are all texts of up to most pieces, each one of what is told.
func texts(most int, pieces ...string) []string {
	all := []string{""}
	last := all
	for range most {
		var next []string
		for _, s := range last {
			for _, p := range pieces {
				next = append(next, s+p)
			}
		}
		all = append(all, next...)
		last = next
	}
	return all
}

// P1.1: ordinary names, and what the chapter rules out.
func TestValid(t *testing.T) {
	for _, s := range goodNames() {
		if !label.Valid(s) {
			t.Errorf("%q is a name", s)
		}
	}
	for _, s := range badNames() {
		if label.Valid(s) {
			t.Errorf("%q is no name", s)
		}
	}
}

// P1.1: of several, each has to be a name.
func TestValidOfSeveral(t *testing.T) {
	if !label.Valid() || !label.Valid([]string{}...) {
		t.Error("of no names each is one")
	}
	if !label.Valid(goodNames()...) {
		t.Error("each of these is a name")
	}
	for _, bad := range badNames() {
		for at := range 3 {
			l := []string{"a", "b", "c"}
			l[at] = bad
			if label.Valid(l...) {
				t.Errorf("%q is no name, at place %d", bad, at)
			}
		}
	}
}

// P1.1: which runes are signs, and which of them stand at an end.
func TestValidRuneByRune(t *testing.T) {
	for r := rune(0); r <= utf8.MaxRune; r++ {
		s := string(r)
		sign := isSign(r) && utf8.ValidRune(r)
		if label.Valid("a"+s+"a") != (sign || r == '.') {
			t.Errorf("%U inside", r)
		}
		if label.Valid(s) != (sign && r != '-') {
			t.Errorf("%U alone", r)
		}
	}
}

// P1.1: all short texts of the runes that matter.
func TestValidOfShortTexts(t *testing.T) {
	for _, s := range texts(6, "a", "9", "-", ".", "\u00c4", "\xc3", "\x84") {
		if label.Valid(s) != isName(s) {
			t.Errorf("%q", s)
		}
	}
}

// P1.1: the lengths in bytes.
func TestValidLengths(t *testing.T) {
	for n := range 200 {
		if label.Valid(strings.Repeat("a", n)) != (n >= 1 && n <= 64) {
			t.Errorf("%d bytes", n)
		}
		if label.Valid(strings.Repeat("\u00e4", n)) != (n >= 1 && n <= 32) {
			t.Errorf("%d runes of two bytes", n)
		}
	}
}

// P1.1: runes and bytes, counted.
func TestRunes(t *testing.T) {
	for s, want := range map[string][2]int{
		"":                         {0, 0},
		"abc":                      {3, 0},
		"a\u00e4\u20ac\U0001f600":  {4, 0},
		"\ufffd":                   {1, 0},
		"\ufffd\xff\ufffd":         {2, 1},
		"\xef\xbf":                 {0, 2},
		"\xef\xbf\xff\xef\xbf\xbd": {1, 3},
		"\xff\xfe":                 {0, 2},
		"a\xe4b":                   {2, 1},
		"\xe2\x82":                 {0, 2},
		"\xe2\x82a":                {1, 2},
		"\xc1\x81":                 {0, 2},
		"\xed\xa0\x80":             {0, 3},
		"\xf4\x90\x80\x80":         {0, 4},
		"\x80\x80a\x80":            {1, 3},
		"\x00":                     {1, 0},
	} {
		if well, ill := label.Runes(s); well != want[0] || ill != want[1] {
			t.Errorf("%q: %d, %d", s, well, ill)
		}
	}
}

// P1.1: each rune is one, whatever stands around it.
func TestRunesRuneByRune(t *testing.T) {
	for r := rune(0); r <= utf8.MaxRune; r++ {
		if !utf8.ValidRune(r) {
			continue
		}
		if well, ill := label.Runes("\x80" + string(r) + "\xc3"); well != 1 || ill != 2 {
			t.Errorf("%U: %d, %d", r, well, ill)
		}
	}
}

// P1.1: all short texts of the bytes that matter.
func TestRunesOfShortTexts(t *testing.T) {
	for _, s := range texts(6, "a", "\xc3", "\xef", "\xbf", "\xbd", "\xff") {
		well, ill := 0, 0
		for rest := s; rest != ""; {
			r, size := utf8.DecodeRuneInString(rest)
			if r == utf8.RuneError && size == 1 {
				ill++
			} else {
				well++
			}
			rest = rest[size:]
		}
		if w, i := label.Runes(s); w != well || i != ill {
			t.Errorf("%q: %d, %d", s, w, i)
		}
	}
}

// P1.2: names, folded.
func TestFold(t *testing.T) {
	for s, want := range map[string]string{
		"Wien.Example":                   "wien.example",
		"ABCXYZ.abcxyz-09":               "abcxyz.abcxyz-09",
		"\u00c0\u00c4\u00d6\u00d8\u00de": "\u00e0\u00e4\u00f6\u00f8\u00fe",
		"\u00df\u00e0\u00f6\u00f8\u00ff": "\u00df\u00e0\u00f6\u00f8\u00ff",
		"\u0100Z\u0178\u024e":            "\u0100z\u0178\u024e",
		longest:                          longest,
		longestWide:                      strings.Repeat("\u00e4", 32),
	} {
		if folded, e := label.Fold(s); folded != want || e != api.OK {
			t.Errorf("%q: %q, %d", s, folded, e)
		}
	}
	for _, s := range badNames() {
		if folded, e := label.Fold(s); folded != "" || e != api.ErrLabel {
			t.Errorf("%q: %q, %d", s, folded, e)
		}
	}
}

// P1.2: each sign, folded.
func TestFoldSignBySign(t *testing.T) {
	for r := rune(0); r <= 0x24f; r++ {
		if !isSign(r) {
			continue
		}
		want := r
		if strings.ContainsRune("ABCDEFGHIJKLMNOPQRSTUVWXYZ", r) || r >= 0xc0 && r <= 0xde {
			want = r + 32
		}
		if folded, e := label.Fold("a" + string(r) + "a"); folded != "a"+string(want)+"a" || e != api.OK {
			t.Errorf("%U: %q, %d", r, folded, e)
		}
	}
}

// P1.2: names that are alike, and those that are not.
func TestSame(t *testing.T) {
	for _, l := range [][2]string{{"a", "a"}, {"Wien.Example", "wIEN.eXAMPLE"}, {"\u00c4", "\u00e4"}, {"A-1", "a-1"}, {longestWide, strings.Repeat("\u00e4", 32)}} {
		if !label.Same(l[0], l[1]) || !label.Same(l[1], l[0]) {
			t.Errorf("%q are alike", l)
		}
	}
	for _, l := range [][2]string{{"a", "b"}, {"a", "aa"}, {"a.b", "ab"}, {"a.b", "a-b"}, {"\u00df", "\u00ff"}, {"\u0100", "\u0101"}, {"a", "\u00e4"}, {longest, longest[1:]}} {
		if label.Same(l[0], l[1]) || label.Same(l[1], l[0]) {
			t.Errorf("%q are not alike", l)
		}
	}
	for _, s := range badNames() {
		if label.Same(s, s) || label.Same("a", s) || label.Same(s, "a") || label.Same(s, "") {
			t.Errorf("%q is no name", s)
		}
	}
}

// P1.2: a name's parts stand as they are.
func TestParts(t *testing.T) {
	for s, want := range map[string][]string{
		"a":                  {"a"},
		"a.B.c":              {"a", "B", "c"},
		"Wien.Example":       {"Wien", "Example"},
		"x.x":                {"x", "x"},
		"\u00c4.a-b.\u024f9": {"\u00c4", "a-b", "\u024f9"},
		longest:              {longest},
	} {
		if parts := label.Parts(s); !slices.Equal(parts, want) {
			t.Errorf("%q: %q", s, parts)
		}
	}
	for _, s := range badNames() {
		if parts := label.Parts(s); len(parts) != 0 {
			t.Errorf("%q: %q", s, parts)
		}
	}
}

// P1.2, R4: what is done to parts is not told by the next ones.
func TestPartsAreNew(t *testing.T) {
	first := label.Parts("a.b")
	first[0] = "x"
	_ = append(first[:1], "y")
	if parts := label.Parts("a.b"); !slices.Equal(parts, []string{"a", "b"}) {
		t.Errorf("%q", parts)
	}
}

// P1.3: keys, split.
func TestSplit(t *testing.T) {
	for key, want := range map[string]struct {
		name string
		port int
	}{
		"Abc:80":               {"abc", 80},
		"abc:1":                {"abc", 1},
		"abc:9":                {"abc", 9},
		"abc:100":              {"abc", 100},
		"abc:65535":            {"abc", 65535},
		"\u00c4.B-c:443":       {"\u00e4.b-c", 443},
		"80:80":                {"80", 80},
		longest + ":65535":     {longest, 65535},
		longestWide + ":65535": {strings.Repeat("\u00e4", 32), 65535},
	} {
		if name, port, e := label.Split(key); name != want.name || port != want.port || e != api.OK {
			t.Errorf("%q: %q, %d, %d", key, name, port, e)
		}
	}
}

// P1.3: what has no name ahead of its last colon, whatever stands behind it.
func TestSplitWithoutName(t *testing.T) {
	for _, key := range []string{"", "abc", "80", longest} {
		if name, port, e := label.Split(key); name != "" || port != 0 || e != api.ErrLabel {
			t.Errorf("%q: %q, %d, %d", key, name, port, e)
		}
	}
	bad := append(badNames(), "a:1", "a:80", "a:", ":a", ":", "::")
	for _, s := range bad {
		for _, port := range []string{"80", "", "0", "x", "65536"} {
			if name, p, e := label.Split(s + ":" + port); name != "" || p != 0 || e != api.ErrLabel {
				t.Errorf("%q, %q: %q, %d, %d", s, port, name, p, e)
			}
		}
	}
}

func badPorts() []string {
	return []string{
		"", "0", "00", "080", "00080", "01", "065535", "65536", "65537", "65540", "70000", "99999", "655350", "100000",
		"4294967376", "18446744073709551617", "18446744073709551696", strings.Repeat("9", 1<<16), "1" + strings.Repeat("0", 64),
		"+1", "-1", "-80", " 80", "80 ", "8 0", "8_0", "0x50", "1a", "a1", "x", "80.", "8.0", "8-0", "8/", "/8", "\u0668\u0660", "\uff18\uff10", "8\xff", "\xff", "80\x00", "80\n", "1e3",
	}
}

// P1.3: a name, and no port behind it.
func TestSplitWithoutPort(t *testing.T) {
	for _, port := range badPorts() {
		if name, p, e := label.Split("Abc:" + port); name != "" || p != 0 || e != api.ErrPort {
			t.Errorf("%q: %q, %d, %d", port, name, p, e)
		}
	}
}

// P1.3: each number, in digits, is a port or none.
func TestSplitNumberByNumber(t *testing.T) {
	for n := range 70000 {
		name, port, e := label.Split("a:" + strconv.Itoa(n))
		if n >= 1 && n <= 65535 {
			if name != "a" || port != n || e != api.OK {
				t.Errorf("%d: %q, %d, %d", n, name, port, e)
			}
		} else if name != "" || port != 0 || e != api.ErrPort {
			t.Errorf("%d: %q, %d, %d", n, name, port, e)
		}
	}
}

// P1.3: names and ports, joined.
func TestJoin(t *testing.T) {
	for _, c := range []struct {
		name string
		port int
		want string
	}{
		{"ABC", 65535, "abc:65535"}, {"a", 1, "a:1"}, {"Wien.Example", 80, "wien.example:80"}, {"\u00c4-9", 1000, "\u00e4-9:1000"}, {longest, 65535, longest + ":65535"},
	} {
		if key, e := label.Join(c.name, c.port); key != c.want || e != api.OK {
			t.Errorf("%q, %d: %q, %d", c.name, c.port, key, e)
		}
	}
	const most = int(^uint(0) >> 1)
	for _, port := range []int{0, -1, -80, 65536, 65537, 1<<16 + 80, 1<<32 + 80, most, -most - 1} {
		if key, e := label.Join("a", port); key != "" || e != api.ErrPort {
			t.Errorf("%d: %q, %d", port, key, e)
		}
	}
	for _, s := range badNames() {
		for _, port := range []int{80, 0, -1, 65536} {
			if key, e := label.Join(s, port); key != "" || e != api.ErrLabel {
				t.Errorf("%q, %d: %q, %d", s, port, key, e)
			}
		}
	}
}

// manyNames are those of all short texts, and the good ones.
func manyNames() []string {
	all := texts(5, "a", "Z", "0", "-", ".", "\u00de", "\u00df", "\u0178")
	return slices.DeleteFunc(append(all, goodNames()...), func(s string) bool { return !label.Valid(s) })
}

// P1.4: what is folded stays as it is, and as long, part by part.
func TestFoldedStays(t *testing.T) {
	for _, s := range manyNames() {
		folded, _ := label.Fold(s)
		again, e := label.Fold(folded)
		if again != folded || e != api.OK || !label.Same(s, folded) {
			t.Errorf("%q: %q, %q, %d", s, folded, again, e)
		}
		if len(folded) != len(s) {
			t.Errorf("%q: %q is of another length", s, folded)
		}
		was, is := label.Parts(s), label.Parts(folded)
		if !slices.EqualFunc(was, is, func(a, b string) bool { return len(a) == len(b) }) {
			t.Errorf("%q: %q, %q", s, was, is)
		}
		if strings.Join(was, ".") != s {
			t.Errorf("%q: %q", s, was)
		}
	}
}

// P1.4: from a name and a port to a key, and back.
func TestJoinedIsSplit(t *testing.T) {
	for _, s := range manyNames() {
		folded, _ := label.Fold(s)
		for _, port := range []int{1, 80, 10000, 65535} {
			key, e := label.Join(s, port)
			if e != api.OK {
				t.Errorf("%q, %d: %d", s, port, e)
			}
			if name, p, e := label.Split(key); name != folded || p != port || e != api.OK {
				t.Errorf("%q: %q, %d, %d", key, name, p, e)
			}
		}
	}
	for port := 1; port <= api.MaxPort; port++ {
		key, _ := label.Join("A.b", port)
		if name, p, e := label.Split(key); name != "a.b" || p != port || e != api.OK {
			t.Errorf("%q: %q, %d, %d", key, name, p, e)
		}
	}
}

// P1.4: from a key to a name and a port, and back.
func TestSplitIsJoined(t *testing.T) {
	for _, s := range manyNames() {
		name, port, e := label.Split(s + ":8080")
		if e != api.OK {
			t.Errorf("%q: %d", s, e)
		}
		folded, _ := label.Fold(s)
		if key, e := label.Join(name, port); key != folded+":8080" || e != api.OK {
			t.Errorf("%q: %q, %d", s, key, e)
		}
	}
}

// R3: the same arguments have the same answers, whatever was called between.
func TestNothingIsKept(t *testing.T) {
	tell := func() string {
		name, port, e := label.Split("Wien.Example:80")
		return name + strconv.Itoa(port) + strconv.Itoa(int(e))
	}
	was := tell()
	for _, s := range append(badNames(), goodNames()...) {
		label.Valid(s)
		label.Fold(s)
		label.Parts(s)
		label.Split(s)
		label.Join(s, len(s))
		if now := tell(); now != was {
			t.Fatalf("behind %q: %q", s, now)
		}
	}
}
