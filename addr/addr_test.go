package addr_test

import (
	"net/netip"
	"slices"
	"strconv"
	"strings"
	"testing"

	"switchboard/addr"
	"switchboard/api"
)

const (
	mostInt  = int(^uint(0) >> 1)
	leastInt = -mostInt - 1
)

func four(a, b uint16, port int) api.Addr {
	return api.Addr{Fam: 4, G: [8]uint16{a, b}, Port: port}
}

func six(port int, groups ...uint16) api.Addr {
	a := api.Addr{Fam: 6, Port: port}
	copy(a.G[:], groups)
	return a
}

// told are texts, and the addresses whose texts they are.
func told() map[string]api.Addr {
	return map[string]api.Addr{
		"1.2.3.4:80":            four(258, 772, 80),
		"0.0.0.0:1":             four(0, 0, 1),
		"255.255.255.255:65535": four(0xffff, 0xffff, 65535),
		"0.1.0.0:9":             four(1, 0, 9),
		"1.0.0.0:9":             four(256, 0, 9),
		"0.0.0.10:10":           four(0, 10, 10),
		"0.0.100.0:100":         four(0, 25600, 100),
		"127.0.0.1:65534":       four(0x7f00, 1, 65534),

		"[1:2:3:4:5:6:7:8]:80":                         six(80, 1, 2, 3, 4, 5, 6, 7, 8),
		"[abcd:ef:a:1234:5678:9a:f:ffff]:80":           six(80, 0xabcd, 0xef, 0xa, 0x1234, 0x5678, 0x9a, 0xf, 0xffff),
		"[ffff:ffff:ffff:ffff:ffff:ffff:ffff:ffff]:80": six(80, 0xffff, 0xffff, 0xffff, 0xffff, 0xffff, 0xffff, 0xffff, 0xffff),
		"[::ffff:102:304]:80":                          six(80, 0, 0, 0, 0, 0, 0xffff, 0x102, 0x304),
		"[1000:100:10:1::]:80":                         six(80, 0x1000, 0x100, 0x10, 1),

		// One group that is 0 is told as it is.
		"[0:2:3:4:5:6:7:8]:80": six(80, 0, 2, 3, 4, 5, 6, 7, 8),
		"[1:2:3:0:5:6:7:8]:80": six(80, 1, 2, 3, 0, 5, 6, 7, 8),
		"[1:2:3:4:5:6:7:0]:80": six(80, 1, 2, 3, 4, 5, 6, 7, 0),
		"[0:2:0:4:0:6:0:8]:80": six(80, 0, 2, 0, 4, 0, 6, 0, 8),
		"[1:0:3:0:5:0:7:0]:80": six(80, 1, 0, 3, 0, 5, 0, 7, 0),

		// Several are not: all, in front, in the middle, at the end.
		"[::]:1":             six(1),
		"[::8]:9":            six(9, 0, 0, 0, 0, 0, 0, 0, 8),
		"[1::]:65535":        six(65535, 1),
		"[1::8]:80":          six(80, 1, 0, 0, 0, 0, 0, 0, 8),
		"[::3:4:5:6:7:8]:80": six(80, 0, 0, 3, 4, 5, 6, 7, 8),
		"[1:2:3::6:7:8]:80":  six(80, 1, 2, 3, 0, 0, 6, 7, 8),
		"[1:2:3:4:5:6::]:80": six(80, 1, 2, 3, 4, 5, 6, 0, 0),

		// The longest run, wherever it stands.
		"[0:0:3::7:8]:80":   six(80, 0, 0, 3, 0, 0, 0, 7, 8),
		"[::4:0:0:7:8]:80":  six(80, 0, 0, 0, 4, 0, 0, 7, 8),
		"[1:0:0:4::]:80":    six(80, 1, 0, 0, 4, 0, 0, 0, 0),
		"[1:0:3::6:0:8]:80": six(80, 1, 0, 3, 0, 0, 6, 0, 8),
		"[0:2:0:4:0:6::]:1": six(1, 0, 2, 0, 4, 0, 6, 0, 0),

		// The first one of those that are as long.
		"[0:2::5:0:0:8]:80":    six(80, 0, 2, 0, 0, 5, 0, 0, 8),
		"[::3:4:5:6:0:0]:80":   six(80, 0, 0, 3, 4, 5, 6, 0, 0),
		"[::3:0:0:6:0:0]:80":   six(80, 0, 0, 3, 0, 0, 6, 0, 0),
		"[::4:5:0:0:0]:80":     six(80, 0, 0, 0, 4, 5, 0, 0, 0),
		"[1::5:0:0:0]:80":      six(80, 1, 0, 0, 0, 5, 0, 0, 0),
		"[1::4:0:6:0:0]:65535": six(65535, 1, 0, 0, 4, 0, 6, 0, 0),
	}
}

// read are texts that read as addresses, and are told in another way.
func read() map[string]api.Addr {
	return map[string]api.Addr{
		// Great hexadecimal digits, and both in one group.
		"[ABCD:EF:A:1234:5678:9A:F:FFFF]:80": six(80, 0xabcd, 0xef, 0xa, 0x1234, 0x5678, 0x9a, 0xf, 0xffff),
		"[aBcD:0fF0::]:80":                   six(80, 0xabcd, 0xff0),

		// Noughts ahead, up to four digits.
		"[0001:002:03:4:5:6:7:8]:80":                   six(80, 1, 2, 3, 4, 5, 6, 7, 8),
		"[0000:0000:0000:0000:0000:0000:0000:0000]:80": six(80),
		"[::00ab]:80": six(80, 0, 0, 0, 0, 0, 0, 0, 0xab),
		"[00::00]:80": six(80),

		// No :: where it could stand.
		"[0:0:0:0:0:0:0:0]:1": six(1),
		"[0:0:0:0:0:0:0:1]:9": six(9, 0, 0, 0, 0, 0, 0, 0, 1),
		"[1:0:0:4:5:6:7:8]:9": six(9, 1, 0, 0, 4, 5, 6, 7, 8),

		// :: for a piece of a run, and for one that is not the longest.
		"[0:0::1]:9":           six(9, 0, 0, 0, 0, 0, 0, 0, 1),
		"[1::0]:9":             six(9, 1),
		"[0::]:9":              six(9),
		"[::0]:9":              six(9),
		"[::3:0:0:0:7:8]:80":   six(80, 0, 0, 3, 0, 0, 0, 7, 8),
		"[0:0:3:4:5:6::]:80":   six(80, 0, 0, 3, 4, 5, 6, 0, 0),
		"[1:0::0:0:6:7:8]:80":  six(80, 1, 0, 0, 0, 0, 6, 7, 8),
		"[0:0:0:0:0:0:0::]:80": six(80),
		"[::0:0:0:0:0:0:0]:80": six(80),

		// :: for one group.
		"[::2:3:4:5:6:7:8]:80": six(80, 0, 2, 3, 4, 5, 6, 7, 8),
		"[1::3:4:5:6:7:8]:80":  six(80, 1, 0, 3, 4, 5, 6, 7, 8),
		"[1:2:3::5:6:7:8]:80":  six(80, 1, 2, 3, 0, 5, 6, 7, 8),
		"[1:2:3:4:5:6::8]:80":  six(80, 1, 2, 3, 4, 5, 6, 0, 8),
		"[1:2:3:4:5:6:7::]:80": six(80, 1, 2, 3, 4, 5, 6, 7, 0),
	}
}

// unread are texts that read as no address.
func unread() []string {
	return []string{
		"", " ", ":", "::", ":80", "80", "x", "[", "]", "[]", "[]:80", "[:]:80", ".:80", "...:80", "[...]:80",

		// Ports.
		"1.2.3.4", "1.2.3.4:", "1.2.3.4:0", "1.2.3.4:00", "1.2.3.4:080", "1.2.3.4:01", "1.2.3.4:65536", "1.2.3.4:99999", "1.2.3.4:100000", "1.2.3.4:065535",
		"1.2.3.4:4294967376", "1.2.3.4:18446744073709551696", "1.2.3.4:" + strings.Repeat("9", 1<<16), "1.2.3.4:1" + strings.Repeat("0", 64),
		"1.2.3.4:+80", "1.2.3.4:-80", "1.2.3.4:8_0", "1.2.3.4:0x50", "1.2.3.4:8a", "1.2.3.4:a", "1.2.3.4:8\xff", "1.2.3.4:\uff18\uff10", "1.2.3.4:80:80", "1.2.3.4::80", "1.2.3.4:80.", "1.2.3.4:8/", "1.2.3.4:8;",
		"[::1]", "[::1]:", "[::1]:0", "[::1]:080", "[::1]:65536", "[::1]:+80", "[::1]80", "[::1]::80", "[::1]:80:80", "[::1]:80]", "[::1:80]", "[::1]:f",

		// Blanks.
		" 1.2.3.4:80", "1.2.3.4:80 ", "1.2.3.4 :80", "1.2.3.4: 80", "1. 2.3.4:80", "[::1] :80", "[ ::1]:80", "[::1 ]:80", " [::1]:80", "[::1]:80 ", "1.2.3.4:80\n", "1.2.3.4:80\x00",

		// Family 4.
		"1.2.3.04:80", "01.2.3.4:80", "1.00.3.4:80", "1.2.3.004:80", "000.0.0.0:80", "0.0.0.00:80",
		"256.2.3.4:80", "1.256.3.4:80", "1.2.256.4:80", "1.2.3.256:80", "1.2.3.300:80", "1.2.3.1000:80", "1.2.3.4294967300:80", "1.2.3.18446744073709551620:80",
		"1:80", "1.2:80", "1.2.3:80", "1.2.3.4.5:80", "1.2.3.4.0:80", "0.0.0.0.0:80", "1.2.3.4.0.0:80", "1.2.3.4.:80", ".1.2.3.4:80", "1.2.3.:80", ".2.3.4:80", "1..3.4:80", "1.2..4:80", "1.2.3..4:80",
		"1.2.3.a:80", "0x1.2.3.4:80", "+1.2.3.4:80", "1.2.3.-4:80", "1.2.3./:80", "1.2.3.:::80", "1,2,3,4:80", "1.2.3.\u0664:80", "1.2.3.\xff:80", "[1.2.3.4]:80", "1.2.3.4]:80", "[1.2.3.4:80",

		// Brackets.
		"::1:80", "::1", "1:2:3:4:5:6:7:8:80", "[::1:80", "::1]:80", "[[::1]]:80", "[[::1]:80", "[::1]]:80", "(::1):80", "]::1[:80", "[::1]x:80", "x[::1]:80",

		// Groups.
		"[00001::]:80", "[::00000]:80", "[12345::]:80", "[::fffff]:80", "[10000::]:80", "[1:2:3:4:5:6:7:00008]:80",
		"[g::]:80", "[G::]:80", "[::-1]:80", "[::+1]:80", "[::0x1]:80", "[::1.2.3.4]:80", "[::1%1]:80", "[::1/64]:80", "[`::]:80", "[@::]:80", "[::\uff11]:80", "[::\xff]:80", "[a:/::]:80", "[a;::]:80", "[::1\u00e4]:80",
		"[0]:80", "[1:2]:80", "[1:2:3:4:5:6:7]:80", "[1:2:3:4:5:6:7:8:9]:80", "[0:0:0:0:0:0:0]:80", "[0:0:0:0:0:0:0:0:0]:80",
		"[1:2:3:4:5:6:7:]:80", "[:2:3:4:5:6:7:8]:80", "[1:2:3:4:5:6:7:8:]:80", "[:1:2:3:4:5:6:7:8]:80", "[1:2:3::6:7:8:]:80", "[:1:2::7:8]:80",

		// :: twice, or for nothing.
		":::80", "[:::]:80", "[::::]:80", "[:::1]:80", "[1:::]:80", "[1:::8]:80", "[::1::]:80", "[1::3::5]:80", "[::3::5]:80", "[1::3::]:80", "[1::3::5:6:7:8]:80",
		"[::1:2:3:4:5:6:7:8]:80", "[1:2:3:4:5:6:7:8::]:80", "[1:2:3:4::5:6:7:8]:80", "[1::2:3:4:5:6:7:8]:80", "[0:0:0:0::0:0:0:0]:80", "[1:2:3:4:5::6:7:8:9]:80", "[1:2:3:4:5:6:7:8:9::]:80",
		"[" + strings.Repeat("0:", 1<<16) + ":]:80", "[:" + strings.Repeat(":0", 1<<16) + "]:80", strings.Repeat("1.", 1<<16) + "1:80", strings.Repeat(":", 1<<16), strings.Repeat("[", 1<<16) + "::1]:80",
	}
}

// wrong are values that are no addresses.
func wrong() []api.Addr {
	l := []api.Addr{
		{}, {Port: 80}, {Fam: 4}, {Fam: 6}, four(258, 772, 0), six(0, 1, 2, 3, 4, 5, 6, 7, 8),
		four(258, 772, -1), four(258, 772, -80), four(258, 772, 65536), four(258, 772, 1<<16+80), four(258, 772, 1<<32+80), four(258, 772, mostInt), four(258, 772, leastInt),
		six(-1), six(65536), six(1<<32 + 80), six(mostInt), six(leastInt),
	}
	for fam := -128; fam <= 127; fam++ {
		if fam != 4 && fam != 6 {
			l = append(l, api.Addr{Fam: int8(fam), Port: 80}, api.Addr{Fam: int8(fam), G: [8]uint16{258, 772}, Port: 80})
		}
	}
	for at := 2; at < 8; at++ {
		for _, g := range []uint16{1, 256, 0xffff} {
			a := four(258, 772, 80)
			a.G[at] = g
			l = append(l, a)
		}
	}
	return l
}

// right are addresses, each another one.
func right() []api.Addr {
	var l []api.Addr
	for _, a := range told() {
		l = append(l, a)
	}
	for _, a := range read() {
		if !slices.Contains(l, a) {
			l = append(l, a)
		}
	}
	return addr.Sorted(l...)
}

// odd are values of all kinds, each another one: addresses, and what is none.
func odd() []api.Addr {
	l := append(right(), wrong()...)
	for at := range 8 {
		for _, fam := range []int8{-128, 4, 5, 6, 127} {
			for _, port := range []int{leastInt, 1, mostInt} {
				a := api.Addr{Fam: fam, Port: port}
				a.G[at] = 0xffff
				l = append(l, a)
			}
		}
	}
	l = addr.Sorted(l...)
	return slices.Compact(l)
}

// P2.1: what is an address.
func TestMay(t *testing.T) {
	for _, a := range right() {
		if !addr.May(a) {
			t.Errorf("%v is an address", a)
		}
	}
	for _, a := range wrong() {
		if addr.May(a) {
			t.Errorf("%v is no address", a)
		}
	}
	for port := -10; port < 70000; port++ {
		if may := port >= 1 && port <= 65535; addr.May(four(1, 2, port)) != may || addr.May(six(port, 1)) != may {
			t.Errorf("port %d", port)
		}
	}
}

// P2.1: of several, each has to be one.
func TestMayOfSeveral(t *testing.T) {
	if !addr.May() || !addr.May([]api.Addr{}...) {
		t.Error("of none each is one")
	}
	if !addr.May(right()...) || !addr.May(slices.Repeat([]api.Addr{six(1)}, 100)...) {
		t.Error("each of these is one")
	}
	for _, bad := range wrong() {
		for at := range 3 {
			l := []api.Addr{four(1, 2, 3), six(4, 5), four(6, 7, 8)}
			l[at] = bad
			if addr.May(l...) {
				t.Errorf("%v is none, at place %d", bad, at)
			}
		}
	}
}

// P2.1: texts of addresses.
func TestText(t *testing.T) {
	for want, a := range told() {
		if text, e := addr.Text(a); text != want || e != api.OK {
			t.Errorf("%v: %q, %d, not %q", a, text, e, want)
		}
	}
	for _, a := range wrong() {
		if text, e := addr.Text(a); text != "" || e != api.ErrAddr {
			t.Errorf("%v: %q, %d", a, text, e)
		}
	}
}

// netText is the text of a, an address of family 6, as the library tells it.
func netText(a api.Addr) string {
	var bytes [16]byte
	for i, g := range a.G {
		bytes[2*i], bytes[2*i+1] = byte(g>>8), byte(g)
	}
	return "[" + netip.AddrFrom16(bytes).String() + "]:" + strconv.Itoa(a.Port)
}

// P2.1: each way in which groups are 0 or not, and each length of their digits.
func TestTextOfAllRuns(t *testing.T) {
	for mask := range 256 {
		for _, g := range []uint16{1, 0xf, 0x10, 0xff, 0x100, 0xfff, 0x1000, 0xfffe} {
			a := six(80)
			for i := range a.G {
				if mask>>i&1 == 1 {
					a.G[i] = g
				}
			}
			text, e := addr.Text(a)
			if want := netText(a); text != want || e != api.OK {
				t.Errorf("%v: %q, %d, not %q", a, text, e, want)
			}
			if back, e := addr.Parse(text); back != a || e != api.OK {
				t.Errorf("%q: %v, %d", text, back, e)
			}
		}
	}
}

// P2.1, P2.4: each byte at each place, and each group.
func TestTextNumberByNumber(t *testing.T) {
	for n := range 256 {
		for at := range 4 {
			bytes := [4]int{9, 99, 0, 199}
			bytes[at] = n
			want := strconv.Itoa(bytes[0]) + "." + strconv.Itoa(bytes[1]) + "." + strconv.Itoa(bytes[2]) + "." + strconv.Itoa(bytes[3]) + ":7"
			a := four(uint16(bytes[0]*256+bytes[1]), uint16(bytes[2]*256+bytes[3]), 7)
			if text, e := addr.Text(a); text != want || e != api.OK {
				t.Errorf("%v: %q, %d, not %q", a, text, e, want)
			}
			if back, e := addr.Parse(want); back != a || e != api.OK {
				t.Errorf("%q: %v, %d", want, back, e)
			}
		}
	}
	for n := range 1 << 16 {
		group := strconv.FormatInt(int64(n), 16)
		want, a := "[1:2:3:"+group+":5:6:7:8]:7", six(7, 1, 2, 3, uint16(n), 5, 6, 7, 8)
		if text, e := addr.Text(a); text != want || e != api.OK {
			t.Errorf("%v: %q, %d, not %q", a, text, e, want)
		}
		if back, e := addr.Parse(want); back != a || e != api.OK {
			t.Errorf("%q: %v, %d", want, back, e)
		}
	}
}

// P2.1: what reads as an address, and as which.
func TestParse(t *testing.T) {
	for s, want := range told() {
		if a, e := addr.Parse(s); a != want || e != api.OK {
			t.Errorf("%q: %v, %d", s, a, e)
		}
	}
	for s, want := range read() {
		if a, e := addr.Parse(s); a != want || e != api.OK {
			t.Errorf("%q: %v, %d", s, a, e)
		}
	}
	for _, s := range unread() {
		if a, e := addr.Parse(s); a != (api.Addr{}) || e != api.ErrAddr {
			t.Errorf("%.99q: %v, %d", s, a, e)
		}
	}
}

// P2.1: each number, in digits, is a port or none, of both families.
func TestParsePortByPort(t *testing.T) {
	for n := range 70000 {
		for host, of := range map[string]api.Addr{"1.2.3.4:": four(258, 772, n), "[::1]:": six(n, 0, 0, 0, 0, 0, 0, 0, 1)} {
			a, e := addr.Parse(host + strconv.Itoa(n))
			if n >= 1 && n <= 65535 {
				if a != of || e != api.OK {
					t.Errorf("%q, %d: %v, %d", host, n, a, e)
				}
			} else if a != (api.Addr{}) || e != api.ErrAddr {
				t.Errorf("%q, %d: %v, %d", host, n, a, e)
			}
		}
	}
}

// P2.1: which runes are digits, at each kind of place.
func TestParseRuneByRune(t *testing.T) {
	for r := rune(0); r < 0x300; r++ {
		s := string(r)
		decimal := strings.Contains("0123456789", s)
		hexadecimal := strings.Contains("0123456789abcdefABCDEF", s)
		for text, want := range map[string]bool{
			"1.2.3.1" + s + ":80":          decimal,
			"1.2.3.4:1" + s:                decimal,
			"[::1" + s + "]:80":            hexadecimal,
			"[::1]:1" + s:                  decimal,
			"1.2.3.4" + s + "80":           s == ":",
			"1.2" + s + "3.4:80":           s == ".",
			"[1" + s + ":2]:80":            s == ":",
			"[::1]" + s + "80":             s == ":",
			s + "::1]:80":                  s == "[",
			"[::1" + s + ":80":             s == "]",
			"[1:2:3:4:5:6:7" + s + "8]:80": s == ":",
		} {
			a, e := addr.Parse(text)
			if want != (e == api.OK) || !want && (a != api.Addr{} || e != api.ErrAddr) {
				t.Errorf("%q: %v, %d", text, a, e)
			}
		}
	}
}

// P2.1: groups ahead of :: and behind it, so many of each, and without it.
func TestParseGroupByGroup(t *testing.T) {
	digits := []string{"1", "2", "3", "4", "5", "6", "7", "8", "9", "a"}
	for n := range len(digits) {
		s := "[" + strings.Join(digits[:n], ":") + "]:80"
		a, e := addr.Parse(s)
		if n == 8 {
			if a != six(80, 1, 2, 3, 4, 5, 6, 7, 8) || e != api.OK {
				t.Errorf("%q: %v, %d", s, a, e)
			}
		} else if a != (api.Addr{}) || e != api.ErrAddr {
			t.Errorf("%q: %v, %d", s, a, e)
		}
		for m := range len(digits) {
			s := "[" + strings.Join(digits[:n], ":") + "::" + strings.Join(digits[:m], ":") + "]:80"
			a, e := addr.Parse(s)
			if n+m > 7 {
				if a != (api.Addr{}) || e != api.ErrAddr {
					t.Errorf("%q: %v, %d", s, a, e)
				}
				continue
			}
			want := six(80)
			for i := range n {
				want.G[i] = uint16(i + 1)
			}
			for i := range m {
				want.G[8-m+i] = uint16(i + 1)
			}
			if a != want || e != api.OK {
				t.Errorf("%q: %v, %d", s, a, e)
			}
		}
	}
}

// texts are all texts of up to most pieces, each one of what is told.
func texts(most int, pieces ...string) []string {
	all := []string{""}
	last := all
	for range most {
		var next []string
		for _, s := range last {
			for _, p := range pieces {
				next = append(next, s+p)
			}
		}
		all = append(all, next...)
		last = next
	}
	return all
}

// netParse is what the library reads s as, which has neither a dot within brackets nor a zone.
func netParse(s string) (api.Addr, bool) {
	n, err := netip.ParseAddr(s)
	if err != nil {
		return api.Addr{}, false
	}
	a := api.Addr{Fam: 4}
	bytes := n.AsSlice()
	if n.Is6() {
		a.Fam = 6
	}
	for i := range len(bytes) / 2 {
		a.G[i] = uint16(bytes[2*i])<<8 | uint16(bytes[2*i+1])
	}
	return a, true
}

// P2.1: all short texts of the pieces that matter.
func TestParseOfShortTexts(t *testing.T) {
	check := func(s string, fam int8, host string) {
		want, ok := netParse(host)
		if want.Fam == fam {
			want.Port = 80
		} else {
			want, ok = api.Addr{}, false
		}
		a, e := addr.Parse(s)
		if a != want || ok != (e == api.OK) || !ok && e != api.ErrAddr {
			t.Errorf("%q: %v, %d", s, a, e)
		}
	}
	for _, s := range texts(9, "0", "1", ":") {
		check("["+s+"]:80", 6, s)
		check(s+":80", 4, s)
	}
	for _, s := range texts(6, "0:", "2:", ":", "000A", "ffff1") {
		check("["+s+"]:80", 6, s)
	}
	for _, s := range texts(7, ".", "0", "25", "6") {
		check(s+":80", 4, s)
	}
}

// less says once more, the long way, which of two is less.
func less(a, b api.Addr) bool {
	if a.Fam != b.Fam {
		return a.Fam < b.Fam
	}
	for i := range 8 {
		if a.G[i] != b.G[i] {
			return a.G[i] < b.G[i]
		}
	}
	return a.Port < b.Port
}

// P2.2: family, groups, port, in this order.
func TestLess(t *testing.T) {
	rising := []api.Addr{
		{Fam: -128, G: [8]uint16{9}, Port: 9},
		{Fam: 0, G: [8]uint16{9}, Port: 9},
		four(0, 0, leastInt), four(0, 0, 80), four(0, 0, 81), four(0, 0, mostInt),
		four(0, 1, 1), four(0, 0xffff, 1), four(1, 0, 1), four(1, 2, 79), four(1, 2, 80), four(1, 2, 443), four(0x8000, 0, 1),
		{Fam: 5},
		six(9), six(1, 0, 0, 0, 0, 0, 0, 0, 1), six(1, 0, 0, 0, 0, 0, 0, 1, 0), six(1, 0, 0, 0, 1), six(1, 0, 1), six(1, 0, 1, 0xffff), six(1, 0, 2), six(1, 1), six(1, 1, 0, 0, 0, 0, 0, 0, 1), six(1, 0xffff),
		{Fam: 127, Port: -1},
	}
	for i, a := range rising {
		for j, b := range rising {
			if addr.Less(a, b) != (i < j) {
				t.Errorf("%v, %v", a, b)
			}
		}
	}
}

// P2.2, P2.4: of two that are not the same just one is less; of three, what is less than what is less is less.
func TestLessIsAnOrder(t *testing.T) {
	l := odd()
	for i, a := range l {
		for j, b := range l {
			if addr.Less(a, b) != less(a, b) || addr.Less(a, b) != (i < j) {
				t.Errorf("%v, %v", a, b)
			}
			if a == b && addr.Less(a, b) || a != b && addr.Less(a, b) == addr.Less(b, a) {
				t.Errorf("%v, %v: not just one", a, b)
			}
		}
	}
}

// P2.2: sorted, whatever the order was; what stands there twice stays twice.
func TestSorted(t *testing.T) {
	if l := addr.Sorted(); len(l) != 0 {
		t.Errorf("%v", l)
	}
	if l := addr.Sorted([]api.Addr{}...); len(l) != 0 {
		t.Errorf("%v", l)
	}
	ports := []api.Addr{four(1, 2, 443), four(1, 2, 80), six(443, 1), four(1, 2, 81), six(80, 1), four(1, 2, 80)}
	want := []api.Addr{four(1, 2, 80), four(1, 2, 80), four(1, 2, 81), four(1, 2, 443), six(80, 1), six(443, 1)}
	if l := addr.Sorted(ports...); !slices.Equal(l, want) {
		t.Errorf("%v", l)
	}
	l := odd()
	twice := slices.Concat(l, l)
	for _, step := range []int{1, 7, 101, 499, 997} {
		var mixed []api.Addr
		for i := range twice {
			mixed = append(mixed, twice[(i*step+7)%len(twice)])
		}
		checkSorted(t, mixed)
	}
	slices.Reverse(twice)
	checkSorted(t, twice)
}

func checkSorted(t *testing.T, l []api.Addr) {
	t.Helper()
	sorted := addr.Sorted(l...)
	for i := 1; i < len(sorted); i++ {
		if less(sorted[i], sorted[i-1]) {
			t.Errorf("%v behind %v", sorted[i], sorted[i-1])
		}
	}
	count := map[api.Addr]int{}
	for _, a := range l {
		count[a]++
	}
	for _, a := range sorted {
		count[a]--
	}
	for a, n := range count {
		if n != 0 {
			t.Errorf("%v: %d lost", a, n)
		}
	}
}

// P2.2: those of a family stay in the order in which they stand.
func TestOf(t *testing.T) {
	a, b, c, d := four(9, 9, 9), six(9, 9), four(1, 1, 1), six(1, 1)
	none := api.Addr{Fam: 5, G: [8]uint16{1}, Port: -1}
	bad := api.Addr{Fam: 4, G: [8]uint16{0, 0, 1}}
	l := []api.Addr{a, b, none, c, d, a, bad}
	for fam, want := range map[int8][]api.Addr{4: {a, c, a, bad}, 6: {b, d}, 5: {none}, 0: nil, -4: nil, 127: nil, -128: nil} {
		if of := addr.Of(fam, l...); !slices.Equal(of, want) {
			t.Errorf("%d: %v", fam, of)
		}
		if of := addr.Of(fam); len(of) != 0 {
			t.Errorf("%d: %v", fam, of)
		}
	}
}

// rows are the texts of rows, and the rows.
func rows() map[string][]api.Addr {
	a, b, c := four(258, 772, 80), six(9, 0, 0, 0, 0, 0, 0, 0, 1), four(258, 772, 81)
	m := map[string][]api.Addr{
		"":                                      nil,
		"1.2.3.4:80":                            {a},
		"[::1]:9":                               {b},
		"1.2.3.4:80 [::1]:9":                    {a, b},
		"[::1]:9 1.2.3.4:80":                    {b, a},
		"1.2.3.4:81 1.2.3.4:80":                 {c, a},
		"1.2.3.4:80 1.2.3.4:80":                 {a, a},
		"[::1]:9 1.2.3.4:81 [::1]:9 1.2.3.4:80": {b, c, b, a},
	}
	for n := 5; n <= 16; n++ {
		var l []api.Addr
		for i := range n {
			l = append(l, four(0, uint16(n-i), 1+i))
		}
		m[longRow(n)] = l
	}
	return m
}

// longRow is the text of a row of n addresses.
func longRow(n int) string {
	var l []string
	for i := range n {
		l = append(l, "0.0.0."+strconv.Itoa(n-i)+":"+strconv.Itoa(1+i))
	}
	return strings.Join(l, " ")
}

// P2.3: a row's text.
func TestRow(t *testing.T) {
	for want, l := range rows() {
		if text, e := addr.Row(l...); text != want || e != api.OK {
			t.Errorf("%v: %q, %d", l, text, e)
		}
	}
	if text, e := addr.Row([]api.Addr{}...); text != "" || e != api.OK {
		t.Errorf("%q, %d", text, e)
	}
	long := six(65535, 0xffff, 0xffff, 0xffff, 0xffff, 0xffff, 0xffff, 0xffff, 0xffff)
	for n := range 40 {
		text, e := addr.Row(slices.Repeat([]api.Addr{long}, n)...)
		if n <= 16 {
			one := "[ffff:ffff:ffff:ffff:ffff:ffff:ffff:ffff]:65535 "
			if text != strings.TrimSuffix(strings.Repeat(one, n), " ") || e != api.OK {
				t.Errorf("%d: %q, %d", n, text, e)
			}
		} else if text != "" || e != api.ErrAddr {
			t.Errorf("%d: %q, %d", n, text, e)
		}
	}
	for _, bad := range wrong() {
		for n := range 18 {
			l := slices.Repeat([]api.Addr{six(1, 1)}, n)
			for _, at := range []int{0, n / 2, n} {
				if text, e := addr.Row(slices.Insert(slices.Clone(l), at, bad)...); text != "" || e != api.ErrAddr {
					t.Errorf("%v, at place %d of %d: %q, %d", bad, at, n, text, e)
				}
			}
		}
	}
}

// P2.3: the row that stands in a text.
func TestRead(t *testing.T) {
	for s, want := range rows() {
		if l, e := addr.Read(s); !slices.Equal(l, want) || e != api.OK {
			t.Errorf("%q: %v, %d", s, l, e)
		}
	}
	for s, want := range read() {
		for text, row := range map[string][]api.Addr{s: {want}, s + " 1.2.3.4:80": {want, four(258, 772, 80)}, "1.2.3.4:80 " + s: {four(258, 772, 80), want}} {
			if l, e := addr.Read(text); !slices.Equal(l, row) || e != api.OK {
				t.Errorf("%q: %v, %d", text, l, e)
			}
		}
	}
}

// P2.3: texts that are no row's: one that reads as no address, blanks that are too many, too many addresses.
func TestReadOfNoRow(t *testing.T) {
	one := "1.2.3.4:80"
	for _, bad := range unread() {
		for _, s := range []string{bad, bad + " " + one, one + " " + bad, one + " " + bad + " " + one} {
			if s == "" {
				continue
			}
			if l, e := addr.Read(s); l != nil || e != api.ErrAddr {
				t.Errorf("%.99q: %v, %d", s, l, e)
			}
		}
	}
	for _, s := range []string{
		" ", "  ", " " + one, one + " ", " " + one + " ", one + "  " + one, one + "   " + one, one + "\t" + one, one + "\n" + one, one + "\u00a0" + one, one + "," + one, one + one,
		longRow(15) + " ", longRow(16) + " ", " " + longRow(15), " " + longRow(16), longRow(8) + "  " + longRow(8), longRow(17), longRow(18), longRow(100), longRow(16) + " x", longRow(17) + " x",
		strings.Repeat(one+" ", 1<<14), strings.Repeat(" ", 1<<20),
	} {
		if l, e := addr.Read(s); l != nil || e != api.ErrAddr {
			t.Errorf("%.99q: %v, %d", s, l, e)
		}
	}
}

// P2.4: from an address to its text, and back.
func TestToldIsParsed(t *testing.T) {
	for _, a := range right() {
		for _, port := range []int{1, 9, 10, 80, 443, 10000, 65535} {
			a.Port = port
			text, e := addr.Text(a)
			if e != api.OK {
				t.Errorf("%v: %d", a, e)
			}
			if back, e := addr.Parse(text); back != a || e != api.OK {
				t.Errorf("%q: %v, %d, not %v", text, back, e, a)
			}
		}
	}
}

// P2.4: from what reads as an address to its text, and back.
func TestParsedIsTold(t *testing.T) {
	for s, a := range read() {
		text, e := addr.Text(a)
		if e != api.OK || text == s {
			t.Errorf("%q: %q, %d", s, text, e)
		}
		back, e := addr.Parse(text)
		if back != a || e != api.OK {
			t.Errorf("%q: %v, %d", text, back, e)
		}
		if again, e := addr.Text(back); again != text || e != api.OK {
			t.Errorf("%q: %q, %d", text, again, e)
		}
	}
}

// P2.4: from rows to texts, and back.
func TestRowsAreRead(t *testing.T) {
	l := right()
	for n := range 17 {
		for from := range len(l) - n {
			row := l[from : from+n]
			text, e := addr.Row(row...)
			if e != api.OK {
				t.Errorf("%v: %d", row, e)
			}
			if back, e := addr.Read(text); !slices.Equal(back, row) || e != api.OK {
				t.Errorf("%q: %v, %d", text, back, e)
			}
		}
	}
}

// R4: what is handed in stays as it is, spare room behind it included, and is not shared with what is answered.
func TestRowsAreNotShared(t *testing.T) {
	was := []api.Addr{six(2, 2), four(9, 9, 9), six(1, 1), four(1, 1, 1), six(7, 7), four(7, 7, 7)}
	for n := range len(was) + 1 {
		l := slices.Clone(was)
		for _, answer := range [][]api.Addr{addr.Sorted(l[:n]...), addr.Of(4, l[:n]...), addr.Of(6, l[:n]...)} {
			answer = append(answer, api.Addr{Port: -1})
			for i := range answer {
				answer[i] = api.Addr{Port: -2}
			}
		}
		addr.May(l[:n]...)
		addr.Row(l[:n]...)
		if !slices.Equal(l, was) {
			t.Errorf("of %d: %v", n, l)
		}
	}
	same := []api.Addr{four(1, 1, 1), four(2, 2, 2)}
	addr.Of(4, same...)[0].Port = 9
	addr.Sorted(same...)[0].Port = 9
	if !slices.Equal(same, []api.Addr{four(1, 1, 1), four(2, 2, 2)}) {
		t.Errorf("%v", same)
	}
}

// R4: what is done to a row that was read is not told by the next one.
func TestReadIsNew(t *testing.T) {
	first, _ := addr.Read("1.2.3.4:80 [::1]:9")
	first[0] = api.Addr{}
	_ = append(first[:1], api.Addr{Port: 7})
	if l, e := addr.Read("1.2.3.4:80 [::1]:9"); !slices.Equal(l, []api.Addr{four(258, 772, 80), six(9, 0, 0, 0, 0, 0, 0, 0, 1)}) || e != api.OK {
		t.Errorf("%v, %d", l, e)
	}
}

// R3: the same arguments have the same answers, whatever was called between.
func TestNothingIsKept(t *testing.T) {
	tell := func() string {
		a, e := addr.Parse("[0:0::1]:9")
		text, f := addr.Text(a)
		l, g := addr.Read("1.2.3.4:80 [::2]:7")
		row, h := addr.Row(l...)
		return text + row + strconv.Itoa(int(e+f+g+h))
	}
	was := tell()
	for _, s := range unread() {
		addr.Parse(s)
		addr.Read(s)
		if now := tell(); now != was {
			t.Fatalf("behind %.99q: %q", s, now)
		}
	}
	for _, a := range wrong() {
		addr.Text(a)
		addr.Row(a)
		addr.Sorted(a, six(1), a)
		if now := tell(); now != was {
			t.Fatalf("behind %v: %q", a, now)
		}
	}
}
