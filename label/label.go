// Package label is layer 1: names of upstreams, rune by rune, and their keys.
package label

import (
	"strconv"
	"strings"
	"unicode/utf8"

	"switchboard/api"
)

const (
	dot    = '.'
	hyphen = '-'
	colon  = ':'
)

// Valid tells whether each of names is a name.
func Valid(names ...string) bool {
	good := 0
look:
	for _, name := range names {
		if len(name) > api.MaxName {
			break look
		}
		before := dot
		for _, r := range name {
			if !follows(before, r) {
				break look
			}
			before = r
		}
		if !follows(before, dot) {
			break look
		}
		good++
	}
	return good == len(names)
}

// Fold answers name in small letters.
func Fold(name string) (string, api.Errno) {
	if !Valid(name) {
		return "", api.ErrLabel
	}
	var folded strings.Builder
	for _, r := range name {
		folded.WriteRune(foldRune(r))
	}
	return folded.String(), api.OK
}

// Same tells whether a and b are names that fold to one text.
func Same(a, b string) bool {
	if !Valid(a, b) {
		return false
	}
	foldedA, _ := Fold(a)
	foldedB, _ := Fold(b)
	return foldedA == foldedB
}

// Parts answers the parts of name in order, and nothing of what is no name.
func Parts(name string) []string {
	if !Valid(name) {
		return nil
	}
	var parts []string
	from := 0
	for at, r := range name {
		if r == dot {
			parts = append(parts, name[from:at])
			from = at + 1
		}
	}
	return append(parts, name[from:])
}

// Runes counts the well-formed runes of s, and the bytes that belong to none.
func Runes(s string) (well, ill int) {
	for at, r := range s {
		// range tells an ill byte as U+FFFD, which may also stand there itself.
		if r == utf8.RuneError && !strings.HasPrefix(s[at:], string(utf8.RuneError)) {
			ill++
		} else {
			well++
		}
	}
	return well, ill
}

// Split answers the folded name and the port of key.
func Split(key string) (name string, port int, e api.Errno) {
	at := strings.LastIndexByte(key, colon)
	if at < 0 {
		return "", 0, api.ErrLabel
	}
	name, e = Fold(key[:at])
	if e != api.OK {
		return "", 0, e
	}
	port = readPort(key[at+1:])
	if !mayPort(port) {
		return "", 0, api.ErrPort
	}
	return name, port, api.OK
}

// Join answers the key of the folded name and port.
func Join(name string, port int) (string, api.Errno) {
	folded, e := Fold(name)
	if e != api.OK {
		return "", e
	}
	if !mayPort(port) {
		return "", api.ErrPort
	}
	return folded + string(colon) + strconv.Itoa(port), api.OK
}

// follows tells whether r may stand behind before in a name. A name stands as if between two dots: so its ends are those of parts, and no part is empty.
func follows(before, r rune) bool {
	switch r {
	case dot:
		return before != dot && before != hyphen
	case hyphen:
		return before != dot
	}
	return isLetter(r) || isDigit(r)
}

func isLetter(r rune) bool {
	switch {
	case 'a' <= r && r <= 'z', 'A' <= r && r <= 'Z':
		return true
	case r == '\u00D7', r == '\u00F7':
		return false
	}
	return '\u00C0' <= r && r <= '\u024F'
}

func isDigit(r rune) bool {
	return '0' <= r && r <= '9'
}

// foldRune answers the small one of r, a rune of a name.
func foldRune(r rune) rune {
	if 'A' <= r && r <= 'Z' || '\u00C0' <= r && r <= '\u00DE' {
		return r + 32
	}
	return r
}

// readPort answers the port whose digits s is, or 0.
func readPort(s string) int {
	port := 0
	for _, r := range s {
		if !isDigit(r) {
			return 0
		}
		port = 10*port + int(r-'0')
		// Asked at each digit: a first nought is none, and many digits would wrap round to a port again.
		if !mayPort(port) {
			return 0
		}
	}
	return port
}

func mayPort(port int) bool {
	return 1 <= port && port <= api.MaxPort
}
