// Package glob: patterns of paths.
package glob

import (
	"strings"

	"doorward/api"
)

// signs stand for themselves only behind a '\'.
const signs = `*?[]\`

// part of a pattern: the bytes it is like; many: it takes any number of them, none too, not just one.
type part struct {
	like [256]bool
	many bool
}

// places: may the bytes so far be cut into pieces of the first i parts? All ways to cut are followed at once, so that stars can't make a match slow.
type places [api.MaxGlob + 1]bool

// Check a pattern.
func Check(p string) error {
	_, err := parse(p)
	return err
}

// Match: is a text like a pattern?
func Match(p, s string) bool {
	l, err := parse(p)
	if err != nil {
		return false
	}
	at := pass(l, places{0: true})
	for i := range len(s) {
		at = pass(l, step(l, at, s[i]))
	}
	return at[len(l)]
}

// pass adds the places behind parts that may have no bytes.
func pass(l []part, at places) places {
	for i := range len(l) {
		if at[i] && l[i].many {
			at[i+1] = true
		}
	}
	return at
}

// step gives the places behind one more byte.
func step(l []part, at places, b byte) places {
	var to places
	for i := range len(l) {
		if !at[i] || !l[i].like[b] {
			continue
		}
		if l[i].many {
			to[i] = true
		} else {
			to[i+1] = true
		}
	}
	return to
}

// parse gives a pattern's parts.
func parse(p string) ([]part, error) {
	if len(p) > api.MaxGlob {
		return nil, api.ErrMany
	}
	if len(p) == 0 {
		return nil, api.ErrText
	}
	var l []part
	for at := 0; at < len(p); {
		x, n := first(p[at:])
		if n == 0 {
			return nil, api.ErrText
		}
		l = append(l, x)
		at += n
	}
	return l, nil
}

// first gives the part that a text, which is not empty, begins with, and how many bytes that part has in it: 0, if none stands there.
func first(s string) (part, int) {
	switch {
	case strings.HasPrefix(s, "**"):
		return part{like: others([256]bool{}), many: true}, 2
	case s[0] == '*':
		return part{like: others(only('/')), many: true}, 1
	case s[0] == '?':
		return part{like: others(only('/'))}, 1
	case s[0] == '[':
		return class(s)
	case s[0] == '\\':
		return escaped(s)
	case isPlain(s[0]):
		return part{like: only(s[0])}, 1
	}
	return part{}, 0
}

// escaped gives the part that begins with a '\'.
func escaped(s string) (part, int) {
	if len(s) < 2 || strings.IndexByte(signs, s[1]) < 0 {
		return part{}, 0
	}
	return part{like: only(s[1])}, 2
}

// class gives the part that begins with a '['.
func class(s string) (part, int) {
	at := 1
	not := strings.HasPrefix(s[at:], "!")
	if not {
		at++
	}
	begin := at
	var like [256]bool
	for at < len(s) && s[at] != ']' {
		n := member(s[at:])
		if n == 0 {
			return part{}, 0
		}
		for b := range 256 {
			if int(s[at]) <= b && b <= int(s[at+n-1]) {
				like[b] = true
			}
		}
		at += n
	}
	if at == begin || at == len(s) {
		return part{}, 0
	}
	if not {
		like = others(like)
	}
	like['/'] = false // neither a range such as '.-0' nor a '!' may let it in
	return part{like: like}, at + 1
}

// member tells how many bytes the member of a class has that a text begins with: 0, if none stands there.
func member(s string) int {
	if !isName(s[0]) {
		return 0
	}
	if len(s) < 2 || s[1] != '-' {
		return 1
	}
	if len(s) < 3 || !isName(s[2]) || s[2] < s[0] {
		return 0
	}
	return 3
}

func only(b byte) [256]bool {
	var l [256]bool
	l[b] = true
	return l
}

func others(l [256]bool) [256]bool {
	for b := range 256 {
		l[b] = !l[b]
	}
	return l
}

func isName(b byte) bool {
	return 'a' <= b && b <= 'z' || 'A' <= b && b <= 'Z' || '0' <= b && b <= '9' || b == '.' || b == '_'
}

func isPlain(b byte) bool {
	return 33 <= b && b <= 126 && b != '"' && strings.IndexByte(signs, b) < 0
}
