// Package addr: nets, and addresses as bytes.
package addr

import (
	"strconv"
	"strings"

	"doorward/api"
)

const (
	maxPort = 65535
	maxBits = 32
)

// family is the first byte of an address's bytes.
const family = 2

// signs stand between the numbers of a net's text, in order.
const signs = ".../:-"

// Check a net.
func Check(n api.Net) error {
	if n.Bits < 0 || n.Bits > maxBits || n.Lo < 0 || n.Hi > maxPort || n.Lo > n.Hi {
		return api.ErrBound
	}
	if n.IP&^mask(n.Bits) != 0 {
		return api.ErrShape
	}
	return nil
}

// Text of a net.
func Text(n api.Net) (string, error) {
	if err := Check(n); err != nil {
		return "", err
	}
	l := numbers(n)
	s := strconv.Itoa(l[0])
	for i := range len(signs) {
		s += signs[i:i+1] + strconv.Itoa(l[i+1])
	}
	return s, nil
}

// Parse a net.
func Parse(s string) (api.Net, error) {
	l, ok := split(s)
	if !ok {
		return api.Net{}, api.ErrText
	}
	var n api.Net
	for i := range 4 {
		if l[i] > 255 {
			return api.Net{}, api.ErrText
		}
		n.IP = n.IP<<8 | uint32(l[i])
	}
	n.Bits, n.Lo, n.Hi = l[4], l[5], l[6]
	if Check(n) != nil {
		return api.Net{}, api.ErrText
	}
	return n, nil
}

// Has a net an address and a port?
func Has(n api.Net, ip uint32, port int) bool {
	return Check(n) == nil && ip&mask(n.Bits) == n.IP && n.Lo <= port && port <= n.Hi
}

// Bytes of an address.
func Bytes(ip uint32, port int) (string, error) {
	if port < 0 || port > maxPort {
		return "", api.ErrBound
	}
	b := [api.AddrBytes]byte{0: family, 2: byte(port >> 8), 3: byte(port)}
	for i := range 4 {
		b[4+i] = ipByte(ip, i)
	}
	return string(b[:]), nil
}

// Read bytes.
func Read(b string) (uint32, int, error) {
	if len(b) != api.AddrBytes {
		return 0, 0, api.ErrShape
	}
	port := int(b[2])<<8 | int(b[3])
	var ip uint32
	for i := range 4 {
		ip = ip<<8 | uint32(b[4+i])
	}
	// The bytes that carry neither number must be as they are written.
	if s, err := Bytes(ip, port); err != nil || s != b {
		return 0, 0, api.ErrShape
	}
	return ip, port, nil
}

// mask of the highest bits, 0 to 32 of them.
func mask(bits int) uint32 {
	return ^uint32(0) << (maxBits - bits)
}

// ipByte gives one of an address's four bytes, the highest at 0.
func ipByte(ip uint32, i int) byte {
	return byte(ip >> (24 - 8*i))
}

// numbers of a net, in the order of its text.
func numbers(n api.Net) [len(signs) + 1]int {
	l := [len(signs) + 1]int{4: n.Bits, 5: n.Lo, 6: n.Hi}
	for i := range 4 {
		l[i] = int(ipByte(n.IP, i))
	}
	return l
}

// split gives the numbers of a net's text; false, if it has not just these, with the signs between.
func split(s string) ([len(signs) + 1]int, bool) {
	var l [len(signs) + 1]int
	for i := range len(signs) {
		head, tail, found := strings.Cut(s, signs[i:i+1])
		n, ok := number(head)
		if !found || !ok {
			return l, false
		}
		l[i], s = n, tail
	}
	n, ok := number(s)
	l[len(signs)] = n
	return l, ok
}

// number reads digits, without noughts ahead; more than the greatest port has can't be right, and might go round.
func number(s string) (int, bool) {
	if len(s) == 0 || len(s) > 5 || len(s) > 1 && s[0] == '0' {
		return 0, false
	}
	n := 0
	for i := range len(s) {
		if s[i] < '0' || s[i] > '9' {
			return 0, false
		}
		n = n*10 + int(s[i]-'0')
	}
	return n, true
}
