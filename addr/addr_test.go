package addr

import (
	"fmt"
	"math"
	"strings"
	"testing"

	"doorward/api"
)

// ends of nets that are right, and their texts.
var nets = []struct {
	n api.Net
	s string
}{
	{api.Net{}, "0.0.0.0/0:0-0"},
	{api.Net{Hi: 65535}, "0.0.0.0/0:0-65535"},
	{api.Net{Lo: 65535, Hi: 65535}, "0.0.0.0/0:65535-65535"},
	{api.Net{IP: 0x0a000000, Bits: 8, Lo: 80, Hi: 90}, "10.0.0.0/8:80-90"},
	{api.Net{IP: 0xffffffff, Bits: 32, Lo: 0, Hi: 65535}, "255.255.255.255/32:0-65535"},
	{api.Net{IP: 0xfffffffe, Bits: 31, Lo: 1, Hi: 1}, "255.255.255.254/31:1-1"},
	{api.Net{IP: 0x80000000, Bits: 1, Lo: 9, Hi: 10}, "128.0.0.0/1:9-10"},
	{api.Net{IP: 0x01020304, Bits: 32, Lo: 10000, Hi: 65534}, "1.2.3.4/32:10000-65534"},
	{api.Net{IP: 0x01020304, Bits: 30, Lo: 5, Hi: 5}, "1.2.3.4/30:5-5"},
}

// wrong nets, and what is wrong with them.
var wrong = []struct {
	n   api.Net
	err error
}{
	{api.Net{Bits: -1}, api.ErrBound},
	{api.Net{Bits: 33}, api.ErrBound},
	{api.Net{Bits: math.MinInt}, api.ErrBound},
	{api.Net{Bits: math.MaxInt}, api.ErrBound},
	{api.Net{Lo: -1}, api.ErrBound},
	{api.Net{Lo: math.MinInt, Hi: math.MaxInt}, api.ErrBound},
	{api.Net{Lo: -2, Hi: -1}, api.ErrBound},
	{api.Net{Hi: 65536}, api.ErrBound},
	{api.Net{Lo: 65536, Hi: 65536}, api.ErrBound},
	{api.Net{Lo: 2, Hi: 1}, api.ErrBound},
	{api.Net{Hi: -1}, api.ErrBound},
	{api.Net{IP: 1}, api.ErrShape},
	{api.Net{IP: 1 << 31}, api.ErrShape},
	{api.Net{IP: 1, Bits: 31}, api.ErrShape},
	{api.Net{IP: 0x0a000001, Bits: 8, Lo: 80, Hi: 90}, api.ErrShape},
	{api.Net{IP: 0x0a800000, Bits: 8, Lo: 80, Hi: 90}, api.ErrShape},
	// ErrBound is named ahead of ErrShape.
	{api.Net{IP: 1, Bits: 8, Lo: 2, Hi: 1}, api.ErrBound},
	{api.Net{IP: 1, Bits: 33}, api.ErrBound},
}

func TestCheck(t *testing.T) { // B1
	for _, x := range nets {
		if err := Check(x.n); err != nil {
			t.Errorf("Check(%v) = %v", x.n, err)
		}
	}
	for _, x := range wrong {
		if err := Check(x.n); err != x.err {
			t.Errorf("Check(%v) = %v, want %v", x.n, err, x.err)
		}
	}
}

func TestCheckEachBit(t *testing.T) { // B1
	for bits := range 33 {
		for b := range 32 {
			var want error
			if b < 32-bits {
				want = api.ErrShape
			}
			n := api.Net{IP: 1 << b, Bits: bits}
			if err := Check(n); err != want {
				t.Errorf("Check(%v) = %v, want %v", n, err, want)
			}
		}
	}
}

// hasIs: what Has says.
func hasIs(t *testing.T, n api.Net, ip uint32, port int, want bool) {
	t.Helper()
	if got := Has(n, ip, port); got != want {
		t.Errorf("Has(%v, %#x, %d) = %v, want %v", n, ip, port, got, want)
	}
}

func TestHasAddresses(t *testing.T) { // B1
	for bits := range 33 {
		size := uint64(1) << (32 - bits)
		first := uint64(0xa5a5a5a5) / size * size
		n := api.Net{IP: uint32(first), Bits: bits, Lo: 7, Hi: 7}
		hasIs(t, n, uint32(first), 7, true)
		hasIs(t, n, uint32(first+size-1), 7, true)
		hasIs(t, n, uint32(first-1), 7, bits == 0)
		hasIs(t, n, uint32(first+size), 7, bits == 0)
		for b := range 32 {
			hasIs(t, n, uint32(first)^1<<b, 7, b < 32-bits)
		}
	}
}

func TestHasPorts(t *testing.T) { // B1
	for _, x := range nets {
		for _, port := range []int{math.MinInt, -1, 0, 1, 5, 9, 10, 79, 80, 90, 91, 65534, 65535, 65536, 65536 + 80, math.MaxInt} {
			hasIs(t, x.n, x.n.IP, port, x.n.Lo <= port && port <= x.n.Hi)
		}
	}
}

func TestHasOfWrong(t *testing.T) { // B1
	for _, x := range wrong {
		hasIs(t, x.n, x.n.IP, x.n.Lo, false)
		hasIs(t, x.n, x.n.IP, x.n.Hi, false)
		hasIs(t, x.n, 0, 0, false)
	}
}

func TestText(t *testing.T) { // B2
	for _, x := range nets {
		if s, err := Text(x.n); s != x.s || err != nil {
			t.Errorf("Text(%v) = %q, %v, want %q", x.n, s, err, x.s)
		}
	}
	for _, x := range wrong {
		if s, err := Text(x.n); s != "" || err != x.err {
			t.Errorf("Text(%v) = %q, %v, want %v", x.n, s, err, x.err)
		}
	}
}

// noText: Parse can't read it.
func noText(t *testing.T, s string) {
	t.Helper()
	if n, err := Parse(s); n != (api.Net{}) || err != api.ErrText {
		t.Errorf("Parse(%q) = %v, %v, want %v", s, n, err, api.ErrText)
	}
}

func TestParse(t *testing.T) { // B2
	for _, x := range nets {
		if n, err := Parse(x.s); n != x.n || err != nil {
			t.Errorf("Parse(%q) = %v, %v, want %v", x.s, n, err, x.n)
		}
		for _, y := range []string{" ", "0", "-", ".", ":", "/", "+", "\x00", "\n", "x"} {
			noText(t, y+x.s)
			if y != "0" {
				noText(t, x.s+y)
			}
		}
		for _, y := range []string{".", "/", ":", "-"} {
			noText(t, strings.Replace(x.s, y, "", 1))
			noText(t, strings.Replace(x.s, y, y+y, 1))
			noText(t, strings.Replace(x.s, y, " "+y, 1))
			noText(t, strings.Replace(x.s, y, y+"+", 1))
			noText(t, strings.Replace(x.s, y, y+"0", 1))
		}
	}
}

func TestParseWrong(t *testing.T) { // B2
	for _, s := range []string{
		"", ".../:-", "10.0.0.0", "10.0.0.0/8", "10.0.0.0/8:80", "10.0.0.0/8:80-", "10.0.0/8:80-90", "10.0.0.0.0/8:80-90", "10.0.0.0/8:80-90-91", "10.0.0.0/8:80:90", "10.0.0.0:80-90/8",
		"010.0.0.0/8:80-90", "10.00.0.0/8:80-90", "10.0.0.00/8:80-90", "10.0.0.0/08:80-90", "10.0.0.0/8:080-90", "10.0.0.0/8:80-090", "0.0.0.0/00:0-0", "0.0.0.0/0:00-0", "0.0.0.0/0:0-00",
		"256.0.0.0/8:80-90", "1.256.0.0/32:80-90", "1.2.3.256/32:80-90", "1.2.3.1000/32:1-1", "10.0.0.0/33:80-90", "10.0.0.0/-8:80-90", "10.0.0.0/8:-80-90", "10.0.0.0/8:90-80", "0.0.0.0/0:0-65536", "0.0.0.0/0:65536-65536", "0.0.0.0/0:0-99999",
		"10.0.0.1/8:80-90", "0.0.0.1/0:0-0", "255.255.255.255/31:1-1",
		"4294967296.0.0.0/8:0-0", "0.0.0.0/4294967296:0-0", "0.0.0.0/0:18446744073709551616-5", "0.0.0.0/0:0-18446744073709551621", "0.0.0.0/0:0-" + strings.Repeat("9", 1000),
		"a.0.0.0/8:80-90", "0x0a.0.0.0/8:80-90", "10.0.0.0/8:8_0-90", "10.0.0.0/8:80-9\xb0",
	} {
		noText(t, s)
	}
}

func TestParseIsTextTurnedRound(t *testing.T) { // B2, W5
	for _, x := range nets {
		for i := range len(x.s) {
			for b := range 256 {
				y := x.s[:i] + string([]byte{byte(b)}) + x.s[i+1:]
				n, err := Parse(y)
				if err != nil {
					noText(t, y)
				} else if s, err := Text(n); s != y || err != nil {
					t.Errorf("Parse(%q) = %v, whose text is %q, %v", y, n, s, err)
				}
			}
		}
	}
	for bits := range 33 {
		n := api.Net{IP: 0xdeadbeef &^ uint32(1<<(32-bits)-1), Bits: bits, Lo: bits * 11, Hi: 65535 - bits}
		s, err := Text(n)
		if m, err2 := Parse(s); m != n || err != nil || err2 != nil {
			t.Errorf("Parse(%q) = %v, %v, %v, want %v", s, m, err, err2, n)
		}
	}
}

func TestBytes(t *testing.T) { // B3
	for _, x := range []struct {
		ip   uint32
		port int
		want string
	}{
		{167772161, 80, "020000500a0000010000000000000000"},
		{0, 0, "02000000000000000000000000000000"},
		{math.MaxUint32, 65535, "0200ffffffffffff0000000000000000"},
		{0x01020304, 0x0506, "02000506010203040000000000000000"},
		{0x80000000, 256, "02000100800000000000000000000000"},
	} {
		b, err := Bytes(x.ip, x.port)
		if got := fmt.Sprintf("%x", b); got != x.want || err != nil {
			t.Errorf("Bytes(%d, %d) = %s, %v, want %s", x.ip, x.port, got, err, x.want)
		}
		if ip, port, err := Read(b); ip != x.ip || port != x.port || err != nil {
			t.Errorf("Read(%x) = %d, %d, %v, want %d, %d", b, ip, port, err, x.ip, x.port)
		}
	}
	for _, port := range []int{-1, 65536, math.MinInt, math.MaxInt} {
		if b, err := Bytes(1, port); b != "" || err != api.ErrBound {
			t.Errorf("Bytes(1, %d) = %x, %v, want %v", port, b, err, api.ErrBound)
		}
	}
}

// noBytes: Read can't read it.
func noBytes(t *testing.T, b string) {
	t.Helper()
	if ip, port, err := Read(b); ip != 0 || port != 0 || err != api.ErrShape {
		t.Errorf("Read(%x) = %d, %d, %v, want %v", b, ip, port, err, api.ErrShape)
	}
}

func TestReadWrong(t *testing.T) { // B3
	right, _ := Bytes(0x0a000001, 80)
	for n := range api.AddrBytes {
		noBytes(t, right[:n])
		noBytes(t, right[n+1:])
	}
	noBytes(t, right+"\x00")
	noBytes(t, "\x00"+right)
	noBytes(t, right+right)
	noBytes(t, strings.Repeat("\x00", api.AddrBytes))
	noBytes(t, "\x00\x02"+right[2:])
}

func TestReadEachByte(t *testing.T) { // B3, W5
	right, _ := Bytes(0x0a000001, 80)
	for i := range api.AddrBytes {
		for b := range 256 {
			y := right[:i] + string([]byte{byte(b)}) + right[i+1:]
			if y != right && (i < 2 || i >= 8) {
				noBytes(t, y)
				continue
			}
			ip, port, err := Read(y)
			if s, _ := Bytes(ip, port); s != y || err != nil {
				t.Errorf("Read(%x) = %d, %d, %v, whose bytes are %x", y, ip, port, err, s)
			}
		}
	}
}
