package console

import (
	"math"
	"strconv"
	"strings"

	"doorward/api"
)

// mostPlace: a page, a thread or times above it count as it.
const mostPlace = 2147483648

const hexDigits = "0123456789abcdef"

// command: what a line says.
type command struct {
	name    string
	numbers []uint64
	bytes   string // of put alone
}

// numberCounts tells of each command how many numbers it has.
func numberCounts() map[string]int {
	return map[string]int{
		"map":    2,
		"unmap":  1,
		"put":    1,
		"enter":  2 + api.Args,
		"judge":  1 + api.Args,
		"step":   2,
		"phase":  1,
		"sealed": 0,
		"log":    0,
	}
}

func readCommand(line string) (command, bool) {
	if len(line) > api.MaxLine {
		return command{}, false
	}
	words := strings.Split(line, " ")
	c := command{name: words[0]}
	count, ok := numberCounts()[c.name]
	if !ok || len(words) <= count {
		return command{}, false
	}
	if c.numbers, ok = readNumbers(words[1 : 1+count]); !ok {
		return command{}, false
	}
	c.bytes, ok = readRest(c.name, words[1+count:])
	return c, ok
}

func readNumbers(words []string) ([]uint64, bool) {
	l := make([]uint64, len(words))
	for i := range words {
		n, ok := readNumber(words[i])
		if !ok {
			return nil, false
		}
		l[i] = n
	}
	return l, true
}

// readRest reads what stands behind a command's numbers: of put the bytes, of others nothing.
func readRest(name string, words []string) (string, bool) {
	if name != "put" {
		return "", len(words) == 0
	}
	if len(words) != 1 {
		return "", false
	}
	return readBytes(words[0])
}

// readNumber takes just the words that numbers are told by: so none has noughts ahead.
func readNumber(s string) (uint64, bool) {
	n, err := strconv.ParseUint(s, 10, 64)
	return n, err == nil && numberText(n) == s
}

func readBytes(s string) (string, bool) {
	if len(s)%2 != 0 {
		return "", false
	}
	b := make([]byte, 0, len(s)/2)
	for i := 0; i < len(s); i += 2 {
		high, low := strings.IndexByte(hexDigits, s[i]), strings.IndexByte(hexDigits, s[i+1])
		if high < 0 || low < 0 {
			return "", false
		}
		b = append(b, byte(high<<4|low))
	}
	return string(b), true
}

// place gives the number of a page, of a thread, or of times.
func place(n uint64) int {
	return int(min(n, mostPlace))
}

func callNumber(n uint64) uint32 {
	return uint32(min(n, math.MaxUint32))
}
