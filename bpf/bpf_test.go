package bpf

import (
	"fmt"
	"math"
	"slices"
	"strings"
	"testing"

	"doorward/api"
)

// call: each half of its registers is another number.
var call = api.Call{Arch: api.Arch, Nr: 7, Args: [api.Args]uint64{0x1111111222222223, 0x3333333444444445, 0x5555555666666667, 0xfffffffe80000001}}

// small: programs that are right.
var small = [][]api.Insn{
	{{Op: api.Ret}},
	{{Op: api.Ret, K: math.MaxUint32}},
	{{Op: api.Ret, K: 1}, {Op: api.Ret, K: 2}},
	{{Op: api.Load}, {Op: api.Ret}},
	{{Op: api.Load, K: 36}, {Op: api.And, K: math.MaxUint32}, {Op: api.Ret, K: 3}},
	{{Op: api.Jump}, {Op: api.Ret, K: 4}},
	{{Op: api.Jump, K: 1}, {Op: api.Ret, K: 4}, {Op: api.Ret, K: 5}},
	{{Op: api.Load, K: 4}, {Op: api.Eq, Jt: 1, K: api.Arch}, {Op: api.Ret}, {Op: api.Ret, K: api.RetAllow}},
	{{Op: api.Gt, Jf: 1, K: 0x01020304}, {Op: api.Ge, K: 1 << 31}, {Op: api.Set, Jt: 1, Jf: 1, K: 0xff}, {Op: api.Ret}, {Op: api.Ret, K: 9}},
}

// branches: the ops that are.
var branches = []int{api.Eq, api.Gt, api.Ge, api.Set}

// drawer gives numbers that look drawn, the same each time.
func drawer(seed uint64) func(n int) int {
	return func(n int) int {
		seed = seed*6364136223846793005 + 1442695040888963407
		return int(seed>>33) % n
	}
}

// rets gives so many instructions that return their place.
func rets(n int) []api.Insn {
	l := make([]api.Insn, n)
	for i := range l {
		l[i] = api.Insn{Op: api.Ret, K: uint32(i)}
	}
	return l
}

// ahead gives a program of this instruction, and so many that return their place.
func ahead(x api.Insn, n int) []api.Insn {
	l := rets(n + 1)
	l[0] = x
	return l
}

// checkIs: what Check says, and Bytes and Run with it.
func checkIs(t *testing.T, l []api.Insn, want error) {
	t.Helper()
	what := l[:min(len(l), 9)]
	if err := Check(l); err != want {
		t.Errorf("Check(%v) = %v, want %v", what, err, want)
	}
	if s, err := Bytes(l); err != want || want != nil && s != "" {
		t.Errorf("Bytes(%v) = %x, %v, want %v", what, s, err, want)
	}
	if x, steps, err := Run(l, call); err != want || want != nil && (x != 0 || steps != 0) {
		t.Errorf("Run(%v) = %d, %d, %v, want %v", what, x, steps, err, want)
	}
}

// runIs: what Run says.
func runIs(t *testing.T, l []api.Insn, c api.Call, want uint32, wantSteps int) {
	t.Helper()
	if x, steps, err := Run(l, c); x != want || steps != wantSteps || err != nil {
		t.Errorf("Run(%v, %v) = %d, %d, %v, want %d, %d", l[:min(len(l), 9)], c, x, steps, err, want, wantSteps)
	}
}

// noText: Parse can't read it.
func noText(t *testing.T, s string) {
	t.Helper()
	if l, err := Parse(s); len(l) != 0 || err != api.ErrText {
		t.Errorf("Parse(%x) = %v, %v, want %v", s[:min(len(s), 99)], l, err, api.ErrText)
	}
}

func TestWord(t *testing.T) { // D1
	want := []uint32{7, api.Arch, 0x22222223, 0x11111112, 0x44444445, 0x33333334, 0x66666667, 0x55555556, 0x80000001, 0xfffffffe}
	for at := range uint32(1000) {
		w, err := Word(call, at)
		if at%4 == 0 && at < api.Record {
			if w != want[at/4] || err != nil {
				t.Errorf("Word(%d) = %#x, %v, want %#x", at, w, err, want[at/4])
			}
		} else if w != 0 || err != api.ErrBound {
			t.Errorf("Word(%d) = %#x, %v, want %v", at, w, err, api.ErrBound)
		}
	}
	for _, at := range []uint32{1 << 16, 1<<16 + 4, 1 << 31, math.MaxUint32 - 3, math.MaxUint32} {
		if w, err := Word(call, at); w != 0 || err != api.ErrBound {
			t.Errorf("Word(%d) = %#x, %v, want %v", at, w, err, api.ErrBound)
		}
	}
	if w, err := Word(api.Call{Args: [api.Args]uint64{4294967301}}, 12); w != 1 || err != nil {
		t.Errorf("the document's example: %d, %v", w, err)
	}
}

func TestCheckHowMany(t *testing.T) { // D2
	checkIs(t, nil, api.ErrMany)
	checkIs(t, []api.Insn{}, api.ErrMany)
	checkIs(t, rets(1), nil)
	checkIs(t, rets(api.MaxInsns-1), nil)
	checkIs(t, rets(api.MaxInsns), nil)
	checkIs(t, rets(api.MaxInsns+1), api.ErrMany)
	checkIs(t, make([]api.Insn, api.MaxInsns), api.ErrBound)
	checkIs(t, make([]api.Insn, api.MaxInsns+1), api.ErrMany) // named ahead of what is wrong with one
}

func TestCheckRight(t *testing.T) { // D2
	for _, l := range small {
		checkIs(t, l, nil)
	}
}

func TestCheckOps(t *testing.T) { // D2
	for _, op := range []int{0, -1, 9, 256, 256 + api.Ret, 1<<32 + api.Ret, math.MinInt, math.MaxInt} {
		checkIs(t, ahead(api.Insn{Op: op}, 3), api.ErrBound)
		checkIs(t, []api.Insn{{Op: op}}, api.ErrBound)
		checkIs(t, ahead(api.Insn{Op: op, Jt: 1}, 3), api.ErrBound) // ahead of ErrShape
	}
	for op := api.Load; op <= api.Ret; op++ {
		checkIs(t, ahead(api.Insn{Op: op}, 3), nil)
	}
}

func TestCheckSkips(t *testing.T) { // D2
	for op := api.Load; op <= api.Ret; op++ {
		least := error(api.ErrShape)
		if slices.Contains(branches, op) {
			least = nil
		}
		for _, n := range []int{1, 2, 254, 255} {
			checkIs(t, ahead(api.Insn{Op: op, Jt: n}, 300), least)
			checkIs(t, ahead(api.Insn{Op: op, Jf: n}, 300), least)
			checkIs(t, ahead(api.Insn{Op: op, Jt: n, Jf: n}, 300), least)
		}
		for _, n := range []int{-1, -255, 256, 257, 1 << 32, math.MinInt, math.MaxInt} {
			for _, x := range []api.Insn{{Op: op, Jt: n}, {Op: op, Jf: n}, {Op: op, Jt: n, Jf: 1}, {Op: op, Jt: 1, Jf: n}, {Op: op, Jt: n, K: 2}} {
				checkIs(t, ahead(x, 300), api.ErrBound)
			}
		}
	}
}

func TestCheckShapeAheadOfPlace(t *testing.T) { // D2, Z3
	checkIs(t, ahead(api.Insn{Op: api.Load, Jt: 1, K: 1}, 3), api.ErrShape)
	checkIs(t, ahead(api.Insn{Op: api.Load, Jf: 1, K: 40}, 3), api.ErrShape)
	checkIs(t, ahead(api.Insn{Op: api.Jump, Jt: 1, K: 3}, 3), api.ErrShape)
	checkIs(t, ahead(api.Insn{Op: api.Jump, Jf: 255, K: 99}, 3), api.ErrShape)
}

func TestCheckLoads(t *testing.T) { // D2
	for k := range uint32(100) {
		want := error(api.ErrBound)
		if k%4 == 0 && k <= 36 {
			want = nil
		}
		checkIs(t, ahead(api.Insn{Op: api.Load, K: k}, 1), want)
	}
	for _, k := range []uint32{256, 1 << 16, 1 << 31, math.MaxUint32 - 3, math.MaxUint32} {
		checkIs(t, ahead(api.Insn{Op: api.Load, K: k}, 1), api.ErrBound)
	}
}

func TestCheckLeadsTooFar(t *testing.T) { // D2
	for behind := range 260 {
		for k := range behind + 3 {
			want := error(api.ErrBound)
			if k < behind {
				want = nil
			}
			checkIs(t, ahead(api.Insn{Op: api.Jump, K: uint32(k)}, behind), want)
			if behind > 20 && k > 3 && k < behind-3 {
				continue
			}
			if k > 255 {
				want = api.ErrBound
			}
			for _, op := range branches {
				l := ahead(api.Insn{Op: op, Jt: k}, behind)
				checkIs(t, l, want)
				l[0] = api.Insn{Op: op, Jf: k}
				checkIs(t, l, want)
				l[0] = api.Insn{Op: op, Jt: k, Jf: k, K: 5}
				checkIs(t, l, want)
			}
		}
	}
	for _, k := range []uint32{1 << 16, 1 << 31, 1<<31 + 1, math.MaxUint32 - 1, math.MaxUint32} {
		checkIs(t, ahead(api.Insn{Op: api.Jump, K: k}, 9), api.ErrBound)
	}
	checkIs(t, ahead(api.Insn{Op: api.Jump, K: api.MaxInsns - 2}, api.MaxInsns-1), nil)
	checkIs(t, ahead(api.Insn{Op: api.Jump, K: api.MaxInsns - 1}, api.MaxInsns-1), api.ErrBound)
}

func TestCheckLeadsTooFarFromWithin(t *testing.T) { // D2: what counts is what is behind, not what is ahead
	for _, x := range []api.Insn{{Op: api.Jump, K: 2}, {Op: api.Eq, Jt: 2}, {Op: api.Set, Jf: 2}} {
		for i := range 9 {
			l := rets(10)
			l[i] = x
			want := error(api.ErrBound)
			if 9-i > 2 {
				want = nil
			}
			checkIs(t, l, want)
		}
	}
}

func TestCheckLast(t *testing.T) { // D2
	checkIs(t, []api.Insn{{Op: api.Load}}, api.ErrShape)
	checkIs(t, []api.Insn{{Op: api.And}}, api.ErrShape)
	checkIs(t, []api.Insn{{Op: api.Ret}, {Op: api.And, K: 1}}, api.ErrShape)
	checkIs(t, []api.Insn{{Op: api.Ret}, {Op: api.Load, K: 36}}, api.ErrShape)
	checkIs(t, []api.Insn{{Op: api.Ret}, {Op: api.Load, K: 37}}, api.ErrBound)
	for _, op := range append([]int{api.Jump}, branches...) { // they lead behind the end
		checkIs(t, []api.Insn{{Op: op}}, api.ErrBound)
		checkIs(t, []api.Insn{{Op: api.Ret}, {Op: op}}, api.ErrBound)
	}
	checkIs(t, []api.Insn{{Op: api.Ret}, {Op: api.Load, Jt: 1}}, api.ErrShape)
}

func TestCheckFirstWrong(t *testing.T) { // D2, Z3
	bound, shape := api.Insn{Op: api.Load, K: 3}, api.Insn{Op: api.And, Jf: 1}
	ret := api.Insn{Op: api.Ret}
	checkIs(t, []api.Insn{bound, shape, ret}, api.ErrBound)
	checkIs(t, []api.Insn{shape, bound, ret}, api.ErrShape)
	checkIs(t, []api.Insn{shape, {Op: 99}, ret}, api.ErrShape)
	checkIs(t, []api.Insn{ret, bound, {Op: api.And}}, api.ErrBound) // ahead of the last one, that is no Ret
	checkIs(t, []api.Insn{ret, ret, ret, bound, ret}, api.ErrBound) // also where no step leads
}

func TestBytes(t *testing.T) { // D3
	for _, x := range []struct {
		l    []api.Insn
		want string
	}{
		{small[0], "0800000000000000"},
		{small[1], "08000000ffffffff"},
		{small[3], "01000000000000000800000000000000"},
		{small[4], "010000002400000002000000ffffffff0800000003000000"},
		{small[6], "030000000100000008000000040000000800000005000000"},
		{small[7], "0100000004000000040001003e0000c00800000000000000080000000000ff7f"}, // the document's
		{small[8], "0500000104030201060000000000008007000101ff00000008000000000000000800000009000000"},
	} {
		if s, err := Bytes(x.l); fmt.Sprintf("%x", s) != x.want || err != nil {
			t.Errorf("Bytes(%v) = %x, %v, want %s", x.l, s, err, x.want)
		}
	}
	s, err := Bytes(ahead(api.Insn{Op: api.Ge, Jt: 255, Jf: 254, K: 0x89abcdef}, 256))
	if want := "\x06\x00\xff\xfe\xef\xcd\xab\x89"; err != nil || len(s) != 257*8 || s[:8] != want {
		t.Errorf("Bytes: %d of them, %x, %v, want %x", len(s), s[:min(8, len(s))], err, want)
	}
}

func TestParse(t *testing.T) { // D3, W5
	for _, l := range append(small, rets(api.MaxInsns), ahead(api.Insn{Op: api.Set, Jt: 255, Jf: 128, K: 0xfedcba98}, 256)) {
		s, err := Bytes(l)
		if err != nil {
			t.Fatal(err)
		}
		p, err := Parse(s)
		if !slices.Equal(p, l) || err != nil {
			t.Errorf("Parse(%x) = %v, %v", s[:min(len(s), 99)], p[:min(len(p), 9)], err)
		}
		for n := 1; n < 8; n++ {
			noText(t, s[n:])
			noText(t, s[:len(s)-n])
			noText(t, s+strings.Repeat("\x00", n))
			noText(t, s+s[:n])
		}
	}
}

func TestParseWrong(t *testing.T) { // D3
	ret := "\x08\x00\x00\x00\x00\x00\x00\x00"
	for _, s := range []string{
		"", "\x00", "\x08", "\x08\x00\x00\x00", ret[:7], ret + "\x00", "\x00" + ret, strings.Repeat("\x00", 8), strings.Repeat("\xff", 8),
		"\x08\x01\x00\x00\x00\x00\x00\x00", "\x08\xff\x00\x00\x00\x00\x00\x00", // the second byte is a nought
		"\x08\x00\x01\x00\x00\x00\x00\x00", "\x08\x00\x00\x01\x00\x00\x00\x00", // no branch
		"\x00\x00\x00\x00\x00\x00\x00\x00" + ret, "\x09\x00\x00\x00\x00\x00\x00\x00" + ret, // no op
		"\x01\x00\x00\x00\x01\x00\x00\x00" + ret, "\x01\x00\x00\x00\x28\x00\x00\x00" + ret, "\x01\x00\x00\x00\x00\x00\x00\x04" + ret, // no place
		"\x03\x00\x00\x00\x01\x00\x00\x00" + ret, "\x03\x00\x00\x00\xff\xff\xff\xff" + ret, "\x04\x00\x01\x00\x00\x00\x00\x00" + ret, "\x04\x00\x00\x01\x00\x00\x00\x00" + ret, // too far
		ret + "\x02\x00\x00\x00\x00\x00\x00\x00", ret + "\x01\x00\x00\x00\x00\x00\x00\x00", // the last is no Ret
		strings.Repeat(ret, api.MaxInsns+1), strings.Repeat(ret, api.MaxInsns) + "\x00", strings.Repeat(ret, 3*api.MaxInsns),
	} {
		noText(t, s)
	}
}

func TestParseIsBytesTurnedRound(t *testing.T) { // D3, W5
	for _, l := range small {
		s, err := Bytes(l)
		if err != nil {
			t.Fatal(err)
		}
		for i := range len(s) {
			for b := range 256 {
				y := s[:i] + string([]byte{byte(b)}) + s[i+1:]
				p, err := Parse(y)
				if err != nil {
					noText(t, y)
				} else if z, err := Bytes(p); z != y || err != nil {
					t.Errorf("Parse(%x) = %v, whose bytes are %x, %v", y, p, z, err)
				}
				if i%8 >= 4 && s[i&^7] == api.Ret && err != nil { // what is returned is free
					t.Errorf("Parse(%x): %v", y, err)
				}
			}
		}
	}
}

func TestRunReturns(t *testing.T) { // D4
	for _, k := range []uint32{0, 1, api.RetErrno + 13, api.RetAllow, 1 << 31, math.MaxUint32} {
		runIs(t, []api.Insn{{Op: api.Ret, K: k}}, call, k, 1)
		runIs(t, []api.Insn{{Op: api.Ret, K: k}, {Op: api.Ret, K: k + 1}}, call, k, 1)
		runIs(t, []api.Insn{{Op: api.Load}, {Op: api.And}, {Op: api.Ret, K: k}}, call, k, 3) // K, not the number
	}
}

// numberIs: what the number is behind these instructions, none of which leads anywhere but on.
func numberIs(t *testing.T, l []api.Insn, want uint32) {
	t.Helper()
	l = append(slices.Clone(l), api.Insn{Op: api.Eq, Jt: 1, K: want}, api.Insn{Op: api.Ret, K: 1}, api.Insn{Op: api.Ret, K: 2})
	runIs(t, l, call, 2, len(l)-1)
}

func TestRunNumber(t *testing.T) { // D4, D1
	numberIs(t, nil, 0)
	numberIs(t, []api.Insn{{Op: api.And, K: math.MaxUint32}}, 0)
	for at := uint32(0); at < api.Record; at += 4 {
		w, err := Word(call, at)
		if err != nil {
			t.Fatal(err)
		}
		load := api.Insn{Op: api.Load, K: at}
		numberIs(t, []api.Insn{load}, w)
		numberIs(t, []api.Insn{{Op: api.Load, K: 36 - at}, load}, w) // the last one holds
		numberIs(t, []api.Insn{load, {Op: api.And}}, 0)
		numberIs(t, []api.Insn{load, {Op: api.And, K: math.MaxUint32}}, w)
		numberIs(t, []api.Insn{load, {Op: api.And, K: 0xf0f0}}, w&0xf0f0)
		numberIs(t, []api.Insn{load, {Op: api.And, K: 0xff00}, {Op: api.And, K: 0x0ff0}}, w&0x0f00)
		numberIs(t, []api.Insn{load, {Op: api.And}, load}, w)
		numberIs(t, []api.Insn{load, {Op: api.Jump}}, w)
		for _, op := range branches { // they ask, and change nothing
			numberIs(t, []api.Insn{load, {Op: op, K: 12345}, {Op: op, K: w}}, w)
		}
	}
}

func TestRunJump(t *testing.T) { // D4
	for _, behind := range []int{1, 2, 9, 300, api.MaxInsns - 1} {
		for _, k := range []int{0, 1, behind / 2, behind - 2, behind - 1} {
			if 0 <= k && k < behind {
				runIs(t, ahead(api.Insn{Op: api.Jump, K: uint32(k)}, behind), call, uint32(k+1), 2)
			}
		}
	}
}

func TestRunBranches(t *testing.T) { // D4
	at := []uint32{0, 1, 2, 3, 4, 5, 0xff, 0x100, 1<<31 - 1, 1 << 31, 1<<31 + 1, math.MaxUint32 - 1, math.MaxUint32}
	for _, n := range at {
		for _, k := range at {
			c := api.Call{Nr: n}
			for op, holds := range map[int]bool{api.Eq: n == k, api.Gt: n > k, api.Ge: n >= k, api.Set: n&k > 0} {
				for _, skips := range [][2]int{{0, 1}, {1, 0}, {2, 5}, {255, 254}, {7, 7}} {
					want := 2 + skips[1]
					if holds {
						want = 2 + skips[0]
					}
					l := rets(300)
					l[0] = api.Insn{Op: api.Load}
					l[1] = api.Insn{Op: op, Jt: skips[0], Jf: skips[1], K: k}
					runIs(t, l, c, uint32(want), 3)
				}
			}
		}
	}
}

func TestRunBranchAtFirst(t *testing.T) { // D4: the number is 0 at first, also of a run behind another
	for range 2 {
		runIs(t, []api.Insn{{Op: api.Eq, Jt: 1}, {Op: api.Ret, K: 1}, {Op: api.Ret, K: 2}}, call, 2, 2)
		runIs(t, small[7], call, api.RetAllow, 3)
		runIs(t, small[7], api.Call{}, 0, 3)
	}
}

func TestRunLongest(t *testing.T) { // D4, W3
	for _, x := range []api.Insn{{Op: api.Load, K: 8}, {Op: api.And, K: 1}, {Op: api.Jump}, {Op: api.Gt}, {Op: api.Set}} {
		l := slices.Repeat([]api.Insn{x}, api.MaxInsns)
		l[api.MaxInsns-1] = api.Insn{Op: api.Ret, K: 77}
		runIs(t, l, call, 77, api.MaxInsns)
	}
}

// plain does what D4 says, by a list of which instructions are passed over.
func plain(l []api.Insn, c api.Call) (uint32, int) {
	record := []uint32{c.Nr, c.Arch}
	for _, a := range c.Args {
		record = append(record, uint32(a%(1<<32)), uint32(a/(1<<32)))
	}
	var number uint32
	steps, pass := 0, 0
	for _, x := range l {
		if pass > 0 {
			pass--
			continue
		}
		steps++
		held := false
		switch x.Op {
		case api.Load:
			number = record[x.K/4]
		case api.And:
			number &= x.K
		case api.Jump:
			pass = int(x.K)
		case api.Eq:
			held = number == x.K
		case api.Gt:
			held = number > x.K
		case api.Ge:
			held = number >= x.K
		case api.Set:
			held = number&x.K != 0
		case api.Ret:
			return x.K, steps
		}
		if held {
			pass = x.Jt
		} else if x.Op != api.Jump {
			pass = x.Jf
		}
	}
	return 0, -1
}

func TestRunDrawn(t *testing.T) { // D2 to D4, W3, W5
	draw := drawer(17)
	word := func() uint32 { return []uint32{0, 1, 2, 7, 1 << 31, math.MaxUint32}[draw(6)] }
	longest := 0
	for range 20000 {
		n := 1 + draw(40)
		l := rets(n)
		for i := range n - 1 {
			x := api.Insn{Op: 1 + draw(8), K: word()}
			left := min(n-1-i, 4)
			switch {
			case x.Op == api.Load:
				x.K = uint32(4 * draw(10))
			case x.Op == api.Jump:
				x.K = uint32(draw(left))
			case slices.Contains(branches, x.Op):
				x.Jt, x.Jf = draw(left), draw(left)
			case x.Op == api.Ret && draw(4) > 0:
				x.Op = api.And
			}
			l[i] = x
		}
		c := api.Call{Nr: word(), Arch: word()}
		for i := range c.Args {
			c.Args[i] = uint64(word())<<32 | uint64(word())
		}
		checkIs(t, l, nil)
		want, steps := plain(l, c)
		runIs(t, l, c, want, steps)
		longest = max(longest, steps)
		if steps > len(l) {
			t.Errorf("%d steps of %d instructions", steps, len(l))
		}
		s, _ := Bytes(l)
		if p, err := Parse(s); !slices.Equal(p, l) || err != nil {
			t.Errorf("Parse(%x) = %v, %v, want %v", s, p, err, l)
		}
	}
	if longest < 20 {
		t.Errorf("no run was longer than %d steps", longest)
	}
}

func TestAnythingEnds(t *testing.T) { // D1 to D4, Z1: nothing panics, and all tell one thing of a program
	draw := drawer(23)
	number := func() int {
		return []int{0, 0, 0, 1, 2, 8, 9, 255, 256, -1, math.MinInt, math.MaxInt}[draw(12)]
	}
	for range 30000 {
		l := make([]api.Insn, draw(5))
		for i := range l {
			l[i] = api.Insn{Op: draw(10), Jt: number(), Jf: number(), K: uint32(number())}
		}
		checkIs(t, l, Check(l))
		b := make([]byte, draw(40))
		for i := range b {
			b[i] = byte([]int{0, 0, 0, 1, 2, 8, draw(256)}[draw(7)])
		}
		if p, err := Parse(string(b)); err != nil {
			noText(t, string(b))
		} else if s, err := Bytes(p); s != string(b) || err != nil {
			t.Errorf("Parse(%x) = %v, whose bytes are %x, %v", b, p, s, err)
		}
	}
}

func TestListsStay(t *testing.T) { // Z2
	for _, l := range append(small, []api.Insn{{Op: 99}}, []api.Insn{{Op: api.Load}}) {
		whole := append(slices.Clone(l), api.Insn{Op: 99, Jt: 99, Jf: 99, K: 99})
		want := slices.Clone(whole)
		err := Check(l)
		checkIs(t, whole[:len(l)], err) // what stands behind the list is not read
		if !slices.Equal(whole, want) {
			t.Errorf("%v was written into: %v", want, whole)
		}
	}
	s, err := Bytes(small[7])
	if err != nil {
		t.Fatal(err)
	}
	p, _ := Parse(s)
	q, _ := Parse(s)
	clear(p)
	if !slices.Equal(q, small[7]) {
		t.Error("two lists share memory")
	}
}
