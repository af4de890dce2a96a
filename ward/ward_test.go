package ward

import (
	"fmt"
	"math"
	"slices"
	"strings"
	"testing"

	"doorward/addr"
	"doorward/api"
	"doorward/mem"
	"doorward/policy"
)

// Numbers of calls.
const (
	read0 = iota
	write1
	open2
	close3
	stat4
	rename5
	connect6
	link7
	send8
)

// sealedAt is the first address behind those of threads.
const sealedAt = api.Pages * api.Page

// most steps of a call.
const mostSteps = 86

var (
	allow = api.Action{Kind: api.Allow}
	kill  = api.Action{Kind: api.Kill}
)

var everyNet = api.Net{Hi: 65535}

func deny(n int) api.Action {
	return api.Action{Kind: api.Deny, Errno: n}
}

func like(arg int, g string) api.Cond {
	return api.Cond{Arg: arg, Op: api.Like, Glob: g}
}

func in(arg int, n api.Net) api.Cond {
	return api.Cond{Arg: arg, Op: api.In, Net: n}
}

func rule(do api.Action, nr int, l ...api.Cond) api.Rule {
	return api.Rule{Nr: nr, Conds: l, Do: do}
}

func policyOf(other api.Action, l ...api.Rule) api.Policy {
	return api.Policy{Rules: l, Else: other}
}

// looked: each call with a pointer is looked at, and allowed.
var looked = policyOf(deny(99),
	rule(allow, open2, like(0, "**")),
	rule(allow, stat4, like(0, "**")),
	rule(allow, rename5, like(0, "**")),
	rule(allow, link7, like(1, "**")),
	rule(allow, connect6, in(1, everyNet)),
	rule(allow, send8, in(2, everyNet)))

const sessionText = `else deny 1
allow close
allow open if 0 ~ "/tmp/**" and 1 & 3 == 0
deny 13 open
allow connect if 1 in 10.0.0.0/8:80-90
kill write if 1 > 4294967296
allow rename if 0 ~ "/a/*" and 1 ~ "/a/[!x]*"
`

// call of the only arch that isn't killed.
func call(nr uint32, args ...uint64) api.Call {
	c := api.Call{Arch: api.Arch, Nr: nr}
	copy(c.Args[:], args)
	return c
}

func path(l ...string) api.Values {
	var v api.Values
	for i := range l {
		v[i].Path = l[i]
	}
	return v
}

func done(n int, c api.Call, v api.Values) api.Entry {
	return api.Entry{Kind: api.Done, Thread: n, Call: c, Values: v}
}

func refused(n int, c api.Call, errno int) api.Entry {
	return api.Entry{Kind: api.Refused, Thread: n, Call: c, Errno: errno}
}

func killed(n int, c api.Call) api.Entry {
	return api.Entry{Kind: api.Killed, Thread: n, Call: c}
}

func addrBytes(t *testing.T, ip uint32, port int) string {
	t.Helper()
	s, err := addr.Bytes(ip, port)
	wantErr(t, "addr.Bytes", err, nil)
	return s
}

func wantErr(t *testing.T, what string, err, want error) {
	t.Helper()
	if err != want {
		t.Errorf("%s: %v, want %v", what, err, want)
	}
}

// newWard gives one all of whose pages may be written.
func newWard(t *testing.T, p api.Policy) *Ward {
	t.Helper()
	w, err := New(p)
	if err != nil {
		t.Fatalf("New(%v): %v", p, err)
	}
	for n := range api.Pages {
		wantErr(t, "Map", w.Map(n, true), nil)
	}
	return w
}

func put(t *testing.T, w *Ward, a uint64, s string) {
	t.Helper()
	wantErr(t, "Put", w.Put(a, s), nil)
}

func enter(t *testing.T, w *Ward, n int, c api.Call) {
	t.Helper()
	wantErr(t, fmt.Sprintf("Enter(%d, %v)", n, c), w.Enter(n, c), nil)
	wantPhase(t, w, n, Filter)
}

// steps does as many as the thread does, so many at most: how many they were.
func steps(t *testing.T, w *Ward, n, most int) int {
	t.Helper()
	for k := range most {
		if w.Phase(n) == Dead {
			return k
		}
		did, err := w.Step(n)
		wantErr(t, "Step", err, nil)
		if !did {
			return k
		}
	}
	return most
}

func wantSteps(t *testing.T, w *Ward, n, most, want int) {
	t.Helper()
	if k := steps(t, w, n, most); k != want {
		t.Errorf("of %d steps of %d: %d were done, want %d", most, n, k, want)
	}
}

func wantPhase(t *testing.T, w *Ward, n, want int) {
	t.Helper()
	if p := w.Phase(n); p != want {
		t.Errorf("Phase(%d) = %d, want %d", n, p, want)
	}
}

func wantSealed(t *testing.T, w *Ward, want int) {
	t.Helper()
	if n := w.Mem().Sealed(); n != want {
		t.Errorf("%d pages are sealed, want %d", n, want)
	}
}

func wantLog(t *testing.T, w *Ward, want ...api.Entry) {
	t.Helper()
	if l := w.Log(); !slices.Equal(l, want) {
		t.Errorf("Log() = %v, want %v", l, want)
	}
}

// wantEnd: a call of a thread of a fresh look at the ward, done to its end in so many steps, comes to this; the ward stays as it was.
func wantEnd(t *testing.T, w *Ward, c api.Call, want api.Entry, count int) {
	t.Helper()
	w = w.Copy()
	before := len(w.Log())
	enter(t, w, want.Thread, c)
	wantSteps(t, w, want.Thread, 2*mostSteps, count)
	if l := w.Log(); len(l) != before+1 || l[before] != want {
		t.Errorf("%v: the log is %v, want one entry more, %v", c, l, want)
	}
	wantSealed(t, w, 0)
	left := thread{phase: Idle}
	if want.Kind == api.Killed {
		left.phase = Dead
	}
	wantPhase(t, w, want.Thread, left.phase)
	if w.threads[want.Thread] != left {
		t.Errorf("%v: of a call that has ended is kept: %v", c, w.threads[want.Thread])
	}
}

// look: all that can be seen of a ward.
func look(w *Ward) string {
	s := fmt.Sprint(w.Log())
	for n := range api.Threads {
		s += fmt.Sprint(" ", w.Phase(n))
	}
	m := w.Mem()
	for a := range uint64((api.Pages + api.Seals) * api.Page) {
		b, err := m.Byte(a)
		s += fmt.Sprint(" ", b, err)
	}
	for n := range uint64(api.Pages) {
		s += fmt.Sprint(" ", m.Put(n*api.Page, "x"))
	}
	return s
}

// G1, G2: the document's session.
func TestSession(t *testing.T) {
	p, err := policy.Parse(sessionText)
	wantErr(t, "Parse", err, nil)
	w, err := New(p)
	wantErr(t, "New", err, nil)
	wantErr(t, "Map", w.Map(1, true), nil)
	put(t, w, 64, "/tmp/x\x00")
	enter(t, w, 0, call(open2, 64, 4))
	wantSteps(t, w, 0, 3, 3)
	wantPhase(t, w, 0, Snap)
	wantSteps(t, w, 0, 6, 6)
	wantPhase(t, w, 0, Seal)
	wantSealed(t, w, 0)
	put(t, w, 64, "/etc\x00")
	wantSteps(t, w, 0, 1, 1)
	wantSealed(t, w, 1)
	wantPhase(t, w, 0, Exec)
	put(t, w, 64, "\xff\xff\xff\xff")
	wantErr(t, "Unmap", w.Unmap(1), nil)
	wantSteps(t, w, 0, 9, 1)
	first := done(0, call(open2, 64, 4), path("/tmp/x"))
	wantLog(t, w, first)
	wantSealed(t, w, 0)
	enter(t, w, 1, call(open2, 64))
	wantSteps(t, w, 1, 9, 2)
	wantErr(t, "Map", w.Map(2, true), nil)
	put(t, w, 128, "\x02\x00\x00\x50\x0a\x00\x00\x01\x00\x00\x00\x00\x00\x00\x00\x00\x00\x00")
	enter(t, w, 1, call(connect6, 7, 128))
	wantSteps(t, w, 1, 90, 20)
	enter(t, w, 2, call(write1, 0, 4294967297))
	wantSteps(t, w, 2, 2, 1)
	wantErr(t, "Enter", w.Enter(2, call(read0)), api.ErrNone)
	wantLog(t, w, first,
		refused(1, call(open2, 64), api.EFAULT),
		done(1, call(connect6, 7, 128), api.Values{1: {IP: 167772161, Port: 80}}),
		killed(2, call(write1, 0, 4294967297)))
	wantErr(t, "Put", w.Put(512, "\x00"), api.ErrFault)
}

// G1: the phases' numbers.
func TestPhases(t *testing.T) {
	if l := [...]int{Idle, Filter, Snap, Judge, Seal, Exec, Dead}; l != [...]int{0, 1, 2, 3, 4, 5, 6} {
		t.Errorf("phases: %v", l)
	}
}

// G1: a new ward has idle threads, memory of which nothing is mapped, an empty log.
func TestNew(t *testing.T) {
	w, err := New(looked)
	wantErr(t, "New", err, nil)
	for n := range api.Threads {
		wantPhase(t, w, n, Idle)
	}
	wantLog(t, w)
	wantSealed(t, w, 0)
	for n := range api.Pages {
		wantErr(t, "Unmap", w.Unmap(n), api.ErrFault)
		wantErr(t, "Put", w.Put(uint64(n*api.Page), "x"), api.ErrFault)
	}
	if other, _ := New(looked); other == w {
		t.Error("New twice: one object")
	}
	for _, p := range []api.Policy{policyOf(allow), policyOf(kill), policyOf(deny(255))} {
		if w, err := New(p); w == nil || err != nil {
			t.Errorf("New(%v) = %v, %v", p, w, err)
		}
	}
}

// G1, Z1: Check's error of a policy that is not right, and no ward.
func TestNewWrong(t *testing.T) {
	many := make([]api.Rule, api.MaxRules+1)
	for i := range many {
		many[i] = rule(allow, read0)
	}
	for _, x := range []struct {
		p    api.Policy
		want error
	}{
		{api.Policy{}, api.ErrShape},
		{policyOf(api.Action{}, many...), api.ErrMany},
		{policyOf(api.Action{Kind: api.Trace}), api.ErrShape},
		{policyOf(deny(0)), api.ErrBound},
		{policyOf(allow, rule(allow, api.Calls)), api.ErrBound},
		{policyOf(allow, rule(allow, -1)), api.ErrBound},
		{policyOf(allow, rule(allow, open2, like(1, "a"))), api.ErrShape},
		{policyOf(allow, rule(allow, open2, like(0, "["))), api.ErrText},
		{policyOf(allow, rule(allow, connect6, in(1, api.Net{Bits: 33}))), api.ErrBound},
		{policyOf(allow, rule(deny(256), read0)), api.ErrBound},
	} {
		if w, err := New(x.p); w != nil || err != x.want {
			t.Errorf("New(%v) = %v, %v, want %v", x.p, w, err, x.want)
		}
	}
}

// G1: what threads do to memory is what memory does.
func TestMemory(t *testing.T) {
	w, err := New(looked)
	wantErr(t, "New", err, nil)
	m := mem.New()
	draw := drawer(3)
	wrong := 0
	for range 3000 {
		n, write, a := draw(api.Pages+4)-2, draw(2) == 0, uint64(draw(sealedAt+api.Page))
		s := strings.Repeat(string(rune('a'+draw(26))), draw(90))
		var got, want error
		switch draw(4) {
		case 0:
			got, want = w.Map(n, write), m.Map(n, write)
		case 1:
			got, want = w.Unmap(n), m.Unmap(n)
		default:
			got, want = w.Put(a, s), m.Put(a, s)
		}
		wantErr(t, "a call on memory", got, want)
		if got != nil {
			wrong++
		}
		if *w.Mem() != *m {
			t.Fatalf("%v: memory is other than it should be", got)
		}
	}
	if wrong < 300 || wrong > 2700 {
		t.Errorf("%d calls of 3000 answered an error", wrong)
	}
}

// G1: Mem is a copy: what is done to it isn't done to the ward's, nor the other way.
func TestMemIsCopy(t *testing.T) {
	w := newWard(t, looked)
	put(t, w, 0, "/a\x00")
	m := w.Mem()
	wantErr(t, "Put", m.Put(0, "/b\x00"), nil)
	if _, err := m.Seal("s"); err != nil {
		t.Error(err)
	}
	wantSealed(t, w, 0)
	if s, err := w.Mem().Text(0); s != "/a" || err != nil {
		t.Errorf("Text: %q, %v", s, err)
	}
	put(t, w, 0, "/c\x00")
	if s, err := m.Text(0); s != "/b" || err != nil {
		t.Errorf("Text: %q, %v", s, err)
	}
}

// G1, G2: there are threads from 0 to Threads less 1, no others.
func TestNoThread(t *testing.T) {
	w := newWard(t, looked)
	before := look(w)
	for _, n := range []int{-1, -2, api.Threads, api.Threads + 1, 1 << 32, -1 << 32, math.MinInt, math.MaxInt} {
		wantPhase(t, w, n, Dead)
		wantErr(t, "Enter", w.Enter(n, call(read0)), api.ErrBound)
		if did, err := w.Step(n); did || err != api.ErrBound {
			t.Errorf("Step(%d) = %v, %v", n, did, err)
		}
	}
	if look(w) != before {
		t.Error("something was changed")
	}
}

// G1: a thread that is in a call enters none, in no phase; the call that it is in goes on as it was.
func TestEnterBusy(t *testing.T) {
	w := newWard(t, looked)
	put(t, w, 0, "/x\x00")
	enter(t, w, 1, call(stat4, 0))
	for _, phase := range []int{Filter, Snap, Snap, Snap, Judge, Seal, Exec} {
		wantPhase(t, w, 1, phase)
		before := look(w)
		wantErr(t, "Enter", w.Enter(1, call(read0)), api.ErrBusy)
		if look(w) != before {
			t.Error("something was changed")
		}
		wantSteps(t, w, 1, 1, 1)
	}
	wantPhase(t, w, 1, Idle)
	wantLog(t, w, done(1, call(stat4, 0), path("/x")))
	enter(t, w, 1, call(read0))
}

// G2: an idle thread does no step; that changes nothing.
func TestStepIdle(t *testing.T) {
	w := newWard(t, looked)
	before := look(w)
	for n := range api.Threads {
		if did, err := w.Step(n); did || err != nil {
			t.Errorf("Step(%d) = %v, %v", n, did, err)
		}
	}
	if look(w) != before {
		t.Error("something was changed")
	}
}

// G1, G2: a thread that was killed stays dead; others go on.
func TestDead(t *testing.T) {
	w := newWard(t, policyOf(allow, rule(kill, close3)))
	enter(t, w, 1, call(close3, 5))
	wantSteps(t, w, 1, 9, 1)
	wantPhase(t, w, 1, Dead)
	before := look(w)
	for range 3 {
		wantErr(t, "Enter", w.Enter(1, call(read0)), api.ErrNone)
		if did, err := w.Step(1); did || err != api.ErrNone {
			t.Errorf("Step = %v, %v", did, err)
		}
	}
	if look(w) != before {
		t.Error("something was changed")
	}
	for _, n := range []int{0, 2} {
		enter(t, w, n, call(read0, 1, 2))
		wantSteps(t, w, n, 9, 2)
		wantPhase(t, w, n, Idle)
	}
	wantLog(t, w, killed(1, call(close3, 5)), done(0, call(read0, 1, 2), api.Values{}), done(2, call(read0, 1, 2), api.Values{}))
}

// G2: what registers alone tell: a denial and a kill at the first step; what is allowed is executed at the second one.
func TestFilter(t *testing.T) {
	less := api.Cond{Arg: 1, Op: api.Less, V: 1 << 40}
	w := newWard(t, policyOf(deny(7), rule(allow, read0, less), rule(kill, read0), rule(deny(255), write1), rule(allow, close3)))
	for n := range api.Threads {
		wantEnd(t, w, call(read0, 9, 1<<40-1), done(n, call(read0, 9, 1<<40-1), api.Values{}), 2)
		wantEnd(t, w, call(read0, 9, 1<<40), killed(n, call(read0, 9, 1<<40)), 1)
		wantEnd(t, w, call(write1, 3), refused(n, call(write1, 3), 255), 1)
		wantEnd(t, w, call(close3, math.MaxUint64, 1, 2, 3), done(n, call(close3, math.MaxUint64, 1, 2, 3), api.Values{}), 2)
		wantEnd(t, w, call(stat4, 3), refused(n, call(stat4, 3), 7), 1)
		wantEnd(t, w, call(api.Calls), refused(n, call(api.Calls), 7), 1)
	}
}

// G2, E3: another arch is killed, whatever is allowed.
func TestFilterArch(t *testing.T) {
	for _, p := range []api.Policy{policyOf(allow), looked} {
		for _, arch := range []uint32{0, api.Arch - 1, api.Arch ^ 1<<31, math.MaxUint32} {
			for nr := range uint32(api.Calls + 1) {
				c := api.Call{Arch: arch, Nr: nr}
				wantEnd(t, newWard(t, p), c, killed(0, c), 1)
			}
		}
	}
}

// G2: phases one by one, of a path: a byte a step, its nought too.
func TestPhasesOfPath(t *testing.T) {
	w := newWard(t, looked)
	put(t, w, 60, "/abcdef\x00") // across two pages
	enter(t, w, 0, call(open2, 60, 1, 2, 3))
	want := []int{Snap, Snap, Snap, Snap, Snap, Snap, Snap, Snap, Judge, Seal, Exec, Idle}
	for i, phase := range want {
		wantSteps(t, w, 0, 1, 1)
		wantPhase(t, w, 0, phase)
		wantSealed(t, w, map[bool]int{true: 1}[phase == Exec])
		if i < len(want)-1 {
			wantLog(t, w)
		}
	}
	wantLog(t, w, done(0, call(open2, 60, 1, 2, 3), path("/abcdef")))
}

// G2: paths at the edges of their length, by how many steps they are read.
func TestSnapPath(t *testing.T) {
	w := newWard(t, looked)
	for _, n := range []int{0, 1, 2, api.MaxPath - 1, api.MaxPath} {
		s := strings.Repeat("p", n)
		put(t, w, 100, s+"\x00")
		wantEnd(t, w, call(stat4, 100), done(2, call(stat4, 100), path(s)), n+5)
	}
	for _, n := range []int{api.MaxPath + 1, api.MaxPath + 2, 2 * api.MaxPath} {
		put(t, w, 100, strings.Repeat("p", n)+"\x00")
		wantEnd(t, w, call(stat4, 100), refused(2, call(stat4, 100), api.ENAMETOOLONG), 1+api.MaxPath+1)
	}
}

// G2: each byte but nought is one of a path's, and stays as it is.
func TestSnapBytes(t *testing.T) {
	w := newWard(t, looked)
	for b := 1; b < 256; b++ {
		s := string([]byte{'/', byte(b), byte(b), '.'})
		put(t, w, 0, s+"\x00")
		wantEnd(t, w, call(stat4, 0), done(0, call(stat4, 0), path(s)), 4+5)
	}
}

// G2: a byte that can't be read ends the call at the step that reads it, ahead of its being too long.
func TestSnapFault(t *testing.T) {
	for n := range api.MaxPath + 2 {
		w := newWard(t, looked)
		wantErr(t, "Unmap", w.Unmap(2), nil)
		a := uint64(2*api.Page - n)
		put(t, w, a, strings.Repeat("p", n))
		want := refused(0, call(stat4, a), api.EFAULT)
		if n > api.MaxPath {
			want.Errno = api.ENAMETOOLONG
		}
		wantEnd(t, w, call(stat4, a), want, min(1+n+1, 1+api.MaxPath+1))
	}
	for n := range api.AddrBytes {
		w := newWard(t, looked)
		wantErr(t, "Unmap", w.Unmap(2), nil)
		a := uint64(2*api.Page - n)
		wantEnd(t, w, call(connect6, 0, a), refused(0, call(connect6, 0, a), api.EFAULT), 1+n+1)
	}
	w := newWard(t, looked)
	for _, a := range []uint64{sealedAt, sealedAt + 4*api.Page, 1 << 32, 1 << 63, math.MaxUint64 - 3, math.MaxUint64} {
		wantEnd(t, w, call(stat4, a), refused(1, call(stat4, a), api.EFAULT), 2)
		wantEnd(t, w, call(send8, 0, 0, a), refused(1, call(send8, 0, 0, a), api.EFAULT), 2)
	}
}

// G2: pages that may be read, not written, are read too.
func TestSnapReadOnly(t *testing.T) {
	w := newWard(t, looked)
	put(t, w, 64, "/r\x00")
	wantErr(t, "Map", w.Map(1, false), nil)
	wantEnd(t, w, call(stat4, 64), done(0, call(stat4, 64), path("/r")), 7)
}

// G2: addresses, which have their number of bytes, noughts or not; wrong ones are known at the last byte.
func TestSnapAddr(t *testing.T) {
	w := newWard(t, looked)
	for _, x := range []api.Value{{}, {IP: 1, Port: 1}, {IP: 0x0a000001, Port: 80}, {IP: math.MaxUint32, Port: 65535}, {IP: 0xfe00fd00, Port: 0x00ff}} {
		put(t, w, 120, addrBytes(t, x.IP, x.Port)+"x")
		wantEnd(t, w, call(connect6, 120, 120, 120, 120), done(0, call(connect6, 120, 120, 120, 120), api.Values{1: x}), 20)
		wantEnd(t, w, call(send8, 9, 8, 120, 7), done(1, call(send8, 9, 8, 120, 7), api.Values{2: x}), 20)
	}
	right := addrBytes(t, 0x0a000001, 80)
	for _, i := range []int{0, 1, 8, 9, 10, 11, 12, 13, 14, 15} {
		b := []byte(right)
		b[i]++
		put(t, w, 120, string(b))
		wantEnd(t, w, call(connect6, 1, 120), refused(0, call(connect6, 1, 120), api.EINVAL), 17)
	}
}

// G2: two pointers are read in order, both are sealed; the call takes as many steps as any may.
func TestTwoPointers(t *testing.T) {
	w := newWard(t, looked)
	one, two := strings.Repeat("1", api.MaxPath), strings.Repeat("2", api.MaxPath)
	put(t, w, 0, one+"\x00")
	put(t, w, 200, two+"\x00")
	put(t, w, 300, strings.Repeat("3", api.MaxPath+1))
	for _, nr := range []uint32{rename5, link7} {
		c := call(nr, 0, 200, 300, 400)
		wantEnd(t, w, c, done(0, c, path(one, two)), mostSteps)
		c = call(nr, 200, 0)
		wantEnd(t, w, c, done(0, c, path(two, one)), mostSteps)
		c = call(nr, 0, 0)
		wantEnd(t, w, c, done(0, c, path(one, one)), mostSteps)
		c = call(nr, 0, 300)
		wantEnd(t, w, c, refused(0, c, api.ENAMETOOLONG), 1+41+41)
		c = call(nr, 300, math.MaxUint64)
		wantEnd(t, w, c, refused(0, c, api.ENAMETOOLONG), 1+41)
		c = call(nr, math.MaxUint64, 300)
		wantEnd(t, w, c, refused(0, c, api.EFAULT), 1+1)
		c = call(nr, 0, math.MaxUint64)
		wantEnd(t, w, c, refused(0, c, api.EFAULT), 1+41+1)
	}
}

// G2: a pointer's place that is no pointer of the call isn't followed.
func TestNoPointer(t *testing.T) {
	w := newWard(t, policyOf(allow, looked.Rules...))
	put(t, w, 0, "/x\x00")
	far := uint64(math.MaxUint64)
	wantEnd(t, w, call(open2, 0, far, far, far), done(0, call(open2, 0, far, far, far), path("/x")), 7)
	wantEnd(t, w, call(link7, 0, 0, far, far), done(0, call(link7, 0, 0, far, far), path("/x", "/x")), 10)
	wantEnd(t, w, call(read0, far, far, far, far), done(0, call(read0, far, far, far, far), api.Values{}), 2)
}

// G2: what is written while a path is read counts, where it is read later.
func TestSnapMeanwhile(t *testing.T) {
	w := newWard(t, looked)
	put(t, w, 0, "abcd\x00")
	enter(t, w, 0, call(stat4, 0))
	wantSteps(t, w, 0, 3, 3) // a, b
	put(t, w, 0, "uvwxyz\x00")
	wantSteps(t, w, 0, 2, 2) // w, x
	wantErr(t, "Unmap", w.Unmap(0), nil)
	wantErr(t, "Map", w.Map(0, true), nil) // noughts
	wantSteps(t, w, 0, 1, 1)
	wantPhase(t, w, 0, Judge)
	wantSteps(t, w, 0, 9, 3)
	wantLog(t, w, done(0, call(stat4, 0), path("abwx")))
}

// G2: the policy decides on what was read: each action.
func TestJudge(t *testing.T) {
	w := newWard(t, policyOf(deny(5),
		rule(kill, rename5, like(0, "/k"), like(1, "/k")),
		rule(deny(77), rename5, like(0, "/d")),
		rule(allow, rename5, like(1, "/a")),
		rule(deny(4), connect6, in(1, api.Net{IP: 9 << 24, Bits: 8, Hi: 80})),
		rule(allow, connect6, in(1, api.Net{IP: 8 << 24, Bits: 7, Lo: 80, Hi: 80}))))
	put(t, w, 0, "/k\x00")
	put(t, w, 10, "/d\x00")
	put(t, w, 20, "/a\x00")
	put(t, w, 100, addrBytes(t, 9<<24+1, 80))
	put(t, w, 120, addrBytes(t, 8<<24+1, 80))
	put(t, w, 140, addrBytes(t, 8<<24+1, 81))
	wantEnd(t, w, call(rename5, 0, 0), killed(0, call(rename5, 0, 0)), 8)
	wantEnd(t, w, call(rename5, 10, 0), refused(0, call(rename5, 10, 0), 77), 8)
	wantEnd(t, w, call(rename5, 0, 10), refused(0, call(rename5, 0, 10), 5), 8)
	wantEnd(t, w, call(rename5, 10, 20), refused(0, call(rename5, 10, 20), 77), 8)
	wantEnd(t, w, call(rename5, 0, 20), done(0, call(rename5, 0, 20), path("/k", "/a")), 10)
	wantEnd(t, w, call(connect6, 0, 100), refused(0, call(connect6, 0, 100), 4), 18)
	wantEnd(t, w, call(connect6, 0, 120), done(0, call(connect6, 0, 120), api.Values{1: {IP: 8<<24 + 1, Port: 80}}), 20)
	wantEnd(t, w, call(connect6, 0, 140), refused(0, call(connect6, 0, 140), 5), 18)
}

// upTo brings a thread's call to a phase.
func upTo(t *testing.T, w *Ward, n, phase int) {
	t.Helper()
	for range mostSteps {
		if w.Phase(n) == phase {
			return
		}
		wantSteps(t, w, n, 1, 1)
	}
	t.Fatalf("thread %d does not come to the phase %d", n, phase)
}

// G2: what is sealed: a path with its nought, an address's bytes, the lowest pages first; no other bytes.
func TestSealedBytes(t *testing.T) {
	w := newWard(t, looked)
	put(t, w, 0, "/one\x00rest")
	put(t, w, 64, "/2\x00rest")
	put(t, w, 128, addrBytes(t, 0x0a0b0c0d, 0x0102)+"rest")
	enter(t, w, 0, call(rename5, 0, 64))
	enter(t, w, 1, call(connect6, 0, 128))
	upTo(t, w, 1, Exec)
	upTo(t, w, 0, Exec)
	wantSealed(t, w, 3)
	for i, s := range []string{addrBytes(t, 0x0a0b0c0d, 0x0102), "/one", "/2"} {
		want := s + strings.Repeat("\x00", api.Page-len(s))
		if got, err := w.Mem().Get(sealedAt+uint64(i*api.Page), api.Page); got != want || err != nil {
			t.Errorf("sealed page %d: %q, %v, want %q", i, got, err, want)
		}
	}
	wantSteps(t, w, 1, 9, 1)
	wantSealed(t, w, 2)
	if _, err := w.Mem().Byte(sealedAt); err != api.ErrFault {
		t.Errorf("a page that was freed can be read: %v", err)
	}
	wantSteps(t, w, 0, 9, 1)
	wantSealed(t, w, 0)
	wantLog(t, w, done(1, call(connect6, 0, 128), api.Values{1: {IP: 0x0a0b0c0d, Port: 0x0102}}), done(0, call(rename5, 0, 64), path("/one", "/2")))
}

// G2, W4: pages are sealed for calls that are about to be executed alone, and freed when these end.
func TestSealedWhen(t *testing.T) {
	w := newWard(t, looked)
	put(t, w, 0, "/x\x00")
	for range 10 * api.Seals {
		enter(t, w, 0, call(rename5, 0, 0))
		for w.Phase(0) != Idle {
			wantSealed(t, w, map[bool]int{true: 2}[w.Phase(0) == Exec])
			wantSteps(t, w, 0, 1, 1)
		}
		wantSealed(t, w, 0)
	}
	if n := len(w.Log()); n != 10*api.Seals {
		t.Errorf("%d entries", n)
	}
}

// G2: no page is left, or one of two: ENOMEM; what was sealed of that call is freed, of others not.
func TestSealNone(t *testing.T) {
	for _, x := range []struct {
		first, second, third api.Call
		sealed               int
	}{
		{call(rename5, 0, 64), call(link7, 64, 0), call(stat4, 0), 4},
		{call(rename5, 0, 64), call(link7, 64, 0), call(connect6, 0, 128), 4},
		{call(rename5, 0, 64), call(link7, 64, 0), call(rename5, 0, 0), 4},
		{call(rename5, 0, 64), call(stat4, 64), call(link7, 64, 0), 3},
		{call(connect6, 0, 128), call(rename5, 64, 0), call(rename5, 0, 64), 3},
	} {
		w := newWard(t, looked)
		put(t, w, 0, "/one\x00")
		put(t, w, 64, "/2\x00")
		enter(t, w, 0, x.first)
		enter(t, w, 1, x.second)
		enter(t, w, 2, x.third)
		put(t, w, 128, addrBytes(t, 1, 2))
		upTo(t, w, 2, Seal)
		upTo(t, w, 0, Exec)
		upTo(t, w, 1, Exec)
		wantSealed(t, w, x.sealed)
		before := *w.Mem()
		wantSteps(t, w, 2, 9, 1)
		wantPhase(t, w, 2, Idle)
		wantLog(t, w, refused(2, x.third, api.ENOMEM))
		if *w.Mem() != before {
			t.Errorf("%v: memory was changed", x)
		}
		wantSteps(t, w, 0, 9, 1)
		wantSteps(t, w, 1, 9, 1)
		wantSealed(t, w, 0)
		l := w.Log()
		if len(l) != 3 || l[1].Kind != api.Done || l[2].Kind != api.Done {
			t.Errorf("Log() = %v", l)
		}
		wantEnd(t, w, x.third, api.Entry{Kind: api.Done, Thread: 2, Call: x.third, Values: valuesOf(t, w.Mem(), x.third)}, steps(t, entered(t, w, x.third), 2, 99))
	}
}

// entered: a copy of a ward whose last thread has entered a call.
func entered(t *testing.T, w *Ward, c api.Call) *Ward {
	t.Helper()
	w = w.Copy()
	enter(t, w, api.Threads-1, c)
	return w
}

// valuesOf what a call's pointers lead to.
func valuesOf(t *testing.T, m *mem.Mem, c api.Call) api.Values {
	t.Helper()
	v, errno := follow(m, c)
	if errno != 0 {
		t.Fatalf("%v: %d", c, errno)
	}
	return v
}

// G2: pages of another call are no call's own, though its registers have their addresses: they can be read, and aren't freed.
func TestForeignPages(t *testing.T) {
	w := newWard(t, policyOf(allow, rule(allow, open2, like(0, "/x")), rule(deny(3), rename5, like(0, "/x"))))
	put(t, w, 0, "/x\x00")
	enter(t, w, 0, call(open2, 0, 7))
	upTo(t, w, 0, Exec)
	want := []api.Entry{}
	for _, x := range []struct {
		e     api.Entry
		count int
	}{
		{done(1, call(stat4, sealedAt), path("/x")), 2},
		{done(1, call(read0, sealedAt, sealedAt, sealedAt, sealedAt), api.Values{}), 2},
		{refused(1, call(rename5, sealedAt, sealedAt), 3), 8},
		{done(1, call(open2, sealedAt, sealedAt), path("/x")), 7},
		{refused(1, call(open2, sealedAt+api.Page), api.EFAULT), 2},
		{refused(1, call(api.Calls, sealedAt), api.ENOSYS), 2},
	} {
		enter(t, w, 1, x.e.Call)
		wantSteps(t, w, 1, 99, x.count)
		wantSealed(t, w, 1)
		want = append(want, x.e)
		wantLog(t, w, want...)
	}
	put(t, w, 0, "/y\x00")
	wantSteps(t, w, 0, 9, 1)
	wantSealed(t, w, 0)
	wantLog(t, w, append(want, done(0, call(open2, 0, 7), path("/x")))...)
}

// G2: a number of no call is refused where it would be executed.
func TestNoCall(t *testing.T) {
	w := newWard(t, policyOf(allow))
	for _, nr := range []uint32{api.Calls, api.Calls + 1, 256, 1 << 31, math.MaxUint32} {
		wantEnd(t, w, call(nr, 1, 2, 3, 4), refused(0, call(nr, 1, 2, 3, 4), api.ENOSYS), 2)
	}
}

// G2: calls that registers alone allow: pointers are followed when they are executed, in order; none is sealed.
func TestExec(t *testing.T) {
	w := newWard(t, policyOf(allow))
	most := strings.Repeat("m", api.MaxPath)
	put(t, w, 0, most+"\x00")
	put(t, w, 64, most+"m\x00")
	put(t, w, 128, addrBytes(t, 5, 6))
	put(t, w, 150, addrBytes(t, 5, 6)[1:])
	put(t, w, 192, "/p\x00")
	wantErr(t, "Unmap", w.Unmap(4), nil)
	last := uint64(4*api.Page - api.AddrBytes)
	put(t, w, last, addrBytes(t, 7, 8))
	far := uint64(math.MaxUint64)
	for _, x := range []struct {
		c     api.Call
		v     api.Values
		errno int
	}{
		{call(open2, 192, far, far, far), path("/p"), 0},
		{call(open2, 0), path(most), 0},
		{call(open2, 64), api.Values{}, api.ENAMETOOLONG},
		{call(open2, far), api.Values{}, api.EFAULT},
		{call(stat4, 194), path(""), 0},
		{call(stat4, 4*api.Page), api.Values{}, api.EFAULT},
		{call(rename5, 192, 0, far), path("/p", most), 0},
		{call(rename5, 192, far), api.Values{}, api.EFAULT},
		{call(rename5, 64, far), api.Values{}, api.ENAMETOOLONG},
		{call(link7, far, 64), api.Values{}, api.EFAULT},
		{call(link7, 0, 192, far), path(most, "/p"), 0},
		{call(connect6, far, 128), api.Values{1: {IP: 5, Port: 6}}, 0},
		{call(connect6, far, last), api.Values{1: {IP: 7, Port: 8}}, 0},
		{call(connect6, 0, last+1), api.Values{}, api.EFAULT}, // ahead of its being no address
		{call(connect6, 0, 150), api.Values{}, api.EINVAL},
		{call(connect6, 0, far-3), api.Values{}, api.EFAULT},
		{call(send8, far, far, 128, far), api.Values{2: {IP: 5, Port: 6}}, 0},
		{call(send8, 0, 0, 0), api.Values{}, api.EINVAL},
	} {
		want := done(1, x.c, x.v)
		if x.errno != 0 {
			want = refused(1, x.c, x.errno)
		}
		wantEnd(t, w, x.c, want, 2)
	}
	enter(t, w, 0, call(stat4, 192))
	wantSteps(t, w, 0, 1, 1)
	wantPhase(t, w, 0, Exec)
	wantSealed(t, w, 0)
	put(t, w, 192, "/q\x00") // it was not read yet
	wantSteps(t, w, 0, 9, 1)
	wantLog(t, w, done(0, call(stat4, 192), path("/q")))
}

// G3, W2: behind Snap, whatever is done to memory, at each moment, changes nothing.
func TestBehindSnap(t *testing.T) {
	allowed := policyOf(deny(1), rule(allow, rename5, like(0, "/tmp/*"), like(1, "/tmp/*")), rule(allow, send8, in(2, api.Net{IP: 10 << 24, Bits: 8, Hi: 99})))
	for _, c := range []api.Call{call(rename5, 0, 64), call(send8, 1, 2, 128, 3)} {
		for _, phase := range []int{Judge, Seal, Exec} {
			w := newWard(t, allowed)
			put(t, w, 0, "/tmp/x\x00")
			put(t, w, 64, "/tmp/y\x00")
			put(t, w, 128, addrBytes(t, 10<<24, 9))
			want := done(0, c, valuesOf(t, w.Mem(), c))
			enter(t, w, 0, c)
			upTo(t, w, 0, phase)
			for n := range api.Pages {
				put(t, w, uint64(n*api.Page), strings.Repeat("/etc/", 12))
				if n%2 == 0 {
					wantErr(t, "Unmap", w.Unmap(n), nil)
				}
			}
			for a := uint64(sealedAt); a < sealedAt+api.Seals*api.Page; a += 8 {
				wantErr(t, "Put", w.Put(a, "/etc"), api.ErrFault)
			}
			for n := api.Pages; n < api.Pages+api.Seals; n++ {
				wantErr(t, "Map", w.Map(n, true), api.ErrFault)
				wantErr(t, "Unmap", w.Unmap(n), api.ErrFault)
			}
			steps(t, w, 0, 9)
			wantLog(t, w, want)
		}
	}
}

// G1, Z2: what comes out of Log is the caller's.
func TestLogIsCopy(t *testing.T) {
	w := newWard(t, policyOf(allow))
	var want []api.Entry
	for i := range 20 {
		l := w.Log()
		_ = append(l, killed(9, call(9)))
		enter(t, w, i%3, call(read0, uint64(i)))
		steps(t, w, i%3, 9)
		want = append(want, done(i%3, call(read0, uint64(i)), api.Values{}))
		if len(l) != i {
			t.Errorf("%d entries, want %d", len(l), i)
		}
		for k := range l {
			l[k] = api.Entry{}
		}
		wantLog(t, w, want...)
	}
}

// Z2: a policy stays as it is, also what stands behind its lists; it may be written into later: the ward's is its own.
func TestPolicyIsCopy(t *testing.T) {
	conds := []api.Cond{like(0, "/x"), {Arg: 1, Op: api.Is, V: 3}, {Arg: 9}}
	rules := []api.Rule{rule(allow, open2, conds[:2]...), rule(kill, close3), rule(kill, -5)}
	before := fmt.Sprint(conds, rules)
	w := newWard(t, policyOf(deny(1), rules[:2]...))
	put(t, w, 0, "/x\x00")
	enter(t, w, 0, call(open2, 0, 3))
	upTo(t, w, 0, Judge)
	if after := fmt.Sprint(conds, rules); after != before {
		t.Errorf("%s was %s", after, before)
	}
	rules[1] = rule(allow, close3)
	conds[0], conds[1] = like(0, "/y"), api.Cond{}
	rules[0] = api.Rule{}
	other := w.Copy()
	for _, w := range []*Ward{w, other} {
		wantSteps(t, w, 0, 9, 3)
		enter(t, w, 1, call(open2, 0, 4))
		wantSteps(t, w, 1, 9, 1)
		enter(t, w, 1, call(close3))
		wantSteps(t, w, 1, 9, 1)
		wantLog(t, w, done(0, call(open2, 0, 3), path("/x")), refused(1, call(open2, 0, 4), 1), killed(1, call(close3)))
	}
}

// G1: a copy is like what it was made of, at each step, and both go on apart.
func TestCopy(t *testing.T) {
	w := newWard(t, looked)
	put(t, w, 0, "/one\x00")
	put(t, w, 64, "/two\x00")
	c := call(rename5, 0, 64)
	enter(t, w, 2, call(read0))
	wantSteps(t, w, 2, 9, 1)
	first := refused(2, call(read0), 99)
	enter(t, w, 0, c)
	for w.Phase(0) != Idle {
		other := w.Copy()
		before := look(w)
		if look(other) != before {
			t.Fatal("a copy is not like what it was made of")
		}
		if other.Phase(0) > Snap { // what is read later counts
			wantErr(t, "Unmap", other.Unmap(0), nil)
			put(t, other, 64, "/etc\x00")
		}
		steps(t, other, 0, 99)
		enter(t, other, 1, call(stat4, 64))
		steps(t, other, 1, 3)
		if look(w) != before {
			t.Fatalf("in phase %d one was changed with its copy", w.Phase(0))
		}
		if l := other.Log(); !slices.Equal(l, []api.Entry{first, done(0, c, path("/one", "/two"))}) {
			t.Errorf("in phase %d: the copy's log is %v", w.Phase(0), l)
		}
		before = look(other)
		wantSteps(t, w, 0, 1, 1)
		if look(other) != before {
			t.Fatalf("in phase %d a copy was changed with what it was made of", w.Phase(0))
		}
	}
	wantLog(t, w, first, done(0, c, path("/one", "/two")))
}

// G1: copies whose logs, and whose paths that are being read, grow apart.
func TestCopiesGrowApart(t *testing.T) {
	for ahead := range 9 {
		w := newWard(t, looked)
		put(t, w, 0, "abcdefghijkl\x00")
		for range ahead {
			enter(t, w, 1, call(read0))
			steps(t, w, 1, 9)
		}
		enter(t, w, 0, call(stat4, 0))
		steps(t, w, 0, 1+ahead)
		other := w.Copy()
		put(t, w, 0, "ABCDEFGHIJKL\x00")
		put(t, other, 0, "0123456789..\x00")
		for range 9 {
			steps(t, w, 0, 2)
			steps(t, other, 0, 2)
		}
		for _, x := range []struct {
			w *Ward
			s string
		}{{w, "abcdefghijkl"[:ahead] + "ABCDEFGHIJKL"[ahead:]}, {other, "abcdefghijkl"[:ahead] + "0123456789.."[ahead:]}} {
			l := x.w.Log()
			if len(l) != ahead+1 || l[ahead] != done(0, call(stat4, 0), path(x.s)) {
				t.Errorf("Log() = %v, want %q last", l, x.s)
			}
		}
	}
}
