package ward

import (
	"slices"
	"strings"
	"testing"

	"doorward/addr"
	"doorward/api"
	"doorward/mem"
	"doorward/policy"
)

// drawer gives numbers that look drawn, the same each time.
func drawer(seed uint64) func(n int) int {
	return func(n int) int {
		seed = seed*6364136223846793005 + 1442695040888963407
		return int(seed>>33) % n
	}
}

// errnos that errors of memory and of addresses come to.
var errnos = map[error]int{api.ErrFault: api.EFAULT, api.ErrLong: api.ENAMETOOLONG, api.ErrShape: api.EINVAL}

// follow all pointers of a call at once; the number of the denial, if one can't be followed.
func follow(m *mem.Mem, c api.Call) (api.Values, int) {
	var v api.Values
	for i, kind := range api.Forms()[c.Nr].Args {
		var err error
		switch kind {
		case api.Path:
			v[i].Path, err = m.Text(c.Args[i])
		case api.Addr:
			var s string
			if s, err = m.Get(c.Args[i], api.AddrBytes); err == nil {
				v[i].IP, v[i].Port, err = addr.Read(s)
			}
		}
		if err != nil {
			return api.Values{}, errnos[err]
		}
	}
	return v, 0
}

// wanted gives what a call comes to, if nobody else does anything meanwhile.
func wanted(t *testing.T, p api.Policy, m *mem.Mem, n int, c api.Call) api.Entry {
	t.Helper()
	v, err := policy.Judge(p, c)
	wantErr(t, "policy.Judge", err, nil)
	var values api.Values
	if do := v.Do.Kind; do == api.Trace || do == api.Allow {
		if c.Nr >= api.Calls {
			return refused(n, c, api.ENOSYS)
		}
		var errno int
		if values, errno = follow(m, c); errno != 0 {
			return refused(n, c, errno)
		}
		v.Do, err = policy.Decide(p, c, values)
		wantErr(t, "policy.Decide", err, nil)
	}
	switch v.Do.Kind {
	case api.Allow:
		return done(n, c, values)
	case api.Deny:
		return refused(n, c, v.Do.Errno)
	}
	return killed(n, c)
}

func drawAction(draw func(int) int) api.Action {
	return []api.Action{allow, allow, allow, kill, deny(1 + draw(api.MaxErrno))}[draw(5)]
}

// drawPolicy gives one that is right, with many conds on pointers.
func drawPolicy(draw func(int) int) api.Policy {
	p := policyOf(drawAction(draw))
	for range draw(api.MaxRules + 1) {
		r := rule(drawAction(draw), draw(api.Calls))
		for arg, kind := range api.Forms()[r.Nr].Args {
			if draw(3) == 0 {
				continue
			}
			switch kind {
			case api.Num:
				if draw(3) == 0 {
					r.Conds = append(r.Conds, api.Cond{Arg: arg, Op: api.Is + draw(6), V: uint64(draw(3) * api.Page)})
				}
			case api.Path:
				r.Conds = append(r.Conds, like(arg, []string{"**", "/*", "/tmp/**", "*x*", "[!y]*"}[draw(5)]))
			case api.Addr:
				r.Conds = append(r.Conds, in(arg, []api.Net{everyNet, {IP: 10 << 24, Bits: 8, Lo: 80, Hi: 90}}[draw(2)]))
			}
		}
		p.Rules = append(p.Rules, r)
	}
	return p
}

// drawBytes gives what may stand in memory: paths, addresses, others.
func drawBytes(draw func(int) int) string {
	switch draw(8) {
	case 0, 1:
		s, _ := addr.Bytes([]uint32{10<<24 + 1, 11 << 24}[draw(2)], 79+draw(4))
		return s
	case 2:
		return strings.Repeat("x", draw(api.MaxPath+4)) + "\x00"
	case 3:
		return "\x00"
	case 4:
		return string([]byte{byte(draw(256))})
	}
	return []string{"/tmp/x\x00", "/etc\x00", "/\x00", "y/x\x00"}[draw(4)]
}

// drawAddress gives one at the beginning of a page, most often, or of what may be sealed.
func drawAddress(draw func(int) int) uint64 {
	if draw(12) == 0 {
		return uint64(draw((api.Pages + api.Seals) * api.Page))
	}
	return uint64(draw(api.Pages+1) * api.Page)
}

func drawCall(draw func(int) int) api.Call {
	c := call([]uint32{uint32(draw(api.Calls)), rename5, link7}[draw(3)]) // most have two pointers
	switch draw(30) {
	case 0:
		c.Nr = api.Calls
	case 1:
		c.Arch++
	}
	for i := range c.Args {
		c.Args[i] = drawAddress(draw)
	}
	return c
}

// drawMemory does something to memory that threads may do, or may not.
func drawMemory(draw func(int) int, w *Ward) {
	switch draw(12) {
	case 0:
		_ = w.Unmap(draw(api.Pages))
	case 1, 2:
		_ = w.Map(draw(api.Pages), draw(3) > 0)
	default:
		_ = w.Put(drawAddress(draw), drawBytes(draw))
	}
}

// drawWard gives one whose pages hold something.
func drawWard(t *testing.T, draw func(int) int, p api.Policy) *Ward {
	t.Helper()
	w := newWard(t, p)
	for n := range api.Pages {
		put(t, w, uint64(n*api.Page), drawBytes(draw))
	}
	for range 9 {
		drawMemory(draw, w)
	}
	return w
}

// G2: what drawn calls of drawn policies come to, if memory stays as it is; all that can come of one is among them.
func TestDrawnQuiet(t *testing.T) {
	draw := drawer(1)
	seen := map[[2]int]int{}
	for range 400 {
		p := drawPolicy(draw)
		w := drawWard(t, draw, p)
		for range 40 {
			n, c := draw(api.Threads), drawCall(draw)
			if w.Phase(n) == Dead {
				continue
			}
			want := append(w.Log(), wanted(t, p, w.Mem(), n, c))
			enter(t, w, n, c)
			if k := steps(t, w, n, 99); k > mostSteps {
				t.Errorf("%v: %d steps", c, k)
			}
			wantLog(t, w, want...)
			wantSealed(t, w, 0)
			last := want[len(want)-1]
			seen[[2]int{last.Kind, last.Errno}]++
			drawMemory(draw, w)
		}
	}
	for _, x := range [][2]int{{api.Done, 0}, {api.Killed, 0}, {api.Refused, api.EFAULT}, {api.Refused, api.ENAMETOOLONG}, {api.Refused, api.EINVAL}, {api.Refused, api.ENOSYS}} {
		if seen[x] < 20 {
			t.Errorf("of kind and errno %v only %d were seen", x, seen[x])
		}
	}
}

// watch: what must be true of a ward, whatever is done.
type watch struct {
	w      *Ward
	p      api.Policy
	log    []api.Entry
	calls  [api.Threads]api.Call
	done   [api.Threads]int  // steps of the call
	looked [api.Threads]bool // it was in the phase Seal
}

// step of a thread, if it can do one; what has ended is as it must be.
func (x *watch) step(t *testing.T, n int) {
	t.Helper()
	was := x.w.Phase(n)
	did, err := x.w.Step(n)
	if did != (was != Idle && was != Dead) || (err == nil) == (was == Dead) {
		t.Fatalf("in phase %d: Step = %v, %v", was, did, err)
	}
	if did {
		x.done[n]++
	}
	x.looked[n] = was != Filter && (was == Seal || x.looked[n])
	l := x.w.Log()
	if x.done[n] > mostSteps || len(l) < len(x.log) || len(l) > len(x.log)+1 || !slices.Equal(l[:len(x.log)], x.log) {
		t.Fatalf("step %d: the log was %v, is %v", x.done[n], x.log, l)
	}
	if len(l) == len(x.log) {
		return
	}
	x.log = l
	last := l[len(l)-1]
	if last.Thread != n || last.Call != x.calls[n] {
		t.Fatalf("%v is not of %d, %v", last, n, x.calls[n])
	}
	if a, err := policy.Decide(x.p, last.Call, last.Values); last.Kind == api.Done && (a != allow || err != nil) {
		t.Fatalf("%v was done: Decide = %v, %v", last, a, err)
	}
}

// sealed: the pages of calls that are about to be executed, no others.
func (x *watch) sealed(t *testing.T) {
	t.Helper()
	want := 0
	for n := range api.Threads {
		if x.w.Phase(n) != Exec || !x.looked[n] {
			continue
		}
		for _, kind := range api.Forms()[x.calls[n].Nr].Args {
			if kind == api.Path || kind == api.Addr {
				want++
			}
		}
	}
	wantSealed(t, x.w, want)
}

// same: two wards, of which one's memory is written into from here on, come to the same of a call that was read.
func (x *watch) same(t *testing.T, draw func(int) int, n int) {
	t.Helper()
	quiet, wild := x.w.Copy(), x.w.Copy()
	steps(t, quiet, n, mostSteps)
	for wild.Phase(n) != Idle && wild.Phase(n) != Dead {
		for range 6 {
			drawMemory(draw, wild)
		}
		steps(t, wild, n, 1)
	}
	if !slices.Equal(quiet.Log(), wild.Log()) {
		t.Fatalf("%v, but %v, if others write", quiet.Log(), wild.Log())
	}
}

// G3, W1, W2, W4: threads by turns, while memory is written into.
func TestDrawnWild(t *testing.T) {
	draw := drawer(2)
	var seen [api.Killed + 1]int
	memless := 0
	for range 300 {
		p := drawPolicy(draw)
		if draw(2) == 0 {
			p = looked
		}
		x := &watch{w: drawWard(t, draw, p), p: p}
		for range 400 {
			n := draw(api.Threads)
			switch draw(8) {
			case 0:
				drawMemory(draw, x.w)
			case 1:
				if c := drawCall(draw); x.w.Enter(n, c) == nil {
					x.calls[n], x.done[n] = c, 0
				}
			case 2:
				x.w = x.w.Copy()
			default:
				for range draw(20) {
					if x.w.Phase(n) == Exec && draw(10) > 0 { // others may come to be there, too
						break
					}
					x.step(t, n)
					x.sealed(t)
				}
			}
			if k := x.w.Phase(n); k > Snap && k < Exec || k == Exec && x.looked[n] {
				x.same(t, draw, n)
			}
		}
		for _, e := range x.log {
			seen[e.Kind]++
			if e.Errno == api.ENOMEM && e.Kind == api.Refused {
				memless++
			}
		}
	}
	if seen[api.Done] < 500 || seen[api.Refused] < 500 || seen[api.Killed] < 50 || memless < 50 {
		t.Errorf("seen: %v, without a page left: %d", seen, memless)
	}
}
