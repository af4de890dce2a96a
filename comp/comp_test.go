package comp

import (
	"fmt"
	"math"
	"slices"
	"testing"

	"doorward/api"
	"doorward/bpf"
	"doorward/policy"
)

// Numbers of calls.
const (
	read0 = iota
	write1
	open2
	close3
	stat4
	rename5
	connect6
	link7
	send8
)

var (
	allow = api.Action{Kind: api.Allow}
	kill  = api.Action{Kind: api.Kill}
	trace = api.Action{Kind: api.Trace}
)

func deny(n int) api.Action {
	return api.Action{Kind: api.Deny, Errno: n}
}

func num(arg, op int, v uint64) api.Cond {
	return api.Cond{Arg: arg, Op: op, V: v}
}

func masked(arg int, m, v uint64) api.Cond {
	return api.Cond{Arg: arg, Op: api.Masked, M: m, V: v}
}

func like(arg int, g string) api.Cond {
	return api.Cond{Arg: arg, Op: api.Like, Glob: g}
}

func in(arg int, n api.Net) api.Cond {
	return api.Cond{Arg: arg, Op: api.In, Net: n}
}

func rule(do api.Action, nr int, l ...api.Cond) api.Rule {
	return api.Rule{Nr: nr, Conds: l, Do: do}
}

func policyOf(other api.Action, l ...api.Rule) api.Policy {
	return api.Policy{Rules: l, Else: other}
}

// call of the only arch that isn't killed.
func call(nr uint32, args ...uint64) api.Call {
	c := api.Call{Arch: api.Arch, Nr: nr}
	copy(c.Args[:], args)
	return c
}

var ten = api.Net{IP: 10 << 24, Bits: 8, Lo: 80, Hi: 90}

// session: the policy of the document's session.
var session = policyOf(deny(1),
	rule(allow, close3),
	rule(allow, open2, like(0, "/tmp/**"), masked(1, 3, 0)),
	rule(deny(13), open2),
	rule(allow, connect6, in(1, ten)),
	rule(kill, write1, num(1, api.More, 4294967296)),
	rule(allow, rename5, like(0, "/a/*"), like(1, "/a/[!x]*")))

// edges of numbers, and of their halves.
var edges = []uint64{
	0, 1, 2, 1<<31 - 1, 1 << 31, 1<<32 - 1, 1 << 32, 1<<32 + 1, 2<<32 - 1, 2 << 32, 2<<32 + 2,
	1<<63 - 1, 1 << 63, 1<<63 + 1<<31, 0xfffffffe << 32, 0xfffffffe<<32 + 1<<32 - 1, math.MaxUint32 << 32, math.MaxUint64 - 1, math.MaxUint64,
}

// drawer gives numbers that look drawn, the same each time.
func drawer(seed uint64) func(n int) int {
	return func(n int) int {
		seed = seed*6364136223846793005 + 1442695040888963407
		return int(seed>>33) % n
	}
}

func drawAction(draw func(int) int) api.Action {
	return []api.Action{allow, kill, deny(1 + draw(api.MaxErrno))}[draw(3)]
}

// drawNumber gives an edge, or one of a few, so that some are met again.
func drawNumber(draw func(int) int) uint64 {
	if draw(2) == 0 {
		return edges[draw(len(edges))]
	}
	return uint64(draw(3))<<32 + uint64(draw(3))
}

// drawCond gives one that is right of an argument of this kind.
func drawCond(draw func(int) int, arg, kind int) api.Cond {
	switch kind {
	case api.Path:
		return like(arg, []string{"/a/*", "/**", "[!a]*"}[draw(3)])
	case api.Addr:
		return in(arg, ten)
	}
	if op := api.Is + draw(7); op != api.Masked {
		return num(arg, op, drawNumber(draw))
	}
	m := drawNumber(draw)
	return masked(arg, m, drawNumber(draw)&m)
}

// drawPolicy gives one that is right; its rules are of few calls, so that several may fit one.
func drawPolicy(draw func(int) int) api.Policy {
	p := policyOf(drawAction(draw))
	for range draw(api.MaxRules + 1) {
		r := rule(drawAction(draw), []int{write1, open2, send8, draw(api.Calls)}[draw(4)])
		kinds := api.Forms()[r.Nr].Args
		for range draw(api.MaxConds + 1) {
			if arg := draw(api.Args); kinds[arg] == api.Num || kinds[arg] != api.None && draw(3) == 0 {
				r.Conds = append(r.Conds, drawCond(draw, arg, kinds[arg]))
			}
		}
		p.Rules = append(p.Rules, r)
	}
	return p
}

// drawCall gives one that is most often of a call of the policy.
func drawCall(draw func(int) int, p api.Policy) api.Call {
	c := call(uint32(draw(api.Calls + 1)))
	if len(p.Rules) > 0 && draw(8) > 0 {
		c.Nr = uint32(p.Rules[draw(len(p.Rules))].Nr)
	}
	for i := range c.Args {
		c.Args[i] = drawNumber(draw)
	}
	if draw(20) == 0 {
		c.Arch ^= 1 << draw(32)
	}
	return c
}

// compile gives the program of a policy that is right; it must be right, too.
func compile(t *testing.T, p api.Policy) []api.Insn {
	t.Helper()
	l, err := Compile(p)
	if err != nil {
		t.Fatalf("Compile(%v): %v", p, err)
	}
	if err := bpf.Check(l); err != nil {
		t.Fatalf("Compile(%v) = %v: Check: %v", p, l, err)
	}
	return l
}

// returns: what the program returns of a call is that verdict.
func returns(t *testing.T, l []api.Insn, c api.Call, want api.Verdict) {
	t.Helper()
	n, steps, err := bpf.Run(l, c)
	if err != nil || steps > len(l) {
		t.Fatalf("Run(%v, %v) = %d, %d, %v", l, c, n, steps, err)
	}
	if v, err := Verdict(n); v != want || err != nil {
		t.Errorf("%v of %v: %#x: %v, %v, want %v", l, c, n, v, err, want)
	}
}

// returnsJudged: what the program returns of a call is what the policy tells.
func returnsJudged(t *testing.T, p api.Policy, l []api.Insn, c api.Call) api.Verdict {
	t.Helper()
	want, err := policy.Judge(p, c)
	if err != nil {
		t.Fatalf("Judge(%v, %v): %v", p, c, err)
	}
	returns(t, l, c, want)
	return want
}

// F1: the session's verdicts.
func TestCompileSession(t *testing.T) {
	l := compile(t, session)
	returns(t, l, call(close3), api.Verdict{Do: allow})
	returns(t, l, call(open2, 0, 1), api.Verdict{Do: deny(13)})
	returns(t, l, call(open2, 0, 4), api.Verdict{Do: trace, Rule: 1})
	returns(t, l, call(open2, 1, 1<<63), api.Verdict{Do: trace, Rule: 1})
	returns(t, l, call(write1, 0, 4294967297), api.Verdict{Do: kill})
	returns(t, l, call(write1, 0, 4294967296), api.Verdict{Do: deny(1)})
	returns(t, l, call(write1, 4294967297), api.Verdict{Do: deny(1)})
	returns(t, l, call(connect6), api.Verdict{Do: trace, Rule: 3})
	returns(t, l, call(rename5), api.Verdict{Do: trace, Rule: 5})
	returns(t, l, call(read0), api.Verdict{Do: deny(1)})
}

// F1: policies without rules, and each action, as Else and as a rule's.
func TestCompileActions(t *testing.T) {
	all := []api.Action{allow, kill}
	for n := range api.MaxErrno {
		all = append(all, deny(n+1))
	}
	for _, do := range all {
		l := compile(t, policyOf(do))
		returns(t, l, call(read0), api.Verdict{Do: do})
		returns(t, l, call(send8, 1, 2, 3, 4), api.Verdict{Do: do})
		l = compile(t, policyOf(deny(77), rule(do, close3)))
		returns(t, l, call(close3, 5), api.Verdict{Do: do})
		returns(t, l, call(open2, 5), api.Verdict{Do: deny(77)})
	}
}

// F1: another arch is killed, whatever the policy allows.
func TestCompileArch(t *testing.T) {
	for _, p := range []api.Policy{policyOf(allow), policyOf(deny(1), rule(allow, read0)), policyOf(allow, rule(allow, stat4, like(0, "**")))} {
		l := compile(t, p)
		for i := range 32 {
			for nr := range uint32(api.Calls + 1) {
				returns(t, l, api.Call{Arch: api.Arch ^ 1<<i, Nr: nr}, api.Verdict{Do: kill})
			}
		}
		for _, arch := range []uint32{0, api.Arch - 1, api.Arch + 1, math.MaxUint32} {
			returns(t, l, api.Call{Arch: arch}, api.Verdict{Do: kill})
		}
	}
}

// F1: a rule is of its call alone; numbers of no call have no rule.
func TestCompileNumbersOfCalls(t *testing.T) {
	p := policyOf(deny(200))
	for nr := range api.Calls {
		p.Rules = append(p.Rules, rule(deny(1+nr), nr))
	}
	l := compile(t, p)
	for nr := range api.Calls {
		returns(t, l, call(uint32(nr)), api.Verdict{Do: deny(1 + nr)})
		for i := 4; i < 32; i++ {
			returns(t, l, call(uint32(nr)|1<<i), api.Verdict{Do: deny(200)})
		}
	}
	for _, nr := range []uint32{9, 10, 15, 256, 1 << 16, 1 << 31, api.Arch, math.MaxUint32} {
		returns(t, l, call(nr, 1, 2, 3, 4), api.Verdict{Do: deny(200)})
	}
}

// F1: conds of every op, at every edge of both halves, alone and behind one that holds; only their own argument counts.
func TestCompileConds(t *testing.T) {
	for op := api.Is; op <= api.Masked; op++ {
		for _, v := range edges {
			x := num(1, op, v)
			p := policyOf(kill, rule(deny(3), write1, x), rule(allow, write1))
			q := policyOf(kill, rule(deny(4), write1, num(0, api.Least, 0), x, num(1, op, v)), rule(deny(5), write1))
			if op == api.Masked {
				p.Rules[0].Conds[0].M = v
				q.Rules[0].Conds[1].M, q.Rules[0].Conds[2].M = v, math.MaxUint64
			}
			l, m := compile(t, p), compile(t, q)
			for _, n := range edges {
				for _, near := range []uint64{n, v, v - 1, v + 1, v ^ n, v - 1<<32, v + 1<<32} {
					returnsJudged(t, p, l, call(write1, ^near, near, ^near, ^near))
					returnsJudged(t, q, m, call(write1, ^near, near, ^near, ^near))
				}
			}
		}
	}
}

// F1: masks, with values that they have, and with such as never hold.
func TestCompileMasked(t *testing.T) {
	for _, m := range edges {
		for _, v := range edges {
			p := policyOf(deny(1), rule(allow, close3, masked(0, m, v)))
			l := compile(t, p)
			for _, n := range edges {
				for _, x := range []uint64{n, v, v | ^m, v &^ m, n&m ^ v} {
					returnsJudged(t, p, l, call(close3, x))
				}
			}
		}
	}
	returns(t, compile(t, policyOf(deny(1), rule(allow, close3, masked(0, 1, 3)))), call(close3, 3), api.Verdict{Do: deny(1)})
	returns(t, compile(t, policyOf(deny(1), rule(allow, close3, masked(0, 1<<32, 3<<32)))), call(close3, 3<<32), api.Verdict{Do: deny(1)})
	returns(t, compile(t, policyOf(deny(1), rule(allow, close3, masked(0, 0, 0)))), call(close3, math.MaxUint64), api.Verdict{Do: allow})
}

// F1: each argument that is a number is found, both its halves.
func TestCompileArguments(t *testing.T) {
	for nr, form := range api.Forms() {
		for arg, kind := range form.Args {
			if kind != api.Num {
				continue
			}
			l := compile(t, policyOf(deny(9), rule(allow, nr, num(arg, api.Is, 5<<32+7))))
			c := call(uint32(nr), 1, 2, 3, 4)
			returns(t, l, c, api.Verdict{Do: deny(9)})
			c.Args[arg] = 5<<32 + 7
			returns(t, l, c, api.Verdict{Do: allow})
			for _, n := range []uint64{7<<32 + 5, 5 << 32, 7, 5<<32 + 6, 4<<32 + 7} {
				c.Args[arg] = n
				returns(t, l, c, api.Verdict{Do: deny(9)})
			}
		}
	}
}

// F1: the first rule that fits tells, all of whose conds on numbers hold; a deep one is traced by its place, whatever it does.
func TestCompileOrder(t *testing.T) {
	l := compile(t, policyOf(deny(9),
		rule(deny(1), send8, num(0, api.Is, 1), num(1, api.Is, 2), num(3, api.Is, 3)),
		rule(deny(2), send8, num(0, api.Is, 1), in(2, ten), num(1, api.Is, 2)),
		rule(allow, read0, num(0, api.Is, 1)),
		rule(kill, send8, in(2, ten), in(2, ten), num(0, api.Most, 1), num(0, api.Not, 0)),
		rule(kill, send8, num(0, api.Is, 2)),
		rule(deny(4), send8, num(0, api.Is, 1))))
	returns(t, l, call(send8, 1, 2, 0, 3), api.Verdict{Do: deny(1)})
	returns(t, l, call(send8, 1, 2, 3, 0), api.Verdict{Do: trace, Rule: 1})
	returns(t, l, call(send8, 1, 0, 0, 3), api.Verdict{Do: trace, Rule: 3})
	returns(t, l, call(send8, 2, 2, 0, 3), api.Verdict{Do: kill})
	returns(t, l, call(send8, 3, 2, 0, 3), api.Verdict{Do: deny(9)})
	returns(t, l, call(read0, 1), api.Verdict{Do: allow})
	returns(t, l, call(write1, 1), api.Verdict{Do: deny(9)})
}

// F1: a deep rule is traced at every place; whatever its pointer is.
func TestCompileDeep(t *testing.T) {
	for at := range api.MaxRules {
		p := policyOf(allow)
		for range at {
			p.Rules = append(p.Rules, rule(kill, stat4, like(0, "/a")), rule(deny(3), open2, num(1, api.More, 0)))
		}
		p.Rules = append(p.Rules[:at:at], rule(deny(6), connect6, in(1, ten)))
		l := compile(t, p)
		for _, n := range edges {
			returns(t, l, call(connect6, n, n), api.Verdict{Do: trace, Rule: at})
			returnsJudged(t, p, l, call(stat4, n))
			returnsJudged(t, p, l, call(open2, n, n))
		}
	}
}

// F1: the greatest policies; a cond that fails anywhere leads to the next rule.
func TestCompileGreatest(t *testing.T) {
	for op := api.Is; op <= api.Masked; op++ {
		p := policyOf(kill)
		for i := range api.MaxRules {
			r := rule(deny(1+i), read0)
			for j := range api.MaxConds {
				x := num(j%2, op, uint64(i)<<32+uint64(i))
				if op == api.Masked {
					x.M = math.MaxUint64
				}
				r.Conds = append(r.Conds, x)
			}
			p.Rules = append(p.Rules, r)
		}
		l := compile(t, p)
		for i := range uint64(api.MaxRules + 1) {
			for _, n := range []uint64{i << 32, i, i<<32 + i, i<<32 + i + 1, i<<32 + i - 1} {
				returnsJudged(t, p, l, call(read0, n, n))
				returnsJudged(t, p, l, call(read0, n, i<<32+i))
				returnsJudged(t, p, l, call(read0, i<<32+i, n))
			}
		}
	}
}

// F1, W3: drawn policies, of drawn calls; every kind of verdict is among them.
func TestCompileDrawn(t *testing.T) {
	draw := drawer(1)
	var seen [api.Trace + 1]int
	for range 2000 {
		p := drawPolicy(draw)
		l := compile(t, p)
		for range 50 {
			seen[returnsJudged(t, p, l, drawCall(draw, p)).Do.Kind]++
		}
	}
	for _, kind := range []int{api.Allow, api.Deny, api.Kill, api.Trace} {
		if seen[kind] < 1000 {
			t.Errorf("of kind %d only %d were seen", kind, seen[kind])
		}
	}
}

// F1, W5: a program's bytes are read again.
func TestCompileBytes(t *testing.T) {
	draw := drawer(2)
	for range 200 {
		l := compile(t, drawPolicy(draw))
		s, err := bpf.Bytes(l)
		if err != nil {
			t.Fatal(err)
		}
		if back, err := bpf.Parse(s); !slices.Equal(back, l) || err != nil {
			t.Errorf("Parse(%x) = %v, %v, want %v", s, back, err, l)
		}
	}
}

// F1, Z1: of a policy that is not right Check's error, and no program.
func TestCompileWrong(t *testing.T) {
	many := make([]api.Rule, api.MaxRules+1)
	for i := range many {
		many[i] = rule(allow, read0)
	}
	five := num(0, api.Is, 1)
	for _, x := range []struct {
		p    api.Policy
		want error
	}{
		{api.Policy{}, api.ErrShape},
		{api.Policy{Rules: many}, api.ErrMany},
		{policyOf(allow, many...), api.ErrMany},
		{policyOf(trace), api.ErrShape},
		{policyOf(api.Action{Kind: api.Allow, Errno: 1}), api.ErrShape},
		{policyOf(deny(0)), api.ErrBound},
		{policyOf(deny(256)), api.ErrBound},
		{policyOf(deny(math.MinInt)), api.ErrBound},
		{policyOf(allow, rule(allow, -1)), api.ErrBound},
		{policyOf(allow, rule(allow, api.Calls)), api.ErrBound},
		{policyOf(allow, rule(allow, math.MaxInt)), api.ErrBound},
		{policyOf(allow, rule(allow, read0, five, five, five, five, five)), api.ErrMany},
		{policyOf(allow, rule(trace, read0)), api.ErrShape},
		{policyOf(allow, rule(deny(256), read0)), api.ErrBound},
		{policyOf(allow, rule(allow, read0, num(-1, api.Is, 0))), api.ErrBound},
		{policyOf(allow, rule(allow, read0, num(4, api.Is, 0))), api.ErrBound},
		{policyOf(allow, rule(allow, read0, num(0, 0, 0))), api.ErrBound},
		{policyOf(allow, rule(allow, read0, num(0, 10, 0))), api.ErrBound},
		{policyOf(allow, rule(allow, read0, num(2, api.Is, 0))), api.ErrShape},
		{policyOf(allow, rule(allow, open2, num(0, api.Is, 0))), api.ErrShape},
		{policyOf(allow, rule(allow, open2, like(1, "a"))), api.ErrShape},
		{policyOf(allow, rule(allow, open2, like(0, "["))), api.ErrText},
		{policyOf(allow, rule(allow, connect6, in(1, api.Net{Bits: 33}))), api.ErrBound},
		{policyOf(allow, rule(allow, read0, api.Cond{Op: api.Is, M: 1})), api.ErrShape},
	} {
		if l, err := Compile(x.p); len(l) != 0 || err != x.want {
			t.Errorf("Compile(%v) = %v, %v, want %v", x.p, l, err, x.want)
		}
		if err := policy.Check(x.p); err != x.want {
			t.Errorf("Check(%v) = %v, want %v", x.p, err, x.want)
		}
	}
}

// Z2: a policy stays as it is, also what stands behind its lists; programs share no memory, and are the same each time.
func TestCompileLists(t *testing.T) {
	behind := rule(kill, read0, masked(9, 9, 9))
	rules := append(slices.Clone(session.Rules), behind)
	conds := append(slices.Clone(session.Rules[1].Conds), masked(8, 8, 8))
	p := policyOf(session.Else, rules[:len(session.Rules)]...)
	p.Rules[1].Conds = conds[:len(conds)-1]
	before := fmt.Sprint(rules, conds)
	want := slices.Clone(compile(t, session))
	for range 20 {
		l := compile(t, p)
		if !slices.Equal(l, want) {
			t.Fatalf("Compile(%v) = %v, then %v", p, want, l)
		}
		for i := range l {
			l[i] = api.Insn{Op: 99}
		}
		_ = append(l, l...)
	}
	if after := fmt.Sprint(rules, conds); after != before {
		t.Errorf("%s was %s", after, before)
	}
}

// verdictIs: what Verdict says.
func verdictIs(t *testing.T, n uint32, want api.Verdict, wantErr error) {
	t.Helper()
	if v, err := Verdict(n); v != want || err != wantErr {
		t.Errorf("Verdict(%#x) = %v, %v, want %v, %v", n, v, err, want, wantErr)
	}
}

// named gives the numbers that are verdicts.
func named() map[uint32]api.Verdict {
	l := map[uint32]api.Verdict{0: {Do: kill}, 0x7fff0000: {Do: allow}}
	for i := range 255 {
		l[0x00050001+uint32(i)] = api.Verdict{Do: deny(1 + i)}
	}
	for i := range 12 {
		l[0x7ff00000+uint32(i)] = api.Verdict{Do: trace, Rule: i}
	}
	return l
}

// F2: each number that is a verdict, and the edges.
func TestVerdict(t *testing.T) {
	for n, want := range named() {
		verdictIs(t, n, want, nil)
	}
	for _, n := range []uint32{
		1, 2, 0xffff, 0x4ffff, 0x50000, 0x50100, 0x50101, 0x5ffff, 0x60000, 0x60001,
		0x7fefffff, 0x7ff0000c, 0x7ff0000d, 0x7ff0ffff, 0x7ff10000, 0x7ffeffff, 0x7fff0001, 0x7fffffff,
		0x80000000, 0x80050001, 0xfff00000, 0xffff0000, math.MaxUint32,
	} {
		verdictIs(t, n, api.Verdict{}, api.ErrShape)
	}
}

// F2: no other number is one: all whose higher half is one of these, or near one, and many others.
func TestVerdictNone(t *testing.T) {
	is := named()
	try := func(n uint32) {
		if want, ok := is[n]; ok {
			verdictIs(t, n, want, nil)
		} else {
			verdictIs(t, n, api.Verdict{}, api.ErrShape)
		}
	}
	for _, high := range []uint32{0, 1, 4, 5, 6, 0x7fef, 0x7ff0, 0x7ff1, 0x7ffe, 0x7fff, 0x8000, 0x8005, 0xfff0, 0xffff} {
		for low := range uint32(1 << 16) {
			try(high<<16 + low)
		}
	}
	for high := range uint32(1 << 16) {
		for _, low := range []uint32{0, 1, 5, 11, 12, 255, 256, 0xffff} {
			try(high<<16 + low)
		}
	}
}
