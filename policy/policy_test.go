package policy

import (
	"fmt"
	"math"
	"slices"
	"strings"
	"testing"

	"doorward/addr"
	"doorward/api"
	"doorward/glob"
)

// Numbers of calls.
const (
	read0 = iota
	write1
	open2
	close3
	stat4
	rename5
	connect6
	link7
	send8
)

var (
	allow = api.Action{Kind: api.Allow}
	kill  = api.Action{Kind: api.Kill}
)

func deny(n int) api.Action {
	return api.Action{Kind: api.Deny, Errno: n}
}

func num(arg, op int, v uint64) api.Cond {
	return api.Cond{Arg: arg, Op: op, V: v}
}

func masked(arg int, m, v uint64) api.Cond {
	return api.Cond{Arg: arg, Op: api.Masked, M: m, V: v}
}

func like(arg int, g string) api.Cond {
	return api.Cond{Arg: arg, Op: api.Like, Glob: g}
}

func in(arg int, n api.Net) api.Cond {
	return api.Cond{Arg: arg, Op: api.In, Net: n}
}

func rule(do api.Action, nr int, l ...api.Cond) api.Rule {
	return api.Rule{Nr: nr, Conds: l, Do: do}
}

func policyOf(other api.Action, l ...api.Rule) api.Policy {
	return api.Policy{Rules: l, Else: other}
}

// call of the only arch that isn't killed.
func call(nr uint32, args ...uint64) api.Call {
	c := api.Call{Arch: api.Arch, Nr: nr}
	copy(c.Args[:], args)
	return c
}

var ten = api.Net{IP: 10 << 24, Bits: 8, Lo: 80, Hi: 90}

// session: the policy of the document's session, and its text.
var session = policyOf(deny(1),
	rule(allow, close3),
	rule(allow, open2, like(0, "/tmp/**"), masked(1, 3, 0)),
	rule(deny(13), open2),
	rule(allow, connect6, in(1, ten)),
	rule(kill, write1, num(1, api.More, 4294967296)),
	rule(allow, rename5, like(0, "/a/*"), like(1, "/a/[!x]*")))

const sessionText = `else deny 1
allow close
allow open if 0 ~ "/tmp/**" and 1 & 3 == 0
deny 13 open
allow connect if 1 in 10.0.0.0/8:80-90
kill write if 1 > 4294967296
allow rename if 0 ~ "/a/*" and 1 ~ "/a/[!x]*"
`

// drawer gives numbers that look drawn, the same each time.
func drawer(seed uint64) func(n int) int {
	return func(n int) int {
		seed = seed*6364136223846793005 + 1442695040888963407
		return int(seed>>33) % n
	}
}

var edges = []uint64{0, 1, 2, 3, 1<<32 - 1, 1 << 32, 1<<32 + 1, 1<<63 - 1, 1 << 63, math.MaxUint64 - 1, math.MaxUint64}

// drawAction gives one that is right.
func drawAction(draw func(int) int) api.Action {
	return []api.Action{allow, kill, deny(1 + draw(api.MaxErrno))}[draw(3)]
}

// drawCond gives one that is right of an argument of this kind.
func drawCond(draw func(int) int, arg, kind int) api.Cond {
	v := edges[draw(len(edges))]
	switch kind {
	case api.Path:
		return like(arg, []string{"/a/*", "/**", "/a?", "[!a]*", "**"}[draw(5)])
	case api.Addr:
		return in(arg, api.Net{IP: 10 << 24, Bits: 8 + draw(25), Lo: draw(80), Hi: 80 + draw(10)})
	}
	if op := api.Is + draw(7); op != api.Masked {
		return num(arg, op, v)
	}
	return masked(arg, edges[draw(len(edges))], v)
}

// drawPolicy gives one that is right.
func drawPolicy(draw func(int) int) api.Policy {
	p := policyOf(drawAction(draw))
	for range draw(api.MaxRules + 1) {
		r := rule(drawAction(draw), draw(api.Calls))
		for arg, kind := range api.Forms()[r.Nr].Args {
			if kind != api.None && draw(3) > 0 {
				r.Conds = append(r.Conds, drawCond(draw, arg, kind))
			}
		}
		p.Rules = append(p.Rules, r)
	}
	return p
}

func drawCall(draw func(int) int) api.Call {
	c := call(uint32(draw(api.Calls + 1)))
	for i := range c.Args {
		c.Args[i] = edges[draw(len(edges))]
	}
	if draw(20) == 0 {
		c.Arch ^= 1 << draw(32)
	}
	return c
}

func drawValues(draw func(int) int) api.Values {
	var v api.Values
	for i := range v {
		v[i] = api.Value{Path: []string{"/a/b", "/ab", "", "/a/b/c"}[draw(4)], IP: 10<<24 + uint32(draw(3))<<16, Port: 70 + draw(30)}
	}
	return v
}

// same: are two policies, whether or not their empty lists are nil?
func same(p, q api.Policy) bool {
	return p.Else == q.Else && slices.EqualFunc(p.Rules, q.Rules, func(a, b api.Rule) bool {
		return a.Nr == b.Nr && a.Do == b.Do && slices.Equal(a.Conds, b.Conds)
	})
}

// checkIs: what Check says, and all that ask it.
func checkIs(t *testing.T, p api.Policy, want error) {
	t.Helper()
	if err := Check(p); err != want {
		t.Errorf("Check(%v) = %v, want %v", p, err, want)
	}
	if s, err := Text(p); err != want || want != nil && s != "" {
		t.Errorf("Text(%v) = %q, %v, want %v", p, s, err, want)
	}
	for _, arch := range []uint32{api.Arch, 0} { // an error goes ahead of an arch that is killed
		c := api.Call{Arch: arch, Nr: close3}
		if v, err := Judge(p, c); err != want || want != nil && v != (api.Verdict{}) {
			t.Errorf("Judge(%v, %v) = %v, %v, want %v", p, c, v, err, want)
		}
		if a, err := Decide(p, c, api.Values{}); err != want || want != nil && a != (api.Action{}) {
			t.Errorf("Decide(%v, %v) = %v, %v, want %v", p, c, a, err, want)
		}
	}
}

// wrongActions, each with what is wrong with it.
var wrongActions = []struct {
	do   api.Action
	want error
}{
	{api.Action{}, api.ErrShape},
	{api.Action{Kind: -1}, api.ErrShape},
	{api.Action{Kind: api.Trace}, api.ErrShape},
	{api.Action{Kind: 5}, api.ErrShape},
	{api.Action{Kind: math.MaxInt, Errno: math.MinInt}, api.ErrShape},
	{api.Action{Kind: api.Allow, Errno: 1}, api.ErrShape},
	{api.Action{Kind: api.Allow, Errno: -1}, api.ErrShape},
	{api.Action{Kind: api.Allow, Errno: 256}, api.ErrShape},
	{api.Action{Kind: api.Kill, Errno: 1}, api.ErrShape},
	{api.Action{Kind: api.Kill, Errno: math.MinInt}, api.ErrShape},
	{deny(0), api.ErrBound},
	{deny(-1), api.ErrBound},
	{deny(256), api.ErrBound},
	{deny(math.MaxInt), api.ErrBound},
	{deny(math.MinInt), api.ErrBound},
}

// E1: actions.
func TestCheckActions(t *testing.T) {
	for _, x := range wrongActions {
		checkIs(t, policyOf(x.do), x.want)
		checkIs(t, policyOf(allow, rule(x.do, close3)), x.want)
		checkIs(t, policyOf(allow, rule(allow, close3), rule(x.do, open2, num(1, api.Is, 2))), x.want)
	}
	for _, do := range []api.Action{allow, kill, deny(1), deny(2), deny(254), deny(255)} {
		checkIs(t, policyOf(do), nil)
		checkIs(t, policyOf(allow, rule(do, close3)), nil)
	}
}

// E1: how many rules and conds, which calls.
func TestCheckRules(t *testing.T) {
	for n := range 15 {
		p := policyOf(allow)
		r := rule(allow, read0)
		for range n {
			p.Rules = append(p.Rules, rule(kill, close3))
			r.Conds = append(r.Conds, num(1, api.Not, 5))
		}
		var many, manyConds error
		if n > api.MaxRules {
			many = api.ErrMany
		}
		if n > api.MaxConds {
			manyConds = api.ErrMany
		}
		checkIs(t, p, many)
		checkIs(t, policyOf(allow, r), manyConds)
		checkIs(t, policyOf(allow, rule(kill, close3), r), manyConds)
	}
	for nr := range api.Calls {
		checkIs(t, policyOf(allow, rule(allow, nr)), nil)
	}
	for _, nr := range []int{-1, api.Calls, math.MinInt, math.MaxInt, -1 << 32, 1<<32 + 1} {
		checkIs(t, policyOf(allow, rule(allow, nr)), api.ErrBound)
	}
	checkIs(t, session, nil)
	checkIs(t, api.Policy{}, api.ErrShape)
}

// right gives a cond of an op that is right, if its argument is of the op's kind.
func right(arg, op int) api.Cond {
	switch op {
	case api.Like:
		return like(arg, "/a")
	case api.In:
		return in(arg, ten)
	}
	return num(arg, op, 0)
}

// E1: which op an argument may have: that of its kind; an argument of no kind has none.
func TestCheckKinds(t *testing.T) {
	for nr, form := range api.Forms() {
		for arg, kind := range form.Args {
			for op := api.Is; op <= api.In; op++ {
				ofNum := op != api.Like && op != api.In
				var want error = api.ErrShape
				if kind == api.Num && ofNum || kind == api.Path && op == api.Like || kind == api.Addr && op == api.In {
					want = nil
				}
				checkIs(t, policyOf(allow, rule(allow, nr, right(arg, op))), want)
			}
		}
	}
	for _, n := range []int{-1, 4, 5, math.MinInt, math.MaxInt} {
		checkIs(t, policyOf(allow, rule(allow, send8, num(n, api.Is, 0))), api.ErrBound)
	}
	for _, n := range []int{-1, 0, 10, math.MinInt, math.MaxInt} {
		checkIs(t, policyOf(allow, rule(allow, send8, num(0, n, 0))), api.ErrBound)
	}
}

// E1: what an op does not use is nought.
func TestCheckUnused(t *testing.T) {
	arg := map[int]int{api.Like: 0, api.In: 2}
	call := map[int]int{api.Like: stat4}
	for op := api.Is; op <= api.In; op++ {
		nr, ok := call[op]
		if !ok {
			nr = send8
		}
		set := map[string]func(x *api.Cond){
			"M":    func(x *api.Cond) { x.M = 1 << 63 },
			"V":    func(x *api.Cond) { x.V = 1 << 32 },
			"Glob": func(x *api.Cond) { x.Glob = "/b" },
			"IP":   func(x *api.Cond) { x.Net = api.Net{IP: 10 << 24, Bits: 32} },
			"Bits": func(x *api.Cond) { x.Net = api.Net{Bits: 3} },
			"Lo":   func(x *api.Cond) { x.Net.Lo = 85 },
			"Hi":   func(x *api.Cond) { x.Net.Hi = 85 },
		}
		for name, do := range set {
			x := right(arg[op], op)
			do(&x)
			var used bool
			switch name {
			case "M":
				used = op == api.Masked
			case "V":
				used = op != api.Like && op != api.In
			case "Glob":
				used = op == api.Like
			default:
				used = op == api.In
			}
			if err := Check(policyOf(allow, rule(allow, nr, x))); used && err == api.ErrShape || !used && err != api.ErrShape {
				t.Errorf("op %d with %s: %v", op, name, err)
			}
		}
	}
}

// E1: patterns and nets have the errors of their own layers.
func TestCheckLayers(t *testing.T) {
	for _, g := range []string{"", "/", "a b", `a"b`, "[", "[b-a]", "/é", "a\n", strings.Repeat("*", 24), strings.Repeat("a", 25), strings.Repeat(" ", 25)} {
		checkIs(t, policyOf(allow, rule(allow, link7, like(1, g))), glob.Check(g))
	}
	for _, n := range []api.Net{{}, ten, {Bits: -1}, {Bits: 33}, {Lo: 1}, {Lo: -1}, {Hi: 65535}, {Hi: 65536}, {IP: 1}, {IP: 1, Bits: 31}, {IP: 1, Bits: 32}} {
		checkIs(t, policyOf(allow, rule(allow, connect6, in(1, n))), addr.Check(n))
	}
}

// E1: of several errors the one that is named first is told.
func TestCheckOrder(t *testing.T) {
	var many []api.Rule
	for range api.MaxRules + 1 {
		many = append(many, rule(api.Action{}, -1))
	}
	checkIs(t, policyOf(api.Action{}, many...), api.ErrMany)
	bad, badBound := api.Action{}, deny(256)
	five := []api.Cond{num(9, 0, 0), {}, {}, {}, {}}
	for _, x := range []struct {
		p    api.Policy
		want error
	}{
		{policyOf(bad, rule(allow, -1)), api.ErrShape},
		{policyOf(badBound, rule(bad, close3)), api.ErrBound},
		{policyOf(allow, rule(bad, 9, five...)), api.ErrBound},
		{policyOf(allow, rule(bad, close3, five...)), api.ErrMany},
		{policyOf(allow, rule(bad, close3, num(9, 1, 0))), api.ErrBound},
		{policyOf(allow, rule(badBound, close3, num(1, api.Is, 0))), api.ErrShape},
		{policyOf(allow, rule(bad, stat4, like(0, strings.Repeat("a", 25)))), api.ErrMany},
		{policyOf(allow, rule(bad, connect6, in(1, api.Net{Bits: 33}))), api.ErrBound},
		{policyOf(allow, rule(bad, close3), rule(allow, -1)), api.ErrShape},
		{policyOf(allow, rule(badBound, close3), rule(bad, close3)), api.ErrBound},
		{policyOf(allow, rule(allow, close3, five...), rule(bad, close3)), api.ErrMany},
		{policyOf(allow, rule(allow, open2, like(0, "["), num(9, 1, 0))), api.ErrText},
		{policyOf(allow, rule(allow, open2, num(9, 1, 0), like(0, "["))), api.ErrBound},
		{policyOf(allow, rule(allow, open2, num(0, 99, 0))), api.ErrBound},
		{policyOf(allow, rule(allow, open2, num(3, 0, 0))), api.ErrBound},
		{policyOf(allow, rule(allow, open2, like(1, "["))), api.ErrShape},
		{policyOf(allow, rule(allow, open2, api.Cond{Op: api.Like, Glob: "[", V: 1})), api.ErrShape},
		{policyOf(allow, rule(allow, connect6, api.Cond{Arg: 1, Op: api.In, Net: api.Net{Bits: 33}, M: 1})), api.ErrShape},
	} {
		checkIs(t, x.p, x.want)
	}
}

// textIs: what Text says, and that Parse reads it.
func textIs(t *testing.T, p api.Policy, want string) {
	t.Helper()
	if s, err := Text(p); s != want || err != nil {
		t.Errorf("Text(%v) = %q, %v, want %q", p, s, err, want)
	}
	if q, err := Parse(want); !same(p, q) || err != nil {
		t.Errorf("Parse(%q) = %v, %v, want %v", want, q, err, p)
	}
}

// noText: Parse can't read it.
func noText(t *testing.T, s string, want error) {
	t.Helper()
	if p, err := Parse(s); err != want || p.Rules != nil || p.Else != (api.Action{}) {
		t.Errorf("Parse(%.200q) = %v, %v, want %v", s, p, err, want)
	}
}

// E2: texts of policies.
func TestText(t *testing.T) {
	textIs(t, session, sessionText)
	textIs(t, policyOf(allow), "else allow\n")
	textIs(t, policyOf(kill), "else kill\n")
	textIs(t, policyOf(deny(255)), "else deny 255\n")
	textIs(t, policyOf(kill, rule(deny(7), read0), rule(kill, send8)), "else kill\ndeny 7 read\nkill send\n")
	for nr, form := range api.Forms() {
		textIs(t, policyOf(allow, rule(allow, nr)), "else allow\nallow "+form.Name+"\n")
	}
	for op, sign := range map[int]string{api.Is: "==", api.Not: "!=", api.Less: "<", api.Most: "<=", api.More: ">", api.Least: ">="} {
		textIs(t, policyOf(allow, rule(kill, send8, num(3, op, 0))), "else allow\nkill send if 3 "+sign+" 0\n")
		textIs(t, policyOf(allow, rule(kill, send8, num(0, op, math.MaxUint64))), "else allow\nkill send if 0 "+sign+" 18446744073709551615\n")
	}
	textIs(t, policyOf(allow, rule(kill, read0, masked(1, math.MaxUint64, 1<<63))), "else allow\nkill read if 1 & 18446744073709551615 == 9223372036854775808\n")
	textIs(t, policyOf(allow, rule(kill, read0, masked(0, 0, 7))), "else allow\nkill read if 0 & 0 == 7\n")
	textIs(t, policyOf(allow, rule(kill, stat4, like(0, `\**[!a-c]\\`))), "else allow\nkill stat if 0 ~ \"\\**[!a-c]\\\\\"\n")
	textIs(t, policyOf(allow, rule(kill, stat4, like(0, `and`), like(0, `if=='`))), "else allow\nkill stat if 0 ~ \"and\" and 0 ~ \"if=='\"\n")
	textIs(t, policyOf(allow, rule(deny(9), send8, in(2, api.Net{}), num(0, api.Is, 1), num(1, api.Not, 2), num(3, api.Less, 3))),
		"else allow\ndeny 9 send if 2 in 0.0.0.0/0:0-0 and 0 == 1 and 1 != 2 and 3 < 3\n")
}

// E2, W5: the longest policy is read again.
func TestTextLongest(t *testing.T) {
	p := policyOf(deny(255))
	for range api.MaxRules {
		x := masked(0, math.MaxUint64, math.MaxUint64)
		p.Rules = append(p.Rules, rule(deny(255), connect6, x, x, x, x))
	}
	line := "deny 255 connect if " + strings.Repeat("0 & 18446744073709551615 == 18446744073709551615 and ", api.MaxConds)
	textIs(t, p, "else deny 255\n"+strings.Repeat(strings.TrimSuffix(line, " and ")+"\n", api.MaxRules))
}

// E2: texts of no policy.
func TestParseWrong(t *testing.T) {
	for _, s := range []string{
		"", "\n", " ", "else", "else\n", "else allow", "else allow\n\n", "\nelse allow\n", "else allow\r\n", " else allow\n", "else allow \n", "else  allow\n",
		"else\tallow\n", "Else allow\n", "allow\n", "allow close\n", "else ALLOW\n", "else trace\n", "else 1\n", "els allow\n",
		"else deny\n", "else deny \n", "else deny 0\n", "else deny 256\n", "else deny 01\n", "else deny +1\n", "else deny -1\n", "else deny 1_0\n", "else deny 0x1\n",
		"else deny 18446744073709551617\n", "else deny 4294967297\n", "else allow 1\n", "else allow 0\n", "else kill 1\n", "else deny 1 1\n",
		"else allow\nelse allow\n", "else allow\nallow", "else allow\nallow\n", "else allow\nallow close", "else allow\nallow Close\n", "else allow\nallow fly\n", "else allow\nallow 3\n",
		"else allow\nallow  close\n", "else allow\nallow close \n", "else allow\n\nallow close\n", "else allow\nclose\n", "else allow\ndeny close\n", "else allow\ntrace close\n",
		"else allow\nallow close if\n", "else allow\nallow close if \n", "else allow\nallow close 0 == 1\n", "else allow\nallow close and 0 == 1\n", "else allow\nallow close if if 0 == 1\n",
		"else allow\nallow close if 0\n", "else allow\nallow close if 0 ==\n", "else allow\nallow close if 0 == \n", "else allow\nallow close if == 1\n", "else allow\nallow close if 0 = 1\n",
		"else allow\nallow close if 0 == 01\n", "else allow\nallow close if 00 == 1\n", "else allow\nallow close if 0 == -1\n", "else allow\nallow close if 0 == +1\n", "else allow\nallow close if 0 == a\n",
		"else allow\nallow close if 0 == 18446744073709551616\n", "else allow\nallow close if 18446744073709551616 == 0\n", "else allow\nallow close if -0 == 1\n",
		"else allow\nallow close if 1 == 1\n", "else allow\nallow close if 4 == 1\n", "else allow\nallow close if 4294967296 == 1\n", "else allow\nallow close if 0 ~ \"a\"\n", "else allow\nallow close if 0 in 0.0.0.0/0:0-0\n",
		"else allow\nallow close if 0 == 1 if 0 == 1\n", "else allow\nallow close if 0 == 1 and\n", "else allow\nallow close if 0 == 1 0 == 1\n", "else allow\nallow close if 0 == 1, 0 == 1\n",
		"else allow\nallow close if 0 & 1\n", "else allow\nallow close if 0 & 1 ==\n", "else allow\nallow close if 0 & 1 != 1\n", "else allow\nallow close if 0 & 1 1\n", "else allow\nallow close if 0 & 01 == 1\n", "else allow\nallow close if 0 & 1 == 01\n",
		"else allow\nallow stat if 0 ~ a\n", "else allow\nallow stat if 0 ~ \"a\n", "else allow\nallow stat if 0 ~ a\"\n", "else allow\nallow stat if 0 ~ \"\"\n", "else allow\nallow stat if 0 ~ \"\"a\"\"\n", "else allow\nallow stat if 0 ~ 'a'\n",
		"else allow\nallow stat if 0 ~ \"a b\"\n", "else allow\nallow stat if 0 ~ \"[\"\n", "else allow\nallow stat if 0 ~\n", "else allow\nallow stat if 0 ~ \"aaaaaaaaaaaaaaaaaaaaaaaaa\"\n", "else allow\nallow stat if 0 == 0\n",
		"else allow\nallow connect if 1 in\n", "else allow\nallow connect if 1 in 10.0.0.0\n", "else allow\nallow connect if 1 in 10.0.0.0/8\n", "else allow\nallow connect if 1 in 10.0.0.1/8:0-0\n", "else allow\nallow connect if 1 in 010.0.0.0/8:0-0\n", "else allow\nallow connect if 1 in x\n", "else allow\nallow connect if 1 in \"10.0.0.0/8:0-0\"\n",
		"else allow\nallow close if 0 == 1 and 0 == 1 and 0 == 1 and 0 == 1 and 0 == 1\n",
		"else allow\n" + strings.Repeat("allow close\n", 13),
		"allow close\nelse allow\n", sessionText + sessionText, sessionText + "\x00",
	} {
		noText(t, s, api.ErrText)
	}
}

// E2: a text has no more than MaxText bytes.
func TestParseLength(t *testing.T) {
	for _, s := range []string{"\n", " ", "a", "allow close\n", "0 == 1 and "} {
		long := sessionText + strings.Repeat(s, api.MaxText)
		noText(t, long[:api.MaxText-1], api.ErrText)
		noText(t, long[:api.MaxText], api.ErrText)
		noText(t, long[:api.MaxText+1], api.ErrMany)
		noText(t, long, api.ErrMany)
	}
	noText(t, sessionText+strings.Repeat("\x00", 1<<20), api.ErrMany)
}

// E2, W5: texts of drawn policies are read again; where one byte is another one, or is missing, what is read has that text.
func TestParseDrawn(t *testing.T) {
	draw := drawer(5)
	for range 300 {
		p := drawPolicy(draw)
		s, err := Text(p)
		if err != nil {
			t.Fatalf("Text(%v): %v", p, err)
		}
		textIs(t, p, s)
		for range 20 {
			at := draw(len(s))
			changed := s[:at] + []string{"", " ", "0", "1", "\"", "\n", "="}[draw(7)] + s[at+1:]
			q, err := Parse(changed)
			if err != nil {
				noText(t, changed, api.ErrText)
			} else if back, err := Text(q); back != changed || err != nil {
				t.Errorf("Parse(%q) = %v, whose text is %q, %v", changed, q, back, err)
			}
		}
	}
}

// verdictIs: what Judge says.
func verdictIs(t *testing.T, p api.Policy, c api.Call, do api.Action, place int) {
	t.Helper()
	want := api.Verdict{Do: do, Rule: place}
	if v, err := Judge(p, c); v != want || err != nil {
		t.Errorf("Judge(%v, %v) = %v, %v, want %v", p, c, v, err, want)
	}
}

// decisionIs: what Decide says.
func decisionIs(t *testing.T, p api.Policy, c api.Call, v api.Values, want api.Action) {
	t.Helper()
	if a, err := Decide(p, c, v); a != want || err != nil {
		t.Errorf("Decide(%v, %v, %v) = %v, %v, want %v", p, c, v, a, err, want)
	}
}

var trace = api.Action{Kind: api.Trace}

// meets: does a number's cond hold, by what the document says of it, bit by bit?
func meets(x api.Cond, n uint64) bool {
	order := 0 // by the highest bit that differs
	for i := 63; i >= 0 && order == 0; i-- {
		order = int(n>>i&1) - int(x.V>>i&1)
	}
	if x.Op != api.Masked {
		return map[int][3]bool{
			api.Is:    {false, true, false},
			api.Not:   {true, false, true},
			api.Less:  {true, false, false},
			api.Most:  {true, true, false},
			api.More:  {false, false, true},
			api.Least: {false, true, true},
		}[x.Op][order+1]
	}
	for i := range 64 {
		bit := n >> i & 1
		if x.M>>i&1 == 0 {
			bit = 0
		}
		if bit != x.V>>i&1 {
			return false
		}
	}
	return true
}

// E3: conds on numbers, of every op, argument and edge.
func TestNumbers(t *testing.T) {
	for op := api.Is; op <= api.Masked; op++ {
		for _, v := range edges {
			for _, n := range edges {
				for _, m := range edges {
					x := num(3, op, v)
					if op == api.Masked {
						x.M = m
					}
					want := kill
					if meets(x, n) {
						want = deny(3)
					}
					p := policyOf(kill, rule(deny(3), send8, x))
					verdictIs(t, p, call(send8, ^n, ^n, ^n, n), want, 0)
					decisionIs(t, p, call(send8, ^n, ^n, ^n, n), api.Values{}, want)
				}
			}
		}
	}
}

// E3: the session's verdicts.
func TestJudgeSession(t *testing.T) {
	verdictIs(t, session, call(close3), allow, 0)
	verdictIs(t, session, call(open2, 0, 1), deny(13), 0)
	verdictIs(t, session, call(open2, 0, 4), trace, 1)
	verdictIs(t, session, call(write1, 0, 4294967297), kill, 0)
	verdictIs(t, session, call(write1, 0, 4294967296), deny(1), 0)
	verdictIs(t, session, call(read0), deny(1), 0)
	verdictIs(t, session, call(connect6), trace, 3)
	verdictIs(t, session, call(rename5), trace, 5)
}

// E3: the first rule that fits, all of whose conds on numbers hold; Else, if there is none.
func TestJudgeFirst(t *testing.T) {
	p := policyOf(deny(9),
		rule(deny(1), send8, num(0, api.Is, 1), num(1, api.Is, 2), num(3, api.Is, 3)),
		rule(deny(2), send8, num(0, api.Is, 1), num(1, api.Is, 2)),
		rule(allow, read0, num(0, api.Is, 1)),
		rule(deny(3), send8, num(0, api.Is, 1)),
		rule(kill, send8, num(0, api.Is, 2)),
		rule(deny(4), send8, num(0, api.Is, 1)))
	verdictIs(t, p, call(send8, 1, 2, 0, 3), deny(1), 0)
	verdictIs(t, p, call(send8, 1, 2, 3, 0), deny(2), 0)
	verdictIs(t, p, call(send8, 1, 0, 0, 3), deny(3), 0)
	verdictIs(t, p, call(send8, 2, 2, 0, 3), kill, 0)
	verdictIs(t, p, call(send8, 3, 2, 0, 3), deny(9), 0)
	verdictIs(t, p, call(read0, 1), allow, 0)
	verdictIs(t, p, call(write1, 1), deny(9), 0)
	verdictIs(t, policyOf(allow), call(send8), allow, 0)
	verdictIs(t, policyOf(allow, rule(kill, read0), rule(deny(1), read0)), call(read0), kill, 0)
}

// E3: a deep rule that fits is traced, whatever it does; one that doesn't is passed over.
func TestJudgeDeep(t *testing.T) {
	p := policyOf(allow,
		rule(kill, open2, like(0, "/a"), num(1, api.Is, 1)),
		rule(deny(5), open2, num(1, api.Is, 2), like(0, "/b")),
		rule(allow, open2, num(1, api.Is, 3)),
		rule(allow, open2, like(0, "/c"), like(0, "/d")),
		rule(kill, open2))
	verdictIs(t, p, call(open2, 0, 1), trace, 0)
	verdictIs(t, p, call(open2, 0, 2), trace, 1)
	verdictIs(t, p, call(open2, 0, 3), allow, 0)
	verdictIs(t, p, call(open2, 0, 4), trace, 3)
	verdictIs(t, p, call(stat4, 0, 1), allow, 0)
	last := policyOf(allow)
	for range api.MaxRules - 1 {
		last.Rules = append(last.Rules, rule(kill, read0))
	}
	last.Rules = append(last.Rules, rule(kill, send8, in(2, ten)))
	verdictIs(t, last, call(send8), trace, api.MaxRules-1)
}

// E3, E4: another arch is killed, whatever the policy allows; numbers of no call have no rule.
func TestArch(t *testing.T) {
	p := policyOf(allow, rule(allow, read0))
	for _, arch := range []uint32{0, 1, api.Arch - 1, api.Arch + 1, api.Arch ^ 1<<31, math.MaxUint32} {
		c := api.Call{Arch: arch}
		verdictIs(t, p, c, kill, 0)
		decisionIs(t, p, c, api.Values{}, kill)
	}
	for _, nr := range []uint32{9, 10, 1 << 31, math.MaxUint32} {
		verdictIs(t, policyOf(deny(7), rule(allow, read0)), call(nr), deny(7), 0)
		decisionIs(t, policyOf(deny(7), rule(allow, read0)), call(nr), api.Values{}, deny(7))
		verdictIs(t, policyOf(allow, rule(kill, read0)), call(nr), allow, 0)
	}
}

// E4: what pointers lead to: of the cond's own argument alone.
func TestDecide(t *testing.T) {
	good, bad := api.Value{Path: "/tmp/x"}, api.Value{Path: "/etc"}
	decisionIs(t, session, call(open2, 0, 4), api.Values{good}, allow)
	decisionIs(t, session, call(open2, 0, 4), api.Values{bad, good}, deny(13))
	decisionIs(t, session, call(open2, 0, 1), api.Values{good}, deny(13))
	decisionIs(t, session, call(open2, 0, 4), api.Values{}, deny(13))
	a, b, x := api.Value{Path: "/a/a"}, api.Value{Path: "/b"}, api.Value{Path: "/a/x"}
	decisionIs(t, session, call(rename5), api.Values{a, a}, allow)
	decisionIs(t, session, call(rename5), api.Values{x, a}, allow)
	decisionIs(t, session, call(rename5), api.Values{a, x}, deny(1))
	decisionIs(t, session, call(rename5), api.Values{a, b}, deny(1))
	decisionIs(t, session, call(rename5), api.Values{b, a}, deny(1))
	decisionIs(t, session, call(close3), api.Values{bad, bad, bad, bad}, allow)
	decisionIs(t, session, call(write1, 0, math.MaxUint64), api.Values{}, kill)
	for _, v := range []api.Value{{IP: 10<<24 + 1, Port: 80}, {IP: 11<<24 - 1, Port: 90}} {
		decisionIs(t, session, call(connect6), api.Values{1: v}, allow)
		decisionIs(t, session, call(connect6), api.Values{v, {}, v, v}, deny(1))
	}
	for _, v := range []api.Value{{IP: 10 << 24, Port: 79}, {IP: 10 << 24, Port: 91}, {IP: 9 << 24, Port: 80}, {IP: 11 << 24, Port: 80}, {IP: 10 << 24, Port: math.MinInt}, {IP: 10 << 24, Port: math.MaxInt}} {
		decisionIs(t, session, call(connect6), api.Values{1: v}, deny(1))
	}
}

// E4: a rule whose conds on pointers don't hold is passed over; what it does is done as it says.
func TestDecideNext(t *testing.T) {
	p := policyOf(allow,
		rule(kill, open2, like(0, "/a"), num(1, api.Is, 1)),
		rule(deny(5), open2, like(0, "/*"), like(0, "**b")),
		rule(deny(6), open2, like(0, "/a"), num(2, api.Not, 0)))
	decisionIs(t, p, call(open2, 0, 1), api.Values{{Path: "/a"}}, kill)
	decisionIs(t, p, call(open2, 0, 2, 1), api.Values{{Path: "/a"}}, deny(6))
	decisionIs(t, p, call(open2, 0, 2), api.Values{{Path: "/a"}}, allow)
	decisionIs(t, p, call(open2, 0, 1), api.Values{{Path: "/b"}}, deny(5))
	decisionIs(t, p, call(open2, 0, 1), api.Values{{Path: "b"}}, allow)
	long := strings.Repeat("/a", 1000)
	decisionIs(t, policyOf(allow, rule(kill, stat4, like(0, "/**"))), call(stat4), api.Values{{Path: long}}, kill)
}

// E3, E4: what registers alone tell is what is decided, whatever pointers lead to; a trace is of the first rule that may be decisive.
func TestJudgeAndDecide(t *testing.T) {
	draw := drawer(6)
	traced := 0
	for range 2000 {
		p, c, v := drawPolicy(draw), drawCall(draw), drawValues(draw)
		verdict, err := Judge(p, c)
		if err != nil {
			t.Fatalf("Judge(%v): %v", p, err)
		}
		if verdict.Do.Kind != api.Trace {
			decisionIs(t, p, c, v, verdict.Do)
			if verdict.Rule != 0 {
				t.Errorf("Judge(%v, %v) = %v", p, c, verdict)
			}
			continue
		}
		traced++
		rest := policyOf(p.Else, p.Rules[verdict.Rule:]...)
		verdictIs(t, rest, c, trace, 0)
		want, _ := Decide(rest, c, v)
		decisionIs(t, p, c, v, want)
	}
	if traced < 100 {
		t.Errorf("only %d were traced", traced)
	}
}

// Z2: what is handed in stays as it is; what comes out shares no memory, and hangs on nothing else.
func TestLists(t *testing.T) {
	p, err := Parse(sessionText)
	if err != nil {
		t.Fatal(err)
	}
	for i := range p.Rules {
		for j := range p.Rules[i].Conds {
			p.Rules[i].Conds[j] = num(9, 9, 9)
		}
		_ = append(p.Rules[i].Conds, num(8, 8, 8), num(7, 7, 7))
	}
	for i, r := range p.Rules {
		if len(r.Conds) != len(session.Rules[i].Conds) {
			t.Errorf("rule %d: %v", i, r)
		}
		for _, x := range r.Conds {
			if x != num(9, 9, 9) {
				t.Errorf("rule %d: %v", i, r)
			}
		}
	}
	before := fmt.Sprint(session)
	textIs(t, session, sessionText)
	draw := drawer(7)
	for range 100 {
		c, v := drawCall(draw), drawValues(draw)
		a1, _ := Judge(session, c)
		b1, _ := Decide(session, c, v)
		a2, _ := Judge(session, c)
		b2, _ := Decide(session, c, v)
		if a1 != a2 || b1 != b2 {
			t.Errorf("%v: %v, %v, then %v, %v", c, a1, b1, a2, b2)
		}
	}
	if after := fmt.Sprint(session); after != before {
		t.Errorf("%s was %s", after, before)
	}
}
