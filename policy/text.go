package policy

import (
	"strconv"
	"strings"

	"doorward/addr"
	"doorward/api"
)

// signs of the ops, from Is to In.
var signs = [api.In]string{"==", "!=", "<", "<=", ">", ">=", "&", "~", "in"}

// quote stands ahead of and behind a pattern, which has none itself.
const quote = `"`

// write gives the text of a policy that is right.
func write(p api.Policy) string {
	s := "else " + actionText(p.Else) + "\n"
	for i := range len(p.Rules) {
		s += ruleText(p.Rules[i]) + "\n"
	}
	return s
}

func ruleText(r api.Rule) string {
	s := actionText(r.Do) + " " + api.Forms()[r.Nr].Name
	join := " if "
	for i := range len(r.Conds) {
		s += join + condText(r.Conds[i])
		join = " and "
	}
	return s
}

func actionText(a api.Action) string {
	switch a.Kind {
	case api.Allow:
		return "allow"
	case api.Kill:
		return "kill"
	}
	return "deny " + strconv.Itoa(a.Errno)
}

func condText(x api.Cond) string {
	s := strconv.Itoa(x.Arg) + " " + signs[x.Op-api.Is] + " "
	switch x.Op {
	case api.Masked:
		return s + numberText(x.M) + " " + signs[0] + " " + numberText(x.V)
	case api.Like:
		return s + quote + x.Glob + quote
	case api.In:
		net, _ := addr.Text(x.Net) // it was checked with the policy
		return s + net
	}
	return s + numberText(x.V)
}

func numberText(n uint64) string {
	return strconv.FormatUint(n, 10)
}

// words of a line, those ahead taken off one by one.
type words []string

// next takes a word off; an empty one, if there is none.
func (l *words) next() string {
	if len(*l) == 0 {
		return ""
	}
	s := (*l)[0]
	*l = (*l)[1:]
	return s
}

// read gives the policy whose text it is; of a text that is none, some policy: words that can't stand where they do are passed over, as Parse holds the whole against the text.
func read(s string) api.Policy {
	lines := strings.Split(strings.TrimSuffix(s, "\n"), "\n")
	head := words(strings.Split(lines[0], " "))
	head.next()
	p := api.Policy{Else: readAction(&head)}
	for i := range len(lines) - 1 {
		p.Rules = append(p.Rules, readRule(lines[i+1]))
	}
	return p
}

func readRule(line string) api.Rule {
	l := words(strings.Split(line, " "))
	r := api.Rule{Do: readAction(&l)}
	r.Nr = findCall(l.next())
	for len(l) > 0 {
		l.next()
		r.Conds = append(r.Conds, readCond(&l))
	}
	return r
}

func readAction(l *words) api.Action {
	switch l.next() {
	case "allow":
		return api.Action{Kind: api.Allow}
	case "kill":
		return api.Action{Kind: api.Kill}
	case "deny":
		return api.Action{Kind: api.Deny, Errno: int(readNumber(l))}
	}
	return api.Action{}
}

func readCond(l *words) api.Cond {
	x := api.Cond{Arg: int(readNumber(l))}
	x.Op = findOp(l.next())
	switch x.Op {
	case api.Like:
		x.Glob = strings.Clone(strings.Trim(l.next(), quote)) // a piece would hold on to the whole text
	case api.In:
		x.Net, _ = addr.Parse(l.next())
	case api.Masked:
		x.M = readNumber(l)
		l.next()
		x.V = readNumber(l)
	default:
		x.V = readNumber(l)
	}
	return x
}

// readNumber gives 0 of a word that is none.
func readNumber(l *words) uint64 {
	n, err := strconv.ParseUint(l.next(), 10, 64)
	if err != nil {
		return 0
	}
	return n
}

// findCall gives the number of a call's name; -1, if there is none.
func findCall(name string) int {
	forms := api.Forms()
	for nr := range len(forms) {
		if forms[nr].Name == name {
			return nr
		}
	}
	return -1
}

// findOp gives the op of a sign; 0, if there is none.
func findOp(sign string) int {
	for i := range len(signs) {
		if signs[i] == sign {
			return api.Is + i
		}
	}
	return 0
}
