package glob

import (
	"strings"
	"testing"

	"doorward/api"
)

// checkIs: what Check says of a pattern.
func checkIs(t *testing.T, p string, want error) {
	t.Helper()
	if err := Check(p); err != want {
		t.Errorf("Check(%q) = %v, want %v", p, err, want)
	}
}

// matchIs: what Match says of a pattern and a text.
func matchIs(t *testing.T, p, s string, want bool) {
	t.Helper()
	if got := Match(p, s); got != want {
		t.Errorf("Match(%q, %.80q) = %v, want %v", p, s, got, want)
	}
}

func TestCheckPatterns(t *testing.T) { // A1
	for _, p := range []string{
		"a", "/", "*", "**", "***", "****", "?", "/a/*.b", "/**/y[0-9]", "-", "!", "a-b", "^{}~,",
		"[a]", "[ab]", "[a-z]", "[!a]", "[!a-c]?", "[a-a]", "[.-_]", "[A-z]", "[._]", "[a-cx0-9]", "[ab-c]",
		`\*`, `\?`, `\[`, `\]`, `\\`, `\\\\`, `[a]\]`, "**?*",
	} {
		checkIs(t, p, nil)
	}
}

func TestCheckNoPatterns(t *testing.T) { // A1
	for _, p := range []string{
		"", " ", "a b", "\"", "a\"", "\x00", "\n", "\x7f", "\x80", "\xff", "é",
		"]", "a]", "[", "[]", "[!", "[!]", "[a", "[!a", "[a-", "[a-]", "[-a]", "[-]", "[a-b", "[b-a]", "[a-Z]",
		"[a-b-c]", "[a--]", "[!!a]", "[a!]", "[/]", "[*]", "[?]", "[[]", "[[a]", "[]a]", "[a]]", `[\]`, `[\a]`, `[a\]]`, "[ ]", "[a-/]", "[+-a]",
		`\`, `a\`, `\\\`, `\a`, `\/`, `\-`, `\!`, `\"`, `\ `,
	} {
		checkIs(t, p, api.ErrText)
		matchIs(t, p, p, false)
		matchIs(t, p, "", false)
		matchIs(t, p, "a", false)
	}
}

func TestCheckLengths(t *testing.T) { // A1
	full := strings.Repeat("a", api.MaxGlob)
	checkIs(t, full, nil)
	matchIs(t, full, full, true)
	checkIs(t, full+"a", api.ErrMany)
	matchIs(t, full+"a", full+"a", false)
	checkIs(t, strings.Repeat("*", api.MaxGlob), nil)
	matchIs(t, strings.Repeat("*", api.MaxGlob), "/a/b", true)
	checkIs(t, strings.Repeat("*", api.MaxGlob+1), api.ErrMany)
	matchIs(t, strings.Repeat("*", api.MaxGlob+1), "", false)
	checkIs(t, strings.Repeat("?", api.MaxGlob), nil)
	matchIs(t, strings.Repeat("?", api.MaxGlob), full, true)
	// ErrMany is named ahead of ErrText.
	checkIs(t, strings.Repeat("[", api.MaxGlob+1), api.ErrMany)
	checkIs(t, strings.Repeat("\x00", 1000), api.ErrMany)
	checkIs(t, full[1:]+" ", api.ErrText)
	checkIs(t, full[1:]+`\`, api.ErrText)
	checkIs(t, full[1:]+"[", api.ErrText)
	checkIs(t, full[2:]+`\*`, nil)
	checkIs(t, full[1:]+`\*`, api.ErrMany)
	checkIs(t, "["+full[2:]+"]", nil)
	checkIs(t, "["+full[1:], api.ErrText)
}

func errText(right bool) error {
	if right {
		return nil
	}
	return api.ErrText
}

func inClass(b int) bool {
	return strings.Contains("abcdefghijklmnopqrstuvwxyzABCDEFGHIJKLMNOPQRSTUVWXYZ0123456789._", string([]byte{byte(b)}))
}

func TestCheckEachByte(t *testing.T) { // A1
	for b := range 256 {
		s := string([]byte{byte(b)})
		checkIs(t, s, errText(b > 32 && b < 127 && !strings.Contains("\"[]\\", s)))
		checkIs(t, `\`+s, errText(strings.Contains("*?[]\\", s)))
		checkIs(t, "["+s+"]", errText(inClass(b)))
		checkIs(t, "[!"+s+"]", errText(inClass(b)))
		for c := range 256 {
			checkIs(t, "["+s+"-"+string([]byte{byte(c)})+"]", errText(inClass(b) && inClass(c) && b <= c))
		}
	}
}

func TestMatchTexts(t *testing.T) { // A2
	for _, x := range []struct {
		p, s string
		want bool
	}{
		{"/a/*.b", "/a/x.b", true},
		{"/a/*.b", "/a/x/y.b", false},
		{"/a/*.b", "/a/.b", true},
		{"/**/y[0-9]", "/a/x/y7", true},
		{"/**/y[0-9]", "/y7", false},
		{"[!a-c]?", "d/", false},
		{"[!a-c]?", "de", true},
		{"[!a-c]?", "be", false},
		{"a", "a", true}, {"a", "", false}, {"a", "aa", false}, {"a", "b", false}, {"a", "A", false},
		{"ab", "ab", true}, {"ab", "ba", false},
		{"*", "", true}, {"*", "abc", true}, {"*", "/", false}, {"*", "a/", false}, {"*", "/a", false},
		{"**", "", true}, {"**", "/", true}, {"**", "a/b/c", true}, {"**", "\x00\xff/\n", true},
		{"***", "", true}, {"***", "/", true}, {"***", "a/b/", true},
		{"**a", "/x/a", true}, {"**a", "a/", false},
		{"a*a", "a", false}, {"a*a", "aa", true}, {"a*a", "aba", true}, {"a*a", "a/a", false}, {"a**a", "a/a", true},
		{"*/*", "a/b", true}, {"*/*", "a/b/c", false}, {"*/*", "/", true},
		{"?", "", false}, {"?", "a", true}, {"?", "ab", false}, {"?", "/", false}, {"?", "\x00", true}, {"?", "é", false}, {"??", "é", true},
		{"?*", "", false}, {"?*", "a", true}, {"?*", "abc", true}, {"?**", "/a", false}, {"?**", "a/", true},
		{"[abx-z]", "y", true}, {"[abx-z]", "b", true}, {"[abx-z]", "c", false}, {"[a]", "", false}, {"[a]", "aa", false},
		{"[!a]", "", false}, {"[!a]", "b", true}, {"[!a]", "!", true}, {"[!a]", "\xff", true}, {"[a-c]", "-", false},
		{`\*`, "*", true}, {`\*`, "a", false}, {`\*`, `\*`, false}, {`\?`, "?", true}, {`\[a]`, "[a]", false}, {`\[a\]`, "[a]", true}, {`\\`, `\`, true},
		{`\**`, "*ab", true}, {`\**`, "ab", false},
		{"-!", "-!", true},
	} {
		matchIs(t, x.p, x.s, x.want)
	}
}

// kind: a part as a text, and which pieces are like it, by the words of A2.
type kind struct {
	text string
	like func(piece string) bool
}

func oneOf(set string) func(string) bool {
	return func(piece string) bool { return len(piece) == 1 && strings.Contains(set, piece) }
}

func oneBut(set string) func(string) bool {
	return func(piece string) bool { return len(piece) == 1 && !strings.Contains(set, piece) }
}

var kinds = []kind{
	{"**", func(string) bool { return true }},
	{"*", func(piece string) bool { return !strings.Contains(piece, "/") }},
	{"?", oneBut("/")},
	{"a", oneOf("a")},
	{"/", oneOf("/")},
	{"[ab]", oneOf("ab")},
	{"[!a]", oneBut("a/")},
	{"[.-1]", oneOf(".01")},
	{"[!.-1]", oneBut("./01")},
	{`\*`, oneOf("*")},
	{`\\`, oneOf(`\`)},
}

// cut: can the text be cut into pieces, each like its kind?
func cut(l []kind, s string) bool {
	if len(l) == 0 {
		return s == ""
	}
	for n := range len(s) + 1 {
		if l[0].like(s[:n]) && cut(l[1:], s[n:]) {
			return true
		}
	}
	return false
}

// texts of at most n bytes of an alphabet.
func texts(alphabet string, n int) []string {
	all, last := []string{""}, []string{""}
	for range n {
		var next []string
		for _, s := range last {
			for i := range len(alphabet) {
				next = append(next, s+alphabet[i:i+1])
			}
		}
		all, last = append(all, next...), next
	}
	return all
}

// each of the lists of one to n kinds whose parts are read as they were put together.
func each(n int, l []kind, do func(l []kind)) {
	if len(l) > 0 {
		do(l)
	}
	if len(l) == n {
		return
	}
	for _, k := range kinds {
		if len(l) > 0 && l[len(l)-1].text == "*" && k.text[0] == '*' {
			continue
		}
		each(n, append(l[:len(l):len(l)], k), do)
	}
}

func TestMatchIsACut(t *testing.T) { // A2
	all := texts("a/*.", 4)
	each(3, nil, func(l []kind) {
		p := ""
		for _, k := range l {
			p += k.text
		}
		for _, s := range all {
			matchIs(t, p, s, cut(l, s))
		}
	})
}

func TestMatchEachByte(t *testing.T) { // A2
	for _, k := range kinds {
		for b := range 256 {
			s := string([]byte{byte(b)})
			matchIs(t, k.text, s, k.like(s))
			matchIs(t, "/"+k.text, "/"+s, k.like(s))
		}
	}
}

func TestMatchSlash(t *testing.T) { // A2
	for _, p := range []string{"*", "?", "[!a]", "[.-0]", "[!0]", "[a]", "a", `\*`} {
		matchIs(t, p, "/", false)
		matchIs(t, p+"a", "/a", false)
		matchIs(t, p+"**", "/", p == "*")
		matchIs(t, "a"+p, "a/", false)
	}
}

func TestMatchLongText(t *testing.T) { // Z1, A2
	s := strings.Repeat("a", 300000)
	matchIs(t, "*a*a*a*a*a*a*a*a*a*a*a*b", s, false)
	matchIs(t, "**a**a**a**a**a**a**a**b", s+"/b", true)
	matchIs(t, "**a**a**a**a**a**a**a*b", s+"/b", false)
	matchIs(t, "**", s+"/"+s, true)
	matchIs(t, "*", s+"/"+s, false)
}
