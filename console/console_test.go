package console

import (
	"encoding/hex"
	"fmt"
	"slices"
	"strings"
	"testing"

	"doorward/api"
	"doorward/policy"
	"doorward/ward"
)

const sessionText = `else deny 1
allow close
allow open if 0 ~ "/tmp/**" and 1 & 3 == 0
deny 13 open
allow connect if 1 in 10.0.0.0/8:80-90
kill write if 1 > 4294967296
allow rename if 0 ~ "/a/*" and 1 ~ "/a/[!x]*"
`

// lookedText: each call with a pointer is looked at, and allowed.
const lookedText = `else allow
allow open if 0 ~ "**"
allow stat if 0 ~ "**"
allow rename if 0 ~ "**"
allow link if 1 ~ "**"
allow connect if 1 in 0.0.0.0/0:0-65535
allow send if 2 in 0.0.0.0/0:0-65535
`

const allowText = "else allow\n"

// aboveNumbers is 2 to the power 64.
const aboveNumbers = "18446744073709551616"

// greatest of all numbers.
const greatest = "18446744073709551615"

// wantSession: the lines of a script, each with ' => ' and its answer behind.
func wantSession(t *testing.T, text, script string) {
	t.Helper()
	var lines, want []string
	for _, l := range strings.Split(strings.TrimSpace(script), "\n") {
		line, answer, _ := strings.Cut(l, " => ")
		lines, want = append(lines, line), append(want, answer)
	}
	wantAnswers(t, text, lines, want)
}

func wantAnswers(t *testing.T, text string, lines, want []string) {
	t.Helper()
	got := run(t, text, lines)
	if len(got) != len(lines) {
		t.Fatalf("%d answers to %d lines", len(got), len(lines))
	}
	for i := range got {
		if got[i] != want[i] {
			t.Errorf("line %d, %q => %q, want %q", i, lines[i], got[i], want[i])
		}
	}
}

func run(t *testing.T, text string, lines []string) []string {
	t.Helper()
	l, err := Run(text, lines)
	if err != nil {
		t.Fatalf("Run(%q, %q): %v", text, lines, err)
	}
	return l
}

// wantError: of the text and the lines nothing but this error is told.
func wantError(t *testing.T, text string, lines []string, want error) {
	t.Helper()
	if l, err := Run(text, lines); len(l) != 0 || err != want {
		t.Errorf("Run of %d bytes, %d lines = %q, %v, want no answer, %v", len(text), len(lines), l, err, want)
	}
}

// wantUnread: each of the lines is answered by error 4, and nothing is changed by them.
func wantUnread(t *testing.T, lines ...string) {
	t.Helper()
	script := []string{"map 0 1", "put 0 2f7800", "enter 0 4 0 0 0 0", "step 0 1"}
	look := []string{"phase 0", "phase 1", "phase 2", "sealed", "log", "enter 1 4 0 0 0 0", "step 1 90", "log", "put 64 00", "put 0 00"}
	want := run(t, lookedText, slices.Concat(script, look))
	for _, line := range lines {
		got := run(t, lookedText, slices.Concat(script, []string{line}, look))
		if a := got[len(script)]; a != "error 4" {
			t.Errorf("%q => %q, want error 4", line, a)
		}
		if rest := slices.Delete(got, len(script), len(script)+1); !slices.Equal(rest, want) {
			t.Errorf("around %q: %q, want %q", line, rest, want)
		}
	}
}

func TestSession(t *testing.T) { // H1, H2: the document's session
	wantSession(t, sessionText, `
judge 3 0 0 0 0 => allow
judge 2 0 1 0 0 => deny 13
judge 2 0 4 0 0 => trace 1
judge 1 0 4294967297 0 0 => kill
judge 0 0 0 0 0 => deny 1
map 1 1 => ok
put 64 2f746d702f7800 => ok
enter 0 2 64 4 0 0 => ok
step 0 3 => 3
phase 0 => 2
step 0 6 => 6
phase 0 => 4
put 64 2f65746300 => ok
step 0 1 => 1
sealed => 1
phase 0 => 5
put 64 ffffffff => ok
unmap 1 => ok
step 0 9 => 1
log => 0 2 done "2f746d702f78" 4 0
enter 1 2 64 0 0 0 => ok
step 1 9 => 2
map 2 1 => ok
put 128 020000500a00000100000000000000000000 => ok
enter 1 6 7 128 0 0 => ok
step 1 90 => 20
enter 2 1 0 4294967297 0 0 => ok
step 2 2 => 1
enter 2 0 0 0 0 0 => error 8
log => 0 2 done "2f746d702f78" 4 0, 1 2 refused 14, 1 6 done 7 167772161:80, 2 1 killed
put 512 00 => error 5
fly => error 4
`)
}

func TestWrongTexts(t *testing.T) { // H1
	many := make([]string, api.MaxLines+1)
	long := strings.Repeat("x", api.MaxText+1)
	for _, text := range []string{"", "else", "else allow", "else allow\n\n", " else allow\n", "else deny 0\n", "else deny 256\n", "else allow\nallow fly\n", long[:api.MaxText]} {
		wantError(t, text, nil, api.ErrText)
		wantError(t, text, []string{"log"}, api.ErrText)
		wantError(t, text, many, api.ErrText)
	}
	wantError(t, long, nil, api.ErrMany)
	wantError(t, long, many, api.ErrMany)
	wantError(t, allowText+strings.Repeat("allow read\n", api.MaxRules+1), []string{"log"}, api.ErrText)
}

func TestCountOfLines(t *testing.T) { // H1
	for _, n := range []int{0, 1, 2, api.MaxLines - 1, api.MaxLines} {
		if l := run(t, allowText, slices.Repeat([]string{"log"}, n)); !slices.Equal(l, slices.Repeat([]string{"-"}, n)) {
			t.Errorf("%d lines: %q", n, l)
		}
	}
	run(t, allowText, nil)
	for _, n := range []int{api.MaxLines + 1, 2 * api.MaxLines, 5000} {
		wantError(t, allowText, make([]string, n), api.ErrMany)
		wantError(t, allowText, slices.Repeat([]string{"log"}, n), api.ErrMany)
	}
}

func TestJudge(t *testing.T) { // H1
	wantSession(t, `else deny 255
allow read if 0 == 18446744073709551615 and 1 > 3
kill write
deny 7 close
deny 8 open if 1 == 2
allow open if 0 ~ "/a"
deny 5 send if 3 == 9
kill send if 0 == 4 and 1 == 5 and 3 == 6
`, `
judge 0 18446744073709551615 4 0 0 => allow
judge 0 18446744073709551614 4 0 0 => deny 255
judge 0 18446744073709551615 3 0 0 => deny 255
judge 1 0 0 0 0 => kill
judge 3 0 0 0 0 => deny 7
judge 2 0 2 0 0 => deny 8
judge 2 0 3 0 0 => trace 4
judge 2 2 0 0 0 => trace 4
judge 8 0 0 0 9 => deny 5
judge 8 0 0 9 0 => deny 255
judge 8 4 5 0 6 => kill
judge 8 5 4 0 6 => deny 255
judge 9 0 0 0 0 => deny 255
judge 4294967295 0 0 0 0 => deny 255
log => -
phase 0 => 0
`)
	wantSession(t, lookedText, "judge 2 0 0 0 0 => trace 0\njudge 8 0 0 0 0 => trace 5\njudge 9 0 0 0 0 => allow")
}

func TestCallNumbers(t *testing.T) { // H1: one above 4294967295 counts as that, so that none comes to a lower one's
	wantSession(t, "else deny 3\nkill read\nkill open\n", `
judge 0 0 0 0 0 => kill
judge 2 0 0 0 0 => kill
judge 4294967295 0 0 0 0 => deny 3
judge 4294967296 0 0 0 0 => deny 3
judge 4294967298 0 0 0 0 => deny 3
judge 18446744069414584320 0 0 0 0 => deny 3
judge 18446744073709551615 0 0 0 0 => deny 3
`)
	wantSession(t, allowText, `
enter 0 4294967294 0 0 0 0 => ok
step 0 9 => 2
enter 0 4294967295 0 0 0 0 => ok
step 0 9 => 2
enter 0 4294967296 0 0 0 0 => ok
step 0 9 => 2
enter 0 18446744073709551615 0 0 0 0 => ok
step 0 9 => 2
enter 0 9 0 0 0 0 => ok
step 0 9 => 2
log => 0 4294967294 refused 38, 0 4294967295 refused 38, 0 4294967295 refused 38, 0 4294967295 refused 38, 0 9 refused 38
`)
}

func TestPlaces(t *testing.T) { // H1: pages, threads and times above 2147483648
	var lines, want []string
	for _, n := range []string{"2147483647", "2147483648", "2147483649", "4294967295", "4294967296", "4294967297", "9223372036854775807", "9223372036854775808", "18446744073709551614", greatest} {
		for _, c := range [][2]string{{"map N 1", "error 5"}, {"unmap N", "error 5"}, {"enter N 3 0 0 0 0", "error 1"}, {"step N 1", "error 1"}, {"step N 0", "0"}, {"phase N", "6"}, {"enter 1 3 0 0 0 0", "ok"}, {"step 1 N", "2"}} {
			lines, want = append(lines, strings.Replace(c[0], "N", n, 1)), append(want, c[1])
		}
	}
	lines, want = append(lines, "put 0 00", "put 64 00"), append(want, "error 5", "error 5")
	wantAnswers(t, allowText, lines, want)
}

func TestMapUnmap(t *testing.T) { // H1, H2
	wantSession(t, allowText, `
unmap 0 => error 5
map 0 0 => ok
put 0 00 => error 5
map 0 1 => ok
put 0 00 => ok
map 0 0 => ok
put 0 00 => error 5
map 0 2 => ok
put 0 00 => ok
map 0 0 => ok
map 0 4294967296 => ok
put 0 00 => ok
map 0 0 => ok
map 0 18446744073709551615 => ok
put 0 00 => ok
put 63 0000 => error 5
map 1 1 => ok
put 63 0000 => ok
unmap 0 => ok
unmap 0 => error 5
put 63 0000 => error 5
put 64 00 => ok
map 7 1 => ok
put 511 00 => ok
map 8 1 => error 5
unmap 8 => error 5
map 11 0 => error 5
unmap 7 => ok
put 511 00 => error 5
`)
}

func TestPut(t *testing.T) { // H1, H2
	wantSession(t, lookedText, "put 0  => ok\nput 64  => ok\nput 18446744073709551615  => ok\nput 0 00 => error 5\nput 18446744073709551615 00 => error 5\nmap 0 1 => ok\nput 18446744073709551615 0000 => error 5\nput 0 00 => ok")
	wantSession(t, lookedText, "map 1 1 => ok\nput 64 610062 => ok\nenter 2 4 64 0 0 0 => ok\nstep 2 90 => 6\nlog => 2 4 done \"61\"")
	for b := 1; b < 256; b++ {
		x := fmt.Sprintf("61%02x62", b)
		wantSession(t, lookedText, "map 1 1 => ok\nput 64 "+x+" => ok\nenter 2 4 64 0 0 0 => ok\nstep 2 90 => 8\nlog => 2 4 done \""+x+"\"")
	}
}

func TestPutWrong(t *testing.T) { // H2
	var l []string
	for b := range 256 {
		if c := string([]byte{byte(b)}); !strings.Contains("0123456789abcdef", c) {
			l = append(l, "put 0 "+c+"0", "put 0 0"+c, "put 0 00"+c+c, "put 0 "+c)
		}
	}
	l = append(l, "put", "put ", "put  ", "put 0", "put 0  ", "put  0 00", "put 0  00", "put 0 00 ", "put 0 00 00", "put 0 0", "put 0 000", "put 0 AB", "put 0 aB", "put 00", "put 00 00", "put 0x0 00", "put "+aboveNumbers+" 00", "put "+aboveNumbers+" ", "put \"0\" 00", "Put 0 00", "put\t0 00", "put 0 00\n")
	wantUnread(t, l...)
}

func TestWrongNumbers(t *testing.T) { // H1, H2: at each place of a number
	good := []string{"map 0 1", "unmap 0", "put 0 00", "enter 1 4 0 0 0 0", "judge 4 0 0 0 0", "step 0 1", "phase 0"}
	bad := []string{"", "00", "01", "000", "-1", "-0", "+1", "+0", "1_0", "0x1", "0b1", "0o1", "a", "1a", "a1", "1.", "1.0", "1e1", ".", "'1'", "\u0661", "1\x00", "\x001", "1\n", "\t1", aboveNumbers, "18446744073709551617", "28446744073709551615", "100000000000000000000", "000000000000000000001", strings.Repeat("9", 250), strings.Repeat("0", 250)}
	for _, line := range good {
		if a := run(t, allowText, []string{line})[0]; a == "error 4" {
			t.Errorf("%q => %q", line, a)
		}
		words := strings.Split(line, " ")
		for i := 1; i < len(words); i++ {
			if words[0] == "put" && i == 2 {
				continue
			}
			for _, b := range bad {
				l := slices.Clone(words)
				l[i] = b
				wantUnread(t, strings.Join(l, " "))
			}
			l := slices.Clone(words)
			l[i] = greatest
			if a := run(t, allowText, []string{strings.Join(l, " ")})[0]; a == "error 4" {
				t.Errorf("%q => %q", l, a)
			}
		}
	}
}

func TestWrongLines(t *testing.T) { // H2
	wantUnread(t, "", " ", "  ", "fly", "fly 1", "log ", " log", "log 1", "log  ", "logs", "lo", "Log", "LOG", "log\n", "log\x00", "sealed ", "sealed 0", " sealed", "seal", "free 512", "copy", "mem", "0", "ok", "error 4",
		"map", "map ", "map 0", "map 0 ", "map 0 1 ", "map 0 1 1", "map 0  1", "map  0 1", " map 0 1", "map 0\t1", "map,0 1", "map0 1",
		"unmap", "unmap ", "unmap 0 ", "unmap 0 0", "unmap  0", " unmap 0",
		"phase", "phase ", "phase 0 ", "phase 0 0", "phase  0", "phase n", "phase -1",
		"step", "step ", "step 0", "step 0 ", "step 0 1 ", "step 0 1 1", "step  0 1", "step 0  1", "step 0 -1",
		"enter", "enter 1", "enter 1 4", "enter 1 4 0", "enter 1 4 0 0 0", "enter 1 4 0 0 0 ", "enter 1 4 0 0 0 0 ", "enter 1 4 0 0 0 0 0", "enter 1  4 0 0 0 0", "enter 1 stat 0 0 0 0",
		"judge", "judge 4", "judge 4 0 0 0", "judge 4 0 0 0 ", "judge 4 0 0 0 0 ", "judge 4 0 0 0 0 0", "judge 1 2 3 4 "+aboveNumbers, "judge stat 0 0 0 0")
}

func TestLengthOfLines(t *testing.T) { // H2
	head := "put 64 "
	longest := head + strings.Repeat("61", (api.MaxLine-len(head))/2)
	even := "put 100 " + strings.Repeat("61", (api.MaxLine-len("put 100 "))/2)
	if len(even) != api.MaxLine || len(longest) != api.MaxLine-1 {
		t.Fatalf("lines of %d and %d bytes", len(even), len(longest))
	}
	lines := []string{"map 1 1", "map 2 1", "map 3 1", "map 4 1", longest, even}
	wantAnswers(t, allowText, lines, slices.Repeat([]string{"ok"}, len(lines)))
	wantUnread(t, "put 64 "+strings.Repeat("0", api.MaxLine-len("put 64 ")+1), "put 0 "+strings.Repeat("00", 148), strings.Repeat("x", api.MaxLine), strings.Repeat("x", api.MaxLine+1), strings.Repeat(" ", api.MaxLine+1), "log"+strings.Repeat(" ", 1000), strings.Repeat("log ", 100000))
}

func TestEnterAndStep(t *testing.T) { // H1, H2
	wantSession(t, "else allow\nkill read if 0 == 1\n", `
phase 0 => 0
step 0 5 => 0
enter 0 3 0 0 0 0 => ok
enter 0 3 0 0 0 0 => error 7
phase 0 => 1
step 0 0 => 0
phase 0 => 1
step 0 1 => 1
phase 0 => 5
step 0 0 => 0
step 0 1 => 1
step 0 1 => 0
phase 0 => 0
enter 3 3 0 0 0 0 => error 1
step 3 1 => error 1
step 3 0 => 0
phase 3 => 6
enter 1 0 1 0 0 0 => ok
phase 1 => 1
step 1 1000 => 1
phase 1 => 6
enter 1 0 0 0 0 0 => error 8
step 1 1 => error 8
step 1 0 => 0
step 1 1000 => error 8
phase 2 => 0
enter 2 0 2 0 0 0 => ok
step 2 2 => 2
log => 0 3 done 0, 1 0 killed, 2 0 done 2 0
`)
}

func TestLongestCall(t *testing.T) { // H1: a call of the most steps that one has, in one line
	path := strings.Repeat("61", api.MaxPath)
	wantSession(t, lookedText, "map 1 1 => ok\nput 64 "+path+" => ok\nenter 0 5 64 64 0 0 => ok\nphase 0 => 1\nstep 0 1 => 1\nphase 0 => 2\nstep 0 81 => 81\nphase 0 => 2\nstep 0 1 => 1\nphase 0 => 3\nstep 0 1 => 1\nphase 0 => 4\nsealed => 0\nstep 0 1 => 1\nphase 0 => 5\nsealed => 2\nstep 0 1000 => 1\nphase 0 => 0\nsealed => 0\nenter 0 5 64 64 0 0 => ok\nstep 0 1001 => 86\nlog => 0 5 done \""+path+"\" \""+path+"\", 0 5 done \""+path+"\" \""+path+"\"")
}

func TestSealed(t *testing.T) { // H1
	wantSession(t, lookedText, `
map 0 1 => ok
sealed => 0
enter 0 5 0 0 0 0 => ok
enter 1 4 0 0 0 0 => ok
enter 2 7 0 0 0 0 => ok
step 0 5 => 5
sealed => 2
step 1 4 => 4
sealed => 3
step 2 4 => 4
sealed => 3
step 1 1 => 1
sealed => 2
step 2 1 => 1
sealed => 4
step 0 1 => 1
sealed => 2
step 2 1 => 1
sealed => 0
log => 1 4 done "", 0 5 done "" "", 2 7 done "" "" 0
`)
}

func TestLogOfEachCall(t *testing.T) { // H1: what is told of each argument, looked at or not
	lines := []string{"map 1 1", "map 2 1", "put 64 2f61ff0100", "put 128 02000050fffefdfc0000000000000000", "put 144 0200ffff000000000000000000000000"}
	lines = append(lines, "enter 0 0 18446744073709551615 1 64 128", "enter 1 1 2 4294967296 64 128", "step 0 90", "step 1 90")
	lines = append(lines, "enter 0 2 64 3 18446744073709551614 9", "enter 1 3 5 64 64 64", "step 0 90", "step 1 90")
	lines = append(lines, "enter 0 4 65 64 64 64", "enter 1 5 66 64 3 3", "step 0 90", "step 1 90")
	lines = append(lines, "enter 0 6 64 128 64 3", "enter 1 7 67 64 128 4", "step 0 90", "step 1 90")
	lines = append(lines, "enter 2 8 64 65 144 128", "step 2 90", "log")
	want := `0 0 done 18446744073709551615 1, 1 1 done 2 4294967296, 0 2 done "2f61ff01" 3 18446744073709551614, 1 3 done 5, 0 4 done "61ff01", 1 5 done "ff01" "2f61ff01", 0 6 done 64 4294901244:80, 1 7 done "01" "2f61ff01" 128, 2 8 done 64 65 0:65535 128`
	for _, text := range []string{lookedText, allowText} {
		l := run(t, text, lines)
		if got := l[len(l)-1]; got != want {
			t.Errorf("log => %s, want %s", got, want)
		}
	}
}

func TestLogOfRefused(t *testing.T) { // H1
	wantSession(t, "else deny 255\nallow open if 0 ~ \"**\"\nallow connect if 1 in 0.0.0.0/0:0-9\ndeny 1 read\nkill write\n", `
log => -
map 1 1 => ok
enter 0 2 64 0 0 0 => ok
log => -
step 0 90 => 5
log => 0 2 done "" 0 0
enter 0 2 1 0 0 0 => ok
step 0 90 => 2
enter 0 6 0 64 0 0 => ok
step 0 90 => 17
put 64 02 => ok
enter 0 6 0 64 0 0 => ok
step 0 90 => 20
put 64 0200ffff => ok
enter 0 6 0 64 0 0 => ok
step 0 90 => 18
put 64 61616161616161616161616161616161616161616161616161616161616161616161616161616161 => ok
enter 0 2 64 0 0 0 => ok
step 0 41 => 41
step 0 90 => 4
put 104 61 => ok
enter 0 2 64 0 0 0 => ok
step 0 90 => 42
enter 0 0 0 0 0 0 => ok
step 0 90 => 1
enter 1 1 7 7 7 7 => ok
step 1 90 => 1
enter 2 9 0 0 0 0 => ok
step 2 90 => 1
log => 0 2 done "" 0 0, 0 2 refused 14, 0 6 refused 22, 0 6 done 0 0:0, 0 6 refused 255, 0 2 done "61616161616161616161616161616161616161616161616161616161616161616161616161616161" 0 0, 0 2 refused 36, 0 0 refused 1, 1 1 killed, 2 9 refused 255
`)
}

func TestRegisters(t *testing.T) { // H1: each of the four stands where it was told, with all its bits
	for i := range api.Args {
		for _, n := range []string{"0", "1", "4294967296", "9223372036854775808", greatest} {
			args := []string{"7", "7", "64", "7"}
			args[i] = n
			lines := []string{"map 1 1", "put 64 02000000000000000000000000000000", "enter 2 8 " + strings.Join(args, " "), "step 2 90", "log"}
			got := run(t, allowText, lines)[4]
			told := slices.Clone(args)
			told[2] = "0:0"
			want := "2 8 done " + strings.Join(told, " ")
			if i == 2 {
				want = "2 8 refused 14"
			}
			if got != want {
				t.Errorf("%q: log => %s, want %s", args, got, want)
			}
		}
	}
}

func TestSessionsApart(t *testing.T) { // H1, Z2: of each session a ward of its own; lists are not written into, nor shared
	back := []string{"map 0 1", "enter 0 3 1 0 0 0", "step 0 9", "log", "fly", "put 0 00", "behind"}
	lines := back[:6]
	kept := slices.Clone(back)
	first := run(t, allowText, lines)
	want := slices.Clone(first)
	second := run(t, allowText, lines)
	for i := range first {
		first[i] = "x"
	}
	_ = append(first, "y")
	if !slices.Equal(second, want) {
		t.Errorf("the second session: %q, want %q", second, want)
	}
	if !slices.Equal(back, kept) {
		t.Errorf("the lines are %q, were %q", back, kept)
	}
	if l := run(t, allowText, []string{"log", "put 0 00"}); l[0] != "-" || l[1] != "error 5" {
		t.Errorf("a new session: %q", l)
	}
}

func TestErrorNumbers(t *testing.T) { // H2
	for e := api.OK; e <= api.ErrSeal; e++ {
		if s, want := errorText(e), fmt.Sprintf("error %d", int(e)); s != want {
			t.Errorf("%v is told by %q, want %q", e, s, want)
		}
	}
}

// drawer of numbers that look drawn, the same each time.
func drawer(seed uint64) func(n int) int {
	return func(n int) int {
		seed = seed*6364136223846793005 + 1442695040888963407
		return int(seed >> 33 % uint64(n))
	}
}

// model: the document's table, by the ward's own calls.
type model struct {
	p api.Policy
	w *ward.Ward
}

func told(err error, s string) string {
	if err != nil {
		return fmt.Sprintf("error %d", err)
	}
	return s
}

// drawLine gives one that can be read, and does it: its answer.
func (m model) drawLine(draw func(int) int) (string, string) {
	args := [api.Args]uint64{}
	for i := range args {
		args[i] = []uint64{64, 128, 70, uint64(draw(200)), 1 << 63}[draw(5)]
	}
	c := api.Call{Arch: api.Arch, Nr: uint32(draw(api.Calls + 1)), Args: args}
	registers := strings.Trim(fmt.Sprint(c.Nr, " ", c.Args), "[]")
	registers = strings.ReplaceAll(registers, " [", " ")
	n := draw(api.Threads + 1)
	switch draw(10) {
	case 0:
		page, write := draw(4), draw(2)
		return fmt.Sprintf("map %d %d", page, write), told(m.w.Map(page, write == 1), "ok")
	case 1:
		page := draw(10)
		return fmt.Sprintf("unmap %d", page), told(m.w.Unmap(page), "ok")
	case 2:
		a, s := uint64(draw(140)), []string{"", "/tmp/x\x00", "\x00", "abc", "\x02\x00\x00\x50\x0a\x00\x00\x01\x00\x00\x00\x00\x00\x00\x00\x00"}[draw(5)]
		return fmt.Sprintf("put %d %x", a, s), told(m.w.Put(a, s), "ok")
	case 3, 4:
		return fmt.Sprintf("enter %d %s", n, registers), told(m.w.Enter(n, c), "ok")
	case 5:
		return "judge " + registers, m.judge(c)
	case 6, 7:
		times := []int{0, 1, draw(20), 90, 5000}[draw(5)]
		return fmt.Sprintf("step %d %d", n, times), m.step(n, times)
	case 8:
		return fmt.Sprintf("phase %d", n), fmt.Sprint(m.w.Phase(n))
	}
	if draw(2) == 0 {
		return "sealed", fmt.Sprint(m.w.Mem().Sealed())
	}
	return "log", m.log()
}

func (m model) judge(c api.Call) string {
	v, err := policy.Judge(m.p, c)
	return told(err, map[int]string{api.Allow: "allow", api.Kill: "kill", api.Deny: fmt.Sprint("deny ", v.Do.Errno), api.Trace: fmt.Sprint("trace ", v.Rule)}[v.Do.Kind])
}

func (m model) step(n, times int) string {
	for k := range times {
		did, err := m.w.Step(n)
		if err != nil && k > 0 {
			return fmt.Sprint(k)
		}
		if err != nil || !did {
			return told(err, fmt.Sprint(k))
		}
	}
	return fmt.Sprint(times)
}

func (m model) log() string {
	s := ""
	for _, e := range m.w.Log() {
		s += fmt.Sprintf(", %d %d", e.Thread, e.Call.Nr)
		switch e.Kind {
		case api.Refused:
			s += fmt.Sprint(" refused ", e.Errno)
		case api.Killed:
			s += " killed"
		case api.Done:
			s += " done"
			for i, kind := range api.Forms()[e.Call.Nr].Args {
				s += []string{"", fmt.Sprint(" ", e.Call.Args[i]), " \"" + hex.EncodeToString([]byte(e.Values[i].Path)) + "\"", fmt.Sprintf(" %d:%d", e.Values[i].IP, e.Values[i].Port)}[kind]
			}
		}
	}
	return map[bool]string{true: "-", false: strings.TrimPrefix(s, ", ")}[s == ""]
}

func TestDrawnSessions(t *testing.T) { // H1, H2: sessions are what the ward does
	draw := drawer(8)
	texts := []string{sessionText, lookedText, allowText, "else kill\nallow open if 0 ~ \"/tmp/*\"\nallow stat\nallow read\n", "else deny 9\nallow rename if 0 ~ \"**\" and 1 ~ \"?\"\nallow send if 2 in 10.0.0.0/8:80-80\nkill read if 0 == 64\n"}
	kinds := map[string]int{}
	for range 600 {
		text := texts[draw(len(texts))]
		p, err := policy.Parse(text)
		if err != nil {
			t.Fatal(err)
		}
		w, err := ward.New(p)
		if err != nil {
			t.Fatal(err)
		}
		m := model{p, w}
		var lines, want []string
		for range 1 + draw(api.MaxLines) {
			line, answer := m.drawLine(draw)
			lines, want = append(lines, line), append(want, answer)
			kinds[strings.Split(line, " ")[0]+" "+strings.Trim(strings.Split(answer, " ")[0], "0123456789")]++
		}
		wantAnswers(t, text, lines, want)
		if t.Failed() {
			t.Fatalf("the session: %q", lines)
		}
	}
	for _, k := range []string{"map ok", "unmap ok", "unmap error", "put ok", "put error", "enter ok", "enter error", "judge allow", "judge deny", "judge kill", "judge trace", "step ", "step error", "phase ", "sealed ", "log ", "log -"} {
		if kinds[k] == 0 {
			t.Errorf("no session has %q", k)
		}
	}
}

func TestAnyLines(t *testing.T) { // H2, Z1: whatever the lines are, each has an answer, and none is a panic
	draw := drawer(9)
	words := []string{"map", "unmap", "put", "enter", "judge", "step", "phase", "sealed", "log", "", "0", "1", "2", "3", "64", "01", "00", "ff", "2f7800", greatest, aboveNumbers, "4294967296", "x", "\x00", "\xff", "\"", "é"}
	for range 3000 {
		lines := make([]string, draw(40))
		for i := range lines {
			l := make([]string, draw(9))
			for k := range l {
				l[k] = words[draw(len(words))]
			}
			lines[i] = strings.Join(l, " ")
		}
		if l := run(t, lookedText, lines); slices.Contains(l, "") || slices.Contains(l, "error 0") {
			t.Fatalf("%q: %q", lines, l)
		}
	}
}
