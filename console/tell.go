package console

import (
	"strconv"
	"strings"

	"doorward/api"
)

const quote = `"`

func errorText(err error) string {
	n, _ := err.(api.Errno) // the layers tell no others
	return "error " + strconv.Itoa(int(n))
}

func okText(err error) (string, error) {
	if err != nil {
		return "", err
	}
	return "ok", nil
}

func verdictText(v api.Verdict) string {
	switch v.Do.Kind {
	case api.Allow:
		return "allow"
	case api.Kill:
		return "kill"
	case api.Deny:
		return "deny " + strconv.Itoa(v.Do.Errno)
	}
	return "trace " + strconv.Itoa(v.Rule)
}

func logText(log []api.Entry) string {
	if len(log) == 0 {
		return "-"
	}
	l := make([]string, len(log))
	for i := range log {
		l[i] = entryText(log[i])
	}
	return strings.Join(l, ", ")
}

func entryText(e api.Entry) string {
	s := strconv.Itoa(e.Thread) + " " + numberText(uint64(e.Call.Nr)) + " "
	switch e.Kind {
	case api.Refused:
		return s + "refused " + strconv.Itoa(e.Errno)
	case api.Killed:
		return s + "killed"
	}
	return s + "done" + argsText(e)
}

// argsText tells the arguments of a call that was executed: so it has a form.
func argsText(e api.Entry) string {
	s := ""
	for i, kind := range api.Forms()[e.Call.Nr].Args {
		v := e.Values[i]
		switch kind {
		case api.Num:
			s += " " + numberText(e.Call.Args[i])
		case api.Path:
			s += " " + quote + bytesText(v.Path) + quote
		case api.Addr:
			s += " " + numberText(uint64(v.IP)) + ":" + strconv.Itoa(v.Port)
		}
	}
	return s
}

func numberText(n uint64) string {
	return strconv.FormatUint(n, 10)
}

func bytesText(s string) string {
	b := make([]byte, 0, 2*len(s))
	for i := range len(s) {
		b = append(b, hexDigits[s[i]>>4], hexDigits[s[i]&15])
	}
	return string(b)
}
