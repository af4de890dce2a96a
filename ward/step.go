package ward

import (
	"errors"
	"strings"

	"doorward/addr"
	"doorward/api"
	"doorward/policy"
)

// nought: the end of a path's bytes.
const nought = "\x00"

// filter asks what registers alone tell. (No error is left of a policy that was checked; here and in judge it would be no action, and kill.)
func (w *Ward) filter(n int) {
	t := &w.threads[n]
	v, _ := policy.Judge(w.policy, t.call)
	if v.Do.Kind == api.Trace {
		t.phase = Snap
		return
	}
	w.do(n, v.Do, Exec)
}

// snap reads one byte more of what the call's pointers lead to. (A call that is traced has a pointer, and is in this phase till the last one was read.)
func (w *Ward) snap(n int) {
	t := &w.threads[n]
	pointers, kinds := pointersOf(t.call)
	at := pointers[t.seen]
	b, err := w.memory.Byte(t.args[at] + uint64(len(t.read)))
	if err != nil {
		w.fail(n, err)
		return
	}
	t.read += string([]byte{b})
	if !isWhole(kinds[at], t.read) {
		return
	}
	v, err := valueOf(kinds[at], t.read)
	if err != nil {
		w.fail(n, err)
		return
	}
	t.values[at] = v
	t.read = ""
	t.seen++
	if t.seen == len(pointers) {
		t.phase = Judge
	}
}

// judge asks what the policy tells, also of what was read.
func (w *Ward) judge(n int) {
	t := &w.threads[n]
	a, _ := policy.Decide(w.policy, t.call, t.values)
	w.do(n, a, Seal)
}

// seal lets the call's pointers lead to what was looked at.
func (w *Ward) seal(n int) {
	t := &w.threads[n]
	pointers, kinds := pointersOf(t.call)
	for _, at := range pointers {
		a, err := w.sealValue(kinds[at], t.values[at])
		if err != nil {
			w.fail(n, err)
			return
		}
		t.args[at], t.sealed[at] = a, true
	}
	t.phase = Exec
}

// exec executes the call, by its registers alone: what was read ahead of it does not count here.
func (w *Ward) exec(n int) {
	t := &w.threads[n]
	if !isCall(t.call) {
		w.refuse(n, api.ENOSYS)
		return
	}
	pointers, kinds := pointersOf(t.call)
	var values api.Values
	for _, at := range pointers {
		v, err := w.follow(kinds[at], t.args[at])
		if err != nil {
			w.fail(n, err)
			return
		}
		values[at] = v
	}
	w.end(n, api.Entry{Kind: api.Done, Values: values})
}

// do an action: the call ends, or goes on to the next phase.
func (w *Ward) do(n int, a api.Action, next int) {
	switch a.Kind {
	case api.Allow:
		w.threads[n].phase = next
	case api.Deny:
		w.refuse(n, a.Errno)
	default:
		w.end(n, api.Entry{Kind: api.Killed})
	}
}

// fail ends a call whose pointers could not be followed, or sealed.
func (w *Ward) fail(n int, err error) {
	w.refuse(n, errnoOf(err))
}

func (w *Ward) refuse(n int, errno int) {
	w.end(n, api.Entry{Kind: api.Refused, Errno: errno})
}

// end a thread's call with an entry that tells what came of it.
func (w *Ward) end(n int, e api.Entry) {
	t := &w.threads[n]
	for i := range api.Args {
		if t.sealed[i] {
			_ = w.memory.Free(t.args[i]) // nobody else frees it: there is no error
		}
	}
	e.Thread, e.Call = n, t.call
	w.log = append(w.log, e)
	*t = thread{phase: Idle}
	if e.Kind == api.Killed {
		t.phase = Dead
	}
}

// sealValue seals the bytes of what a pointer led to: their page's address.
func (w *Ward) sealValue(kind int, v api.Value) (uint64, error) {
	s, err := bytesOf(kind, v)
	if err != nil {
		return 0, err
	}
	return w.memory.Seal(s)
}

// follow gives what a pointer leads to now.
func (w *Ward) follow(kind int, a uint64) (api.Value, error) {
	if kind == api.Path {
		s, err := w.memory.Text(a)
		return api.Value{Path: s}, err
	}
	s, err := w.memory.Get(a, api.AddrBytes)
	if err != nil {
		return api.Value{}, err
	}
	return valueOf(kind, s)
}

// isWhole: are these bytes, of which the last was read last, as many as tell what a pointer of this kind leads to, or that it may not lead there?
func isWhole(kind int, read string) bool {
	if kind == api.Addr {
		return len(read) == api.AddrBytes
	}
	return strings.HasSuffix(read, nought) || len(read) > api.MaxPath
}

// valueOf gives what whole bytes tell.
func valueOf(kind int, s string) (api.Value, error) {
	if kind == api.Addr {
		ip, port, err := addr.Read(s)
		return api.Value{IP: ip, Port: port}, err
	}
	path, ended := strings.CutSuffix(s, nought)
	if !ended {
		return api.Value{}, api.ErrLong
	}
	return api.Value{Path: path}, nil
}

// bytesOf gives the bytes that tell a value.
func bytesOf(kind int, v api.Value) (string, error) {
	if kind == api.Addr {
		return addr.Bytes(v.IP, v.Port)
	}
	return v.Path + nought, nil
}

// errnoOf gives the number of the denial that an error comes to.
func errnoOf(err error) int {
	switch {
	case errors.Is(err, api.ErrFault):
		return api.EFAULT
	case errors.Is(err, api.ErrLong):
		return api.ENAMETOOLONG
	case errors.Is(err, api.ErrSeal):
		return api.ENOMEM
	}
	return api.EINVAL // ErrShape: no other is left
}

func isCall(c api.Call) bool {
	return c.Nr < api.Calls
}

// pointersOf gives the places of a call's pointers, in order, and the kinds of all its arguments; none, if there is no such call.
func pointersOf(c api.Call) ([]int, [api.Args]int) {
	if !isCall(c) {
		return nil, [api.Args]int{}
	}
	kinds := api.Forms()[c.Nr].Args
	var l []int
	for i := range api.Args {
		if kinds[i] == api.Path || kinds[i] == api.Addr {
			l = append(l, i)
		}
	}
	return l, kinds
}
