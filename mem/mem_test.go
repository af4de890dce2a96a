package mem

import (
	"math"
	"slices"
	"strings"
	"testing"

	"doorward/api"
)

// behind is the first address that no thread uses, end the first one that no page has.
const (
	behind = api.Pages * api.Page
	end    = (api.Pages + api.Seals) * api.Page
)

func wantErr(t *testing.T, what string, err, want error) {
	t.Helper()
	if err != want {
		t.Errorf("%s: %v, want %v", what, err, want)
	}
}

func wantText(t *testing.T, what, s string, err error, want string, wantE error) {
	t.Helper()
	if s != want || err != wantE {
		t.Errorf("%s: %q, %v, want %q, %v", what, s, err, want, wantE)
	}
}

// mapped gives memory with these pages, that may be written.
func mapped(t *testing.T, l ...int) *Mem {
	t.Helper()
	m := New()
	for _, n := range l {
		wantErr(t, "Map", m.Map(n, true), nil)
	}
	return m
}

// look: what stands at each address, -1 where nothing can be read.
func look(m *Mem) []int {
	l := make([]int, end+2*api.Page)
	for a := range l {
		b, err := m.Byte(uint64(a))
		l[a] = int(b)
		if err != nil {
			l[a] = -1
		}
	}
	return l
}

func TestNew(t *testing.T) { // C1, C2
	m := New()
	for a, b := range look(m) {
		if b != -1 {
			t.Errorf("Byte(%d) can be read", a)
		}
		wantErr(t, "Put", m.Put(uint64(a), "x"), api.ErrFault)
	}
	if n := m.Sealed(); n != 0 {
		t.Errorf("Sealed() = %d", n)
	}
	for n := range api.Pages {
		wantErr(t, "Unmap", m.Unmap(n), api.ErrFault)
	}
	if n := New(); n == m {
		t.Error("New() twice: one object")
	}
}

func TestMapEachPage(t *testing.T) { // C1: a page's addresses are those from its number times Page on, no others.
	for n := range api.Pages {
		m := mapped(t, n)
		for a, b := range look(m) {
			want := -1
			if a/api.Page == n {
				want = 0
			}
			if b != want {
				t.Errorf("page %d: at %d: %d, want %d", n, a, b, want)
			}
		}
		wantErr(t, "Unmap", m.Unmap(n), nil)
		if !slices.Equal(look(m), look(New())) {
			t.Errorf("page %d can be read though it is not mapped", n)
		}
		wantErr(t, "Unmap again", m.Unmap(n), api.ErrFault)
	}
}

func TestMapNoPage(t *testing.T) { // C1
	m := mapped(t, 0, api.Pages-1)
	if _, err := m.Seal("s"); err != nil {
		t.Fatal(err)
	}
	before := look(m)
	for _, n := range []int{-1, api.Pages, api.Pages + 1, api.Pages + api.Seals - 1, api.Pages + api.Seals, -api.Pages, 1 << 32, math.MinInt, math.MaxInt} {
		wantErr(t, "Map to be written", m.Map(n, true), api.ErrFault)
		wantErr(t, "Map to be read", m.Map(n, false), api.ErrFault)
		wantErr(t, "Unmap", m.Unmap(n), api.ErrFault)
	}
	if !slices.Equal(look(m), before) {
		t.Error("something was changed")
	}
	wantErr(t, "Put into a sealed page", m.Put(behind, "x"), api.ErrFault)
	if n := m.Sealed(); n != 1 {
		t.Errorf("Sealed() = %d", n)
	}
}

func TestMapAgain(t *testing.T) { // C1
	m := mapped(t, 3)
	wantErr(t, "Put", m.Put(3*api.Page+5, "abc"), nil)
	before := look(m)
	for _, write := range []bool{true, false, false, true} {
		wantErr(t, "Map", m.Map(3, write), nil)
		if !slices.Equal(look(m), before) {
			t.Fatal("the bytes of a mapped page did not stay")
		}
		want := error(api.ErrFault)
		if write {
			want = nil
		}
		wantErr(t, "Put", m.Put(3*api.Page+5, "abc"), want)
		wantErr(t, "Put", m.Put(3*api.Page+6, "z"), want)
		if write {
			wantErr(t, "Put back", m.Put(3*api.Page+6, "b"), nil)
		}
	}
}

func TestUnmapForgets(t *testing.T) { // C1
	for _, write := range []bool{true, false} {
		m := mapped(t, 2, 3)
		wantErr(t, "Put", m.Put(2*api.Page, strings.Repeat("x", 2*api.Page)), nil)
		wantErr(t, "Unmap", m.Unmap(2), nil)
		wantErr(t, "Put", m.Put(2*api.Page, "y"), api.ErrFault)
		wantErr(t, "Map", m.Map(2, write), nil)
		s, err := m.Get(2*api.Page, 2*api.Page)
		wantText(t, "Get", s, err, strings.Repeat("\x00", api.Page)+strings.Repeat("x", api.Page), nil)
		want := error(api.ErrFault)
		if write {
			want = nil
		}
		wantErr(t, "Put", m.Put(2*api.Page, "y"), want)
	}
}

func TestByte(t *testing.T) { // C2
	m := mapped(t, 0, api.Pages-1)
	wantErr(t, "Put", m.Put(behind-1, "\xff"), nil)
	wantErr(t, "Put", m.Put(0, "\x01"), nil)
	if _, err := m.Seal("\xfe"); err != nil {
		t.Fatal(err)
	}
	for _, x := range []struct {
		a   uint64
		b   byte
		err error
	}{
		{0, 1, nil},
		{1, 0, nil},
		{api.Page - 1, 0, nil},
		{api.Page, 0, api.ErrFault},
		{behind - api.Page - 1, 0, api.ErrFault},
		{behind - 1, 255, nil},
		{behind, 254, nil},
		{behind + api.Page - 1, 0, nil},
		{behind + api.Page, 0, api.ErrFault},
		{end - 1, 0, api.ErrFault},
		{end, 0, api.ErrFault},
		{1 << 32, 0, api.ErrFault},
		{1 << 63, 0, api.ErrFault},
		{1 << 6 << 32, 0, api.ErrFault},
		{math.MaxUint64, 0, api.ErrFault},
	} {
		if b, err := m.Byte(x.a); b != x.b || err != x.err {
			t.Errorf("Byte(%d) = %d, %v, want %d, %v", x.a, b, err, x.b, x.err)
		}
	}
}

func TestGet(t *testing.T) { // C2
	m := mapped(t, 0, 1, 3, api.Pages-1)
	wantErr(t, "Put", m.Put(api.Page-2, "ab\xffd"), nil)
	wantErr(t, "Put", m.Put(behind-2, "yz"), nil)
	if _, err := m.Seal("AB"); err != nil {
		t.Fatal(err)
	}
	for _, x := range []struct {
		a   uint64
		n   int
		s   string
		err error
	}{
		{0, 0, "", nil},
		{0, 1, "\x00", nil},
		{api.Page - 2, 4, "ab\xffd", nil},
		{api.Page - 1, 4, "b\xffd\x00", nil},
		{2*api.Page - 1, 1, "\x00", nil},
		{2*api.Page - 1, 2, "", api.ErrFault},
		{3*api.Page - 1, 2, "", api.ErrFault},
		{3*api.Page - 1, 0, "", nil}, // none of no bytes can't be read
		{math.MaxUint64, 0, "", nil},
		{behind - 2, 4, "yzAB", nil},
		{behind + api.Page - 1, 2, "", api.ErrFault},
		{math.MaxUint64, 1, "", api.ErrFault},
		{math.MaxUint64, 2, "", api.ErrFault}, // the second is at 0, the first nowhere
		{math.MaxUint64 - 2, api.Pages * api.Page, "", api.ErrFault},
		{0, -1, "", api.ErrBound},
		{0, api.Pages*api.Page + 1, "", api.ErrBound},
		{0, math.MinInt, "", api.ErrBound},
		{0, math.MaxInt, "", api.ErrBound},
		{math.MaxUint64, -1, "", api.ErrBound}, // named ahead of ErrFault
		{math.MaxUint64, api.Pages*api.Page + 1, "", api.ErrBound},
		{0, api.Pages * api.Page, "", api.ErrFault},
	} {
		s, err := m.Get(x.a, x.n)
		if s != x.s || err != x.err {
			t.Errorf("Get(%d, %d) = %q, %v, want %q, %v", x.a, x.n, s, err, x.s, x.err)
		}
	}
}

func TestGetAll(t *testing.T) { // C2: the most that may be asked for, also where sealed pages are some of it
	m := mapped(t, 0, 1, 2, 3, 4, 5, 6, 7)
	whole := ""
	for i := range api.Pages * api.Page {
		whole += string(rune('a' + i%26))
	}
	wantErr(t, "Put", m.Put(0, whole), nil)
	s, err := m.Get(0, behind)
	wantText(t, "Get", s, err, whole, nil)
	s, err = m.Get(1, behind)
	wantText(t, "Get", s, err, "", api.ErrFault)
	if _, err := m.Seal("!"); err != nil {
		t.Fatal(err)
	}
	s, err = m.Get(1, behind)
	wantText(t, "Get", s, err, whole[1:]+"!", nil)
	wantErr(t, "Put of one too many", m.Put(0, whole+"x"), api.ErrFault)
}

func TestPut(t *testing.T) { // C2
	for _, x := range []struct {
		a   uint64
		s   string
		err error
	}{
		{api.Page, "x", nil},
		{2*api.Page - 1, "xy", nil}, // across two pages
		{api.Page, strings.Repeat("x", 2*api.Page), nil},
		{api.Page + 3, strings.Repeat("x", api.Page), nil},
		{3*api.Page - 1, "x", nil},
		{3*api.Page - 1, "xy", api.ErrFault}, // the second in a page that may not be written
		{4 * api.Page, "x", api.ErrFault},
		{api.Page - 1, "xy", api.ErrFault}, // the first in no mapped page
		{api.Page, strings.Repeat("x", 2*api.Page+1), api.ErrFault},
		{api.Page, strings.Repeat("x", end+100), api.ErrFault},
		{3 * api.Page, "x", api.ErrFault},
		{behind - 1, "xy", api.ErrFault}, // the second in a sealed page
		{behind, "x", api.ErrFault},
		{behind + api.Page, "x", api.ErrFault},
		{end, "x", api.ErrFault},
		{math.MaxUint64, "x", api.ErrFault},
		{math.MaxUint64 - 1, strings.Repeat("x", 4+api.Page), api.ErrFault},
		{1 << 6 << 32, "x", api.ErrFault},
		{0, "", nil}, // none of no bytes can't be written
		{3 * api.Page, "", nil},
		{behind, "", nil},
		{math.MaxUint64, "", nil},
		{api.Page + 1, "\x00\xff\x80", nil},
	} {
		m := mapped(t, 1, 2, api.Pages-1)
		wantErr(t, "Map", m.Map(3, false), nil)
		if _, err := m.Seal("sss"); err != nil {
			t.Fatal(err)
		}
		wantErr(t, "Put", m.Put(api.Page, strings.Repeat("o", 2*api.Page)), nil)
		want := look(m)
		if err := m.Put(x.a, x.s); err != x.err {
			t.Errorf("Put(%d, %q): %v, want %v", x.a, x.s, err, x.err)
		}
		for i := range len(x.s) {
			if x.err == nil {
				want[x.a+uint64(i)] = int(x.s[i])
			}
		}
		if !slices.Equal(look(m), want) {
			t.Errorf("Put(%d, %q): what stands there then is wrong", x.a, x.s)
		}
	}
}

func TestPutRound(t *testing.T) { // C2: nothing lands at 0, where addresses go on behind the greatest
	m := mapped(t, 0, 1, 2, 3, 4, 5, 6, 7)
	before := look(m)
	for k := range 5 {
		a := math.MaxUint64 - uint64(k)
		wantErr(t, "Put", m.Put(a, "abcdefgh"), api.ErrFault)
		s, err := m.Get(a, 8)
		wantText(t, "Get", s, err, "", api.ErrFault)
		s, err = m.Text(a)
		wantText(t, "Text", s, err, "", api.ErrFault)
	}
	if !slices.Equal(look(m), before) {
		t.Error("something was changed")
	}
}

func TestText(t *testing.T) { // C2
	most := strings.Repeat("p", api.MaxPath)
	for _, x := range []struct {
		what, put string
		a         uint64
		s         string
		err       error
	}{
		{"an empty one", "\x00abc", 0, "", nil},
		{"one", "abc\x00def", 0, "abc", nil},
		{"any bytes", "\xff\x01\x80\n\x00", 7, "\xff\x01\x80\n", nil},
		{"the most", most + "\x00", 0, most, nil},
		{"one more", most + "q\x00", 0, "", api.ErrLong},
		{"many more", most + most + most, 0, "", api.ErrLong},
		{"its end on the next page", "abc\x00", api.Page - 3, "abc", nil},
		{"across pages", "abcdef\x00", api.Page - 3, "abcdef", nil},
		{"the most, its end on the next page", most + "\x00", api.Page - api.MaxPath, most, nil},
		{"up to the last byte", "abc\x00", 2*api.Page - 4, "abc", nil},
		{"no end", "abcd", 2*api.Page - 4, "", api.ErrFault},
		{"the last byte", "\x00", 2*api.Page - 1, "", nil},
		{"the most, and what is behind can't be read", most, 2*api.Page - api.MaxPath, "", api.ErrFault},
		{"one more, and what is behind can't be read", most + "p", 2*api.Page - api.MaxPath - 1, "", api.ErrLong},
	} {
		m := mapped(t, 0, 1)
		wantErr(t, "Put", m.Put(x.a, x.put), nil)
		s, err := m.Text(x.a)
		wantText(t, "Text: "+x.what, s, err, x.s, x.err)
		wantErr(t, "Map", m.Map(0, false), nil)
		wantErr(t, "Map", m.Map(1, false), nil)
		s, err = m.Text(x.a)
		wantText(t, "Text, not to be written: "+x.what, s, err, x.s, x.err)
	}
	for _, a := range []uint64{0, 2 * api.Page, behind, end, math.MaxUint64} {
		m := mapped(t, 1)
		s, err := m.Text(a)
		wantText(t, "Text where nothing is", s, err, "", api.ErrFault)
	}
}

func TestTextSealed(t *testing.T) { // C2, C3
	m := mapped(t, api.Pages-1)
	wantErr(t, "Put", m.Put(behind-1, "x"), nil)
	for _, s := range []string{"abc", strings.Repeat("y", api.Page), "z"} {
		if _, err := m.Seal(s); err != nil {
			t.Fatal(err)
		}
	}
	s, err := m.Text(behind - 1)
	wantText(t, "from the last page of threads on", s, err, "xabc", nil)
	s, err = m.Text(behind + api.Page)
	wantText(t, "a full page", s, err, "", api.ErrLong)
	s, err = m.Text(behind + 2*api.Page - 3)
	wantText(t, "across sealed pages", s, err, "yyyz", nil)
}

func TestSeal(t *testing.T) { // C3
	m := mapped(t, 0, api.Pages-1)
	l := []string{"", "\x00\xffab", strings.Repeat("s", api.Page), strings.Repeat("t", api.Page-1)}
	for i, s := range l {
		a, err := m.Seal(s)
		if a != uint64(behind+i*api.Page) || err != nil {
			t.Fatalf("Seal %d: %d, %v", i, a, err)
		}
		if n := m.Sealed(); n != i+1 {
			t.Errorf("Sealed() = %d, want %d", n, i+1)
		}
		for k, s := range l[:i+1] {
			g, err := m.Get(uint64(behind+k*api.Page), api.Page)
			wantText(t, "Get", g, err, s+strings.Repeat("\x00", api.Page-len(s)), nil)
		}
	}
	before := look(m)
	for _, s := range []string{"", "s", strings.Repeat("s", api.Page)} {
		if a, err := m.Seal(s); a != 0 || err != api.ErrSeal {
			t.Errorf("one more: %d, %v", a, err)
		}
	}
	// ErrBound is named ahead of ErrSeal.
	if a, err := m.Seal(strings.Repeat("s", api.Page+1)); a != 0 || err != api.ErrBound {
		t.Errorf("too long: %d, %v", a, err)
	}
	if !slices.Equal(look(m), before) || m.Sealed() != api.Seals {
		t.Error("something was changed")
	}
}

func TestSealTooLong(t *testing.T) { // C3
	m := New()
	for _, n := range []int{api.Page + 1, 2 * api.Page, 100000} {
		if a, err := m.Seal(strings.Repeat("s", n)); a != 0 || err != api.ErrBound {
			t.Errorf("%d bytes: %d, %v", n, a, err)
		}
	}
	if m.Sealed() != 0 || !slices.Equal(look(m), look(New())) {
		t.Error("something was sealed")
	}
}

func TestFree(t *testing.T) { // C3
	for k := range api.Seals {
		m := New()
		for range api.Seals {
			if _, err := m.Seal(strings.Repeat("s", api.Page)); err != nil {
				t.Fatal(err)
			}
		}
		want := look(m)
		a := uint64(behind + k*api.Page)
		wantErr(t, "Free", m.Free(a), nil)
		for i := range api.Page {
			want[int(a)+i] = -1
		}
		if !slices.Equal(look(m), want) || m.Sealed() != api.Seals-1 {
			t.Errorf("page %d freed: others were changed, or it can be read", k)
		}
		wantErr(t, "Free again", m.Free(a), api.ErrNone)
		if b, err := m.Seal("t"); b != a || err != nil {
			t.Errorf("sealed again: %d, %v, want %d", b, err, a)
		}
		s, err := m.Get(a, api.Page)
		wantText(t, "Get", s, err, "t"+strings.Repeat("\x00", api.Page-1), nil)
	}
}

func TestSealLowest(t *testing.T) { // C3
	m := New()
	for range api.Seals {
		if _, err := m.Seal("s"); err != nil {
			t.Fatal(err)
		}
	}
	for _, k := range []uint64{3, 0, 2} { // freed in another order than they are sealed
		wantErr(t, "Free", m.Free(behind+k*api.Page), nil)
	}
	if n := m.Sealed(); n != 1 {
		t.Errorf("Sealed() = %d", n)
	}
	for _, k := range []uint64{0, 2, 3} {
		if a, err := m.Seal("t"); a != behind+k*api.Page || err != nil {
			t.Errorf("Seal: %d, %v, want %d", a, err, behind+k*api.Page)
		}
	}
}

func TestFreeNone(t *testing.T) { // C3
	m := mapped(t, 0, 1, api.Pages-1)
	for range 2 {
		if _, err := m.Seal("s"); err != nil {
			t.Fatal(err)
		}
	}
	before := look(m)
	for _, a := range []uint64{
		0, api.Page, behind - api.Page, behind - 1, // threads' pages
		behind + 1, behind + api.Page - 1, behind + api.Page + 1, // sealed, but not the first address
		behind + 2*api.Page, behind + 3*api.Page, end, end + api.Page, // not sealed
		api.Pages, api.Pages + 1, 1<<32 + behind, 1<<63 + behind, math.MaxUint64,
	} {
		if err := m.Free(a); err != api.ErrNone {
			t.Errorf("Free(%d): %v", a, err)
		}
	}
	if !slices.Equal(look(m), before) || m.Sealed() != 2 {
		t.Error("something was changed")
	}
}

func TestCopy(t *testing.T) { // C3
	fill := func() *Mem {
		m := mapped(t, 0, 1)
		wantErr(t, "Put", m.Put(0, "abc"), nil)
		wantErr(t, "Map", m.Map(1, false), nil)
		if _, err := m.Seal("sealed"); err != nil {
			t.Fatal(err)
		}
		return m
	}
	change := func(m *Mem) {
		wantErr(t, "Put", m.Put(1, "xyz"), nil)
		wantErr(t, "Map", m.Map(2, true), nil)
		wantErr(t, "Map", m.Map(1, true), nil)
		wantErr(t, "Put", m.Put(api.Page, "xyz"), nil)
		wantErr(t, "Free", m.Free(behind), nil)
		for range 2 {
			if _, err := m.Seal("other"); err != nil {
				t.Fatal(err)
			}
		}
	}
	want := look(fill())
	for _, both := range []bool{true, false} {
		m := fill()
		c := m.Copy()
		if !slices.Equal(look(c), want) || c.Sealed() != 1 {
			t.Fatal("a copy is not like what it was made of")
		}
		one, other := m, c
		if both {
			one, other = c, m
		}
		change(one)
		if !slices.Equal(look(other), want) || other.Sealed() != 1 {
			t.Error("one was changed with the other")
		}
		wantErr(t, "Put where the other may", other.Put(api.Page, "x"), api.ErrFault)
		wantErr(t, "Unmap what the other has", other.Unmap(2), api.ErrFault)
		wantErr(t, "Unmap", one.Unmap(0), nil)
		if !slices.Equal(look(other), want) {
			t.Error("a page of one was unmapped with the other's")
		}
		change(other)
	}
}

func TestWrongChangesNothing(t *testing.T) { // C1 to C3, Z1: of many calls in a row, those that answer an error
	drawn := uint64(5)
	draw := func(n int) int {
		drawn = drawn*6364136223846793005 + 1442695040888963407
		return int(drawn>>33) % n
	}
	m := New()
	wrong := 0
	for range 20000 {
		a := uint64(draw(end + api.Page))
		before, sealed, writes := look(m), m.Sealed(), m.Copy()
		var err error
		switch draw(6) {
		case 0:
			err = m.Map(draw(api.Pages+4)-2, draw(2) == 0)
		case 1:
			err = m.Unmap(draw(api.Pages+4) - 2)
		case 2, 3:
			err = m.Put(a, strings.Repeat("p", draw(2*api.Page)))
		case 4:
			_, err = m.Seal(strings.Repeat("s", draw(api.Page+8)))
		case 5:
			err = m.Free(a &^ (api.Page - 1))
		}
		if err == nil {
			continue
		}
		wrong++
		if !slices.Equal(look(m), before) || m.Sealed() != sealed {
			t.Fatalf("%v: something was changed", err)
		}
		for n := range api.Pages { // nor may more or less be written than ahead of it
			x, y := m.Copy().Put(uint64(n*api.Page), "x"), writes.Copy().Put(uint64(n*api.Page), "x")
			if x != y {
				t.Fatalf("page %d: %v, was %v", n, x, y)
			}
		}
	}
	if wrong < 1000 || wrong > 19000 {
		t.Errorf("%d of 20000 calls answered an error", wrong)
	}
}
