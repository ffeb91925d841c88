package value_test

import (
	"math"
	"math/big"
	"math/rand"
	"slices"
	"strconv"
	"strings"
	"testing"

	"diorama/api"
	"diorama/value"
	"diorama/wire"
)

const mostN = 1 << 40

func whole(n int) api.Value   { return api.Value{Kind: value.Int, N: n} }
func fixed(n int) api.Value   { return api.Value{Kind: value.Fixed, N: n} }
func text(s string) api.Value { return api.Value{Kind: value.Text, T: s} }
func flag(n int) api.Value    { return api.Value{Kind: value.Flag, N: n} }

var (
	none = api.Value{}
	long = strings.Repeat("x", 64)
)

// good are no two the same.
var good = []struct {
	v     api.Value
	bytes string
	text  string
}{
	{none, "\x00", "none"},
	{whole(0), "\x01\x01\x00", "0"},
	{whole(1), "\x01\x01\x01\x02", "1"},
	{whole(-1), "\x01\x01\x01\x01", "-1"},
	{whole(2), "\x01\x01\x01\x04", "2"},
	{whole(-2), "\x01\x01\x01\x03", "-2"},
	{whole(127), "\x01\x01\x01\xfe", "127"},
	{whole(-128), "\x01\x01\x01\xff", "-128"},
	{whole(128), "\x01\x01\x02\x01\x00", "128"},
	{whole(-129), "\x01\x01\x02\x01\x01", "-129"},
	{whole(mostN - 1), "\x01\x01\x06\x01\xff\xff\xff\xff\xfe", "1099511627775"},
	{whole(mostN), "\x01\x01\x06\x02\x00\x00\x00\x00\x00", "1099511627776"},
	{whole(1 - mostN), "\x01\x01\x06\x01\xff\xff\xff\xff\xfd", "-1099511627775"},
	{whole(-mostN), "\x01\x01\x06\x01\xff\xff\xff\xff\xff", "-1099511627776"},
	{fixed(0), "\x01\x02\x00", "0f"},
	{fixed(1), "\x01\x02\x01\x02", "1f"},
	{fixed(-1), "\x01\x02\x01\x01", "-1f"},
	{fixed(32768), "\x01\x02\x03\x01\x00\x00", "32768f"},
	{fixed(-65536), "\x01\x02\x03\x01\xff\xff", "-65536f"},
	{fixed(mostN), "\x01\x02\x06\x02\x00\x00\x00\x00\x00", "1099511627776f"},
	{fixed(-mostN), "\x01\x02\x06\x01\xff\xff\xff\xff\xff", "-1099511627776f"},
	{text(""), "\x01\x03\x00", `""`},
	{text(" "), "\x01\x03\x01\x01 ", `" "`},
	{text("~"), "\x01\x03\x01\x01~", `"~"`},
	{text(`"`), "\x01\x03\x01\x01\"", `"""`},
	{text(`""`), "\x01\x03\x01\x02\"\"", `""""`},
	{text(`a "b" \n`), "\x01\x03\x01\x08a \"b\" \\n", `"a "b" \n"`},
	{text("none"), "\x01\x03\x01\x04none", `"none"`},
	{text("yes"), "\x01\x03\x01\x03yes", `"yes"`},
	{text("5f"), "\x01\x03\x01\x025f", `"5f"`},
	{text(long), "\x01\x03\x01\x40" + long, `"` + long + `"`},
	{flag(0), "\x01\x04\x00", "no"},
	{flag(1), "\x01\x04\x01\x01", "yes"},
}

// bad are no values that may be.
var bad = []api.Value{
	{Kind: value.None, N: 1}, {Kind: value.None, N: -1}, {Kind: value.None, T: "a"}, {Kind: value.None, N: 1, T: "a"},
	whole(mostN + 1), whole(-mostN - 1), whole(math.MaxInt), whole(math.MinInt), whole(1 << 48), whole(-1 << 47),
	{Kind: value.Int, T: "a"}, {Kind: value.Int, N: 5, T: "5"}, {Kind: value.Int, N: mostN, T: " "},
	fixed(mostN + 1), fixed(-mostN - 1), fixed(math.MaxInt), fixed(math.MinInt), {Kind: value.Fixed, T: "a"}, {Kind: value.Fixed, N: 5, T: "5f"},
	text("\x1f"), text("\x7f"), text("\x00"), text("\n"), text("a\x1fb"), text("zwölf"), text("\xff"), text("ab\x80"), text(long + "x"), text(strings.Repeat("x", 100000)),
	{Kind: value.Text, N: 1}, {Kind: value.Text, N: -1, T: "a"}, {Kind: value.Text, N: math.MinInt, T: long},
	flag(2), flag(-1), flag(math.MaxInt), flag(math.MinInt), {Kind: value.Flag, T: "yes"}, {Kind: value.Flag, N: 1, T: "yes"}, {Kind: value.Flag, N: 1, T: "\x00"},
	{Kind: 5}, {Kind: -1}, {Kind: 6, N: 1}, {Kind: 256}, {Kind: 257, N: 5}, {Kind: math.MaxInt}, {Kind: math.MinInt}, {Kind: 5, T: "a"}, {Kind: 1 << 32},
}

// anyValue answers one that may be.
func anyValue(rnd *rand.Rand) api.Value {
	switch rnd.Intn(5) {
	case value.Int:
		return whole(anyN(rnd))
	case value.Fixed:
		return fixed(anyN(rnd))
	case value.Text:
		b := make([]byte, rnd.Intn(65))
		for i := range b {
			b[i] = byte(32 + rnd.Intn(95))
		}
		return text(string(b))
	case value.Flag:
		return flag(rnd.Intn(2))
	}
	return none
}

// anyN answers numbers of all lengths, and often one at an end.
func anyN(rnd *rand.Rand) int {
	n := rnd.Intn(1<<rnd.Intn(41) + 1)
	if rnd.Intn(20) == 0 {
		n = mostN - rnd.Intn(2)
	}
	if rnd.Intn(2) == 0 {
		return -n
	}
	return n
}

func TestP301NilAndUnmadeReaders(t *testing.T) {
	for name, r := range map[string]*wire.Reader{"nil": nil, "new": new(wire.Reader), "literal": {}} {
		for range 2 {
			if v := value.Take(r); v != none {
				t.Error(name, v)
			}
		}
		if r.Err() != api.ErrArg || r.Left() != 0 {
			t.Error(name, r.Err(), r.Left())
		}
	}
}

func TestP301AnswersAreNew(t *testing.T) {
	for _, x := range good {
		first, _ := value.Put(x.v)
		kept, _ := value.Put(x.v)
		room := first[:cap(first)]
		for i := range room {
			room[i] ^= 0xff
		}
		again, _ := value.Put(x.v)
		if string(kept) != x.bytes || string(again) != x.bytes {
			t.Errorf("%v: answers of Put share memory", x.v)
		}
	}
}

func TestP301TakenTextIsNew(t *testing.T) {
	b := []byte("\x01\x03\x01\x02hi")
	r := wire.Open(b)
	v := value.Take(r)
	clear(b)
	if v != text("hi") {
		t.Error(v)
	}
}

func TestP301AnyArguments(t *testing.T) {
	var all []api.Value
	for _, x := range good {
		all = append(all, x.v)
	}
	all = append(all, bad...)
	for _, a := range all {
		for _, b := range all {
			for name, f := range map[string]func(a, b api.Value) (api.Value, api.Errno){"Add": value.Add, "Times": value.Times, "Over": value.Over} {
				v, e := f(a, b)
				again, f := f(a, b)
				if v != again || e != f || e != api.OK && v != none || e == api.OK && !value.Right(v) {
					t.Errorf("%s of %v and %v: %v %d, %v %d", name, a, b, v, e, again, f)
				}
			}
		}
	}
}

func TestP302Right(t *testing.T) {
	for _, x := range good {
		if !value.Right(x.v) {
			t.Error(x.v, "may be")
		}
	}
	for _, v := range bad {
		if value.Right(v) {
			t.Errorf("%.80v may not be", v)
		}
	}
	for c := range 256 {
		v := text("a" + string([]byte{byte(c)}) + "b")
		if value.Right(v) != (c >= 32 && c <= 126) {
			t.Errorf("a text with the byte %d: %t", c, value.Right(v))
		}
	}
	for n := range 100 {
		if value.Right(text(strings.Repeat("y", n))) != (n <= 64) {
			t.Errorf("a text of %d bytes", n)
		}
	}
}

func TestP302Same(t *testing.T) {
	var all []api.Value
	for _, x := range good {
		all = append(all, x.v)
	}
	all = append(all, bad...)
	for i, a := range all {
		for j, b := range all {
			if value.Same(a, b) != (i == j) {
				t.Errorf("%v and %v", a, b)
			}
		}
	}
	if !value.Same(text("a"+long[:1]), text("a"+strings.Repeat("x", 1))) {
		t.Error("texts alike at two places")
	}
}

func TestP302Put(t *testing.T) {
	for _, x := range good {
		if b, e := value.Put(x.v); string(b) != x.bytes || e != api.OK {
			t.Errorf("%v: %q %d, want %q", x.v, b, e, x.bytes)
		}
	}
	for _, v := range bad {
		if b, e := value.Put(v); len(b) != 0 || e != api.ErrArg {
			t.Errorf("%.80v: %.80q %d", v, b, e)
		}
	}
}

func TestP302Take(t *testing.T) {
	for _, x := range good {
		r := wire.Open([]byte(x.bytes + "\x01\x07"))
		if v := value.Take(r); v != x.v || r.Err() != api.OK || r.Left() != 2 {
			t.Errorf("%q: %v %d, %d left", x.bytes, v, r.Err(), r.Left())
		}
		if n := r.Num(); n != 7 || r.Done() != api.OK {
			t.Errorf("behind %q: %d %d", x.bytes, n, r.Done())
		}
	}
}

// takes asks that Take answers nothing, now and later, with this error and so many bytes left.
func takes(t *testing.T, b string, want api.Errno, left int) {
	t.Helper()
	r := wire.Open([]byte(b))
	for range 2 {
		if v := value.Take(r); v != none || r.Err() != want || r.Left() != left {
			t.Errorf("%.40q: %v %d, %d left, want error %d and %d left", b, v, r.Err(), r.Left(), want, left)
		}
	}
}

func TestP302TakeEndsAndForms(t *testing.T) {
	for _, x := range good {
		for i := range x.bytes {
			r := wire.Open([]byte(x.bytes[:i]))
			if v := value.Take(r); v != none || r.Err() != api.ErrEnd {
				t.Errorf("%q: %v %d", x.bytes[:i], v, r.Err())
			}
		}
	}
	takes(t, "", api.ErrEnd, 0)
	takes(t, "\x01", api.ErrEnd, 1)
	takes(t, "\x01\x01", api.ErrEnd, 0)
	takes(t, "\x01\x01\x01", api.ErrEnd, 1)
	takes(t, "\x01\x03\x01\x05four", api.ErrEnd, 6)
	takes(t, "\x01\x04", api.ErrEnd, 0)
	takes(t, "\x01\x00\x00", api.ErrForm, 3)
	takes(t, "\x07\x00", api.ErrForm, 2)
	takes(t, "\x01\x01\x01\x00", api.ErrForm, 2)
	takes(t, "\x01\x02\xff", api.ErrForm, 1)
	takes(t, "\x01\x03\x02\x00\x01a", api.ErrForm, 4)
	takes(t, "\x01\x03\x03\x10\x00\x01a", api.ErrForm, 5)
}

func TestP302TakeWhatMayNotBe(t *testing.T) {
	// A Kind that is none is read alone.
	takes(t, "\x01\x05", api.ErrForm, 0)
	takes(t, "\x01\x05\x01\x02", api.ErrForm, 2)
	takes(t, "\x01\xff\x01\x02", api.ErrForm, 2)
	takes(t, "\x06\xff\xff\xff\xff\xff\xff\x07", api.ErrForm, 1)
	for _, kind := range []string{"\x01\x01", "\x01\x02"} {
		takes(t, kind+"\x06\x02\x00\x00\x00\x00\x01\x00", api.ErrForm, 1)
		takes(t, kind+"\x06\x02\x00\x00\x00\x00\x02\x00", api.ErrForm, 1)
		takes(t, kind+"\x06\xff\xff\xff\xff\xff\xff\x00", api.ErrForm, 1)
		takes(t, kind+"\x06\xff\xff\xff\xff\xff\xfe\x00", api.ErrForm, 1)
	}
	takes(t, "\x01\x03\x01\x41x"+long+"\x00", api.ErrForm, 1)
	takes(t, "\x01\x03\x03\x10\x00\x00"+strings.Repeat("x", 1<<20)+"ab", api.ErrForm, 2)
	takes(t, "\x01\x03\x01\x01\x1f\x00", api.ErrForm, 1)
	takes(t, "\x01\x03\x01\x03a\x7fb\x00\x00", api.ErrForm, 2)
	takes(t, "\x01\x03\x01\x02\xc3\xb6", api.ErrForm, 0)
	takes(t, "\x01\x04\x01\x02\x00", api.ErrForm, 1)
	takes(t, "\x01\x04\x06\xff\xff\xff\xff\xff\xff", api.ErrForm, 0)
}

func TestP302TakeBehindAnError(t *testing.T) {
	for _, b := range []string{"\x00", "\x01\x01\x01\x02", "\x01\x05", "\x01\x04\x01\x02"} {
		r := wire.Open([]byte(b))
		r.Fail(api.ErrKey)
		if v := value.Take(r); v != none || r.Err() != api.ErrKey || r.Left() != len(b) {
			t.Errorf("%q: %v %d, %d left", b, v, r.Err(), r.Left())
		}
	}
}

func TestP302Print(t *testing.T) {
	for _, x := range good {
		if got := value.Print(x.v); got != x.text {
			t.Errorf("%v: %q, want %q", x.v, got, x.text)
		}
	}
	for _, v := range bad {
		if got := value.Print(v); got != "" {
			t.Errorf("%.80v: %.80q", v, got)
		}
	}
}

func TestP302Parse(t *testing.T) {
	for _, x := range good {
		if v, ok := value.Parse(x.text); v != x.v || !ok {
			t.Errorf("%q: %v %t", x.text, v, ok)
		}
	}
}

func TestP302ParseRefuses(t *testing.T) {
	wrong := []string{
		"", " ", "None", "NONE", "none ", " none", "nonef", "non", "nil", "0none", "Yes", "YES", "yes ", " yes", "yesf", "y", "true", "1yes", "No", "nof", "no ", "no\x00", "n",
		"-0", "+0", "00", "01", "-01", "+5", "- 5", "5 ", " 5", "5\n", "5\x00", "--5", "5-", "5.0", "5e0", "1_0", "0x5", "0b1", "0o7", "a", "５", "5\xff", "-",
		"f", "-f", "-0f", "00f", "05f", "+5f", "5F", "5ff", "5f ", " 5f", "f5", "5 f", "5.5f", "0xf", "5f\x00", "1f1",
		`"`, `"a`, `a"`, `'a'`, ` "a"`, `"a" `, `"a"f`, `5"a"`, "\"\x1f\"", "\"\x7f\"", "\"\n\"", "\"\x00\"", `"zwölf"`, "\"\xff\"", "`a`", "“a”", `"a"b`,
		`"x` + long + `"`, `"` + strings.Repeat("x", 100000) + `"`, `"` + strings.Repeat("x", 100000),
		strconv.Itoa(mostN + 1), strconv.Itoa(-mostN - 1), strconv.Itoa(mostN+1) + "f", strconv.Itoa(-mostN-1) + "f", "9223372036854775807", "-9223372036854775808",
		"9223372036854775808", "18446744073709551616", "18446744073709551621", strings.Repeat("9", 1000), strings.Repeat("0", 1000) + "5", "-" + strings.Repeat("9", 1000) + "f",
	}
	for _, x := range wrong {
		if v, ok := value.Parse(x); v != none || ok {
			t.Errorf("%.40q: %.80v %t", x, v, ok)
		}
	}
}

// Whatever is put together of a text's signs: it is read just if it is a text of a value that may be.
func TestP302ParseAnyText(t *testing.T) {
	rnd := rand.New(rand.NewSource(302))
	var read [5]int
	for range 200000 {
		b := make([]byte, rnd.Intn(5))
		for i := range b {
			b[i] = "00159-+f\"\" noyes"[rnd.Intn(16)]
		}
		s := string(b)
		v, ok := value.Parse(s)
		if ok && (!value.Right(v) || value.Print(v) != s) || !ok && v != none || ok != isText(s) {
			t.Fatalf("%q: %v %t", s, v, ok)
		}
		if ok {
			read[v.Kind]++
		}
	}
	if slices.Min(read[1:]) < 10 {
		t.Error("few texts of some kind:", read)
	}
}

// isText goes sign by sign, so that it leans on nothing that reads numbers. No number of up to five signs is too great.
func isText(s string) bool {
	if s == "none" || s == "yes" || s == "no" {
		return true
	}
	if strings.HasPrefix(s, `"`) {
		return len(s) > 1 && strings.HasSuffix(s, `"`)
	}
	s = strings.TrimSuffix(s, "f")
	if s == "0" {
		return true
	}
	s = strings.TrimPrefix(s, "-")
	return s != "" && s[0] != '0' && strings.Trim(s, "0123456789") == ""
}

type reckoning func(a, b api.Value) (api.Value, api.Errno)

func reckons(t *testing.T, name string, f reckoning, a, b, want api.Value, e api.Errno) {
	t.Helper()
	if v, got := f(a, b); v != want || got != e {
		t.Errorf("%s of %v and %v: %v %d, want %v %d", name, a, b, v, got, want, e)
	}
}

func TestP303Arguments(t *testing.T) {
	for name, f := range map[string]reckoning{"Add": value.Add, "Times": value.Times, "Over": value.Over} {
		for _, x := range good {
			for _, y := range good {
				if x.v.Kind != y.v.Kind || x.v.Kind != value.Int && x.v.Kind != value.Fixed {
					reckons(t, name, f, x.v, y.v, none, api.ErrArg)
				}
			}
			for _, v := range bad {
				reckons(t, name, f, x.v, v, none, api.ErrArg)
				reckons(t, name, f, v, x.v, none, api.ErrArg)
			}
		}
		for _, v := range bad {
			reckons(t, name, f, v, v, none, api.ErrArg)
		}
	}
	// ErrArg is told ahead of ErrZero and ErrOver.
	reckons(t, "Over", value.Over, whole(mostN+1), whole(0), none, api.ErrArg)
	reckons(t, "Over", value.Over, whole(5), fixed(0), none, api.ErrArg)
	reckons(t, "Times", value.Times, whole(mostN), whole(mostN+1), none, api.ErrArg)
}

func TestP303Add(t *testing.T) {
	for _, of := range []func(n int) api.Value{whole, fixed} {
		for _, x := range [][3]int{{0, 0, 0}, {1, 2, 3}, {-1, 1, 0}, {-5, -7, -12}, {mostN, 0, mostN}, {mostN - 1, 1, mostN}, {mostN, -mostN, 0}, {-mostN, 0, -mostN}, {1 - mostN, -1, -mostN}} {
			reckons(t, "Add", value.Add, of(x[0]), of(x[1]), of(x[2]), api.OK)
		}
		for _, x := range [][2]int{{mostN, 1}, {1, mostN}, {mostN, mostN}, {-mostN, -1}, {-mostN, -mostN}, {mostN/2 + 1, mostN / 2}} {
			reckons(t, "Add", value.Add, of(x[0]), of(x[1]), none, api.ErrOver)
		}
	}
}

func TestP303TimesOfInts(t *testing.T) {
	for _, x := range [][3]int{{0, 0, 0}, {0, mostN, 0}, {0, -mostN, 0}, {3, 5, 15}, {-3, 5, -15}, {3, -5, -15}, {-3, -5, 15}, {1, mostN, mostN}, {-1, mostN, -mostN}, {-mostN, -1, mostN}, {1 << 20, 1 << 20, mostN}, {1 << 20, -1 << 20, -mostN}} {
		reckons(t, "Times", value.Times, whole(x[0]), whole(x[1]), whole(x[2]), api.OK)
	}
	// Some of these products are 0 or small in 64 bits.
	for _, x := range [][2]int{{2, mostN}, {mostN, mostN}, {-mostN, mostN}, {-mostN, -mostN}, {1<<20 + 1, 1 << 20}, {1 << 32, 1 << 32}, {1 << 31, 1 << 33}, {1 << 32, -1 << 32}, {1 << 32, 1<<32 + 1}, {1<<33 + 1, 1<<31 + 1}, {3, -mostN}} {
		reckons(t, "Times", value.Times, whole(x[0]), whole(x[1]), none, api.ErrOver)
	}
}

func TestP303TimesOfFixed(t *testing.T) {
	for _, x := range [][3]int{
		{32768, 3, 2}, {-32768, 3, -2}, {32768, -3, -2}, {-32768, -3, 2}, {3, 32768, 2},
		{32768, 1, 1}, {-32768, 1, -1}, {32767, 1, 0}, {-32767, 1, 0}, {32769, 1, 1}, {1, 1, 0}, {-1, 1, 0}, {0, -mostN, 0},
		{65536, 65536, 65536}, {65536, 7, 7}, {-65536, 7, -7}, {98304, 131072, 196608},
		{65536, mostN, mostN}, {-65536, mostN, -mostN}, {-mostN, -65536, mostN}, {1 << 28, 1 << 28, mostN},
		// 2^56 + 1 is rounded down to what may be.
		{257 * 5153, 54410972897, mostN}, {-257 * 5153, 54410972897, -mostN},
	} {
		reckons(t, "Times", value.Times, fixed(x[0]), fixed(x[1]), fixed(x[2]), api.OK)
	}
	for _, x := range [][2]int{
		{65537, mostN}, {-65537, mostN}, {mostN, mostN}, {-mostN, mostN}, {1 << 32, 1 << 32}, {1 << 32, 1<<32 + 1}, {1 << 29, 1 << 28},
		// 2^64 - 1, which a half added would wrap round.
		{1<<32 - 1, 1<<32 + 1},
		// 2^56 + 2^15 is rounded up.
		{98304, 733007751851}, {-98304, 733007751851},
	} {
		reckons(t, "Times", value.Times, fixed(x[0]), fixed(x[1]), none, api.ErrOver)
	}
}

func TestP303OverOfInts(t *testing.T) {
	for _, x := range [][3]int{{0, 5, 0}, {0, -5, 0}, {7, 2, 3}, {-7, 2, -3}, {7, -2, -3}, {-7, -2, 3}, {1, 2, 0}, {-1, 2, 0}, {99, 100, 0}, {-99, 100, 0}, {6, 3, 2}, {mostN, 1, mostN}, {mostN, -1, -mostN}, {-mostN, -1, mostN}, {-mostN, mostN, -1}, {mostN - 1, mostN, 0}} {
		reckons(t, "Over", value.Over, whole(x[0]), whole(x[1]), whole(x[2]), api.OK)
	}
	for _, n := range []int{0, 1, -1, mostN, -mostN} {
		reckons(t, "Over", value.Over, whole(n), whole(0), none, api.ErrZero)
		reckons(t, "Over", value.Over, fixed(n), fixed(0), none, api.ErrZero)
	}
}

func TestP303OverOfFixed(t *testing.T) {
	for _, x := range [][3]int{
		{65536, 131072, 32768}, {-65536, 131072, -32768}, {65536, -131072, -32768}, {-65536, -131072, 32768}, {0, 5, 0}, {0, -mostN, 0},
		{1, 131072, 1}, {-1, 131072, -1}, {1, -131072, -1}, {1, 131073, 0}, {-1, 131073, 0}, {1, 131071, 1}, {3, 131072, 2}, {-3, 131072, -2}, {3, 131073, 1},
		{65536, 196608, 21845}, {131072, 196608, 43691}, {-131072, 196608, -43691}, {1, mostN, 0}, {-mostN, mostN, -65536}, {1, 1, 65536}, {1, 3, 21845}, {2, 3, 43691},
		{mostN, 65536, mostN}, {-mostN, 65536, -mostN}, {mostN, -65537, -1099494850816}, {1 << 24, 1, mostN}, {1 << 24, -1, -mostN},
	} {
		reckons(t, "Over", value.Over, fixed(x[0]), fixed(x[1]), fixed(x[2]), api.OK)
	}
	for _, x := range [][2]int{{mostN, 65535}, {mostN, 1}, {-mostN, 1}, {-mostN, -1}, {1<<24 + 1, 1}, {1<<24 + 1, -1}, {-mostN, 65535}, {mostN, 2}} {
		reckons(t, "Over", value.Over, fixed(x[0]), fixed(x[1]), none, api.ErrOver)
	}
}

// roundOff answers a / b, the nearest whole number, half ways the one further from 0.
func roundOff(a, b *big.Int) *big.Int {
	two := big.NewInt(2)
	up := new(big.Int).Mul(new(big.Int).Abs(a), two)
	down := new(big.Int).Mul(new(big.Int).Abs(b), two)
	q := new(big.Int).Quo(up.Add(up, new(big.Int).Abs(b)), down)
	if a.Sign()*b.Sign() < 0 {
		q.Neg(q)
	}
	return q
}

func TestP303AnyNumbers(t *testing.T) {
	one, most := big.NewInt(65536), big.NewInt(mostN)
	rnd := rand.New(rand.NewSource(303))
	over := 0
	for range 200000 {
		x, y := anyN(rnd), anyN(rnd)
		a, b := big.NewInt(int64(x)), big.NewInt(int64(y))
		ask := func(name string, f reckoning, of func(n int) api.Value, n *big.Int) {
			if new(big.Int).Abs(n).Cmp(most) > 0 {
				over++
				reckons(t, name, f, of(x), of(y), none, api.ErrOver)
				return
			}
			reckons(t, name, f, of(x), of(y), of(int(n.Int64())), api.OK)
		}
		product := new(big.Int).Mul(a, b)
		ask("Add", value.Add, whole, new(big.Int).Add(a, b))
		ask("Add", value.Add, fixed, new(big.Int).Add(a, b))
		ask("Times", value.Times, whole, product)
		ask("Times", value.Times, fixed, roundOff(product, one))
		if y != 0 {
			ask("Over", value.Over, whole, new(big.Int).Quo(a, b))
			ask("Over", value.Over, fixed, roundOff(new(big.Int).Mul(a, one), b))
		}
		if t.Failed() {
			return
		}
	}
	if over < 1000 {
		t.Error("few were too great:", over)
	}
}

func TestP304Right8(t *testing.T) {
	kinds := []int{value.None, value.Flag, value.Flag, value.Text, value.Fixed, value.Fixed, value.Fixed, value.Fixed, value.Int}
	for prop := 1; prop <= 8; prop++ {
		for _, x := range good {
			want := x.v.Kind == value.None || x.v.Kind == kinds[prop]
			if value.Right8(prop, x.v) != want {
				t.Errorf("property %d, %v: want %t", prop, x.v, want)
			}
		}
		for _, v := range bad {
			if value.Right8(prop, v) {
				t.Errorf("property %d, %.80v", prop, v)
			}
		}
	}
	for _, prop := range []int{0, -1, -8, 9, 10, 256, 257, 1<<32 + 1, math.MaxInt, math.MinInt} {
		for _, x := range good {
			if value.Right8(prop, x.v) {
				t.Errorf("property %d, %v", prop, x.v)
			}
		}
		for _, v := range bad {
			if value.Right8(prop, v) {
				t.Errorf("property %d, %.80v", prop, v)
			}
		}
	}
}

func TestP304Constants(t *testing.T) {
	got := []int{value.None, value.Int, value.Fixed, value.Text, value.Flag}
	if !slices.Equal(got, []int{0, 1, 2, 3, 4}) {
		t.Error("kinds", got)
	}
	got = []int{value.Locked, value.Hidden, value.Name, value.X, value.Y, value.Width, value.Height, value.Fill}
	if !slices.Equal(got, []int{1, 2, 3, 4, 5, 6, 7, 8}) {
		t.Error("properties", got)
	}
}

func TestP305AnyValues(t *testing.T) {
	rnd := rand.New(rand.NewSource(305))
	var b []byte
	var all []api.Value
	for range 20000 {
		v := anyValue(rnd)
		if got, ok := value.Parse(value.Print(v)); got != v || !ok {
			t.Fatalf("%v: %q %v %t", v, value.Print(v), got, ok)
		}
		one, e := value.Put(v)
		if e != api.OK {
			t.Fatal(v, e)
		}
		b, all = append(b, one...), append(all, v)
	}
	r := wire.Open(b[:200])
	for _, v := range all {
		got := value.Take(r)
		if r.Err() != api.OK {
			break
		}
		if got != v {
			t.Fatalf("%v, want %v", got, v)
		}
	}
	r = wire.Open(b)
	for _, v := range all {
		if got := value.Take(r); got != v {
			t.Fatalf("%v %d, want %v", got, r.Err(), v)
		}
	}
	if r.Done() != api.OK {
		t.Error(r.Done())
	}
}

// What is read from any bytes is written as just these.
func TestP305AnyBytes(t *testing.T) {
	rnd := rand.New(rand.NewSource(3050))
	var read [5]int
	for range 300000 {
		b := make([]byte, 1+rnd.Intn(9))
		for i := range b {
			b[i] = []byte{0, 1, 1, 2, 3, 4, 5, 6, 7, 'a', 0xff, byte(rnd.Intn(256))}[rnd.Intn(12)]
		}
		r := wire.Open(b)
		v := value.Take(r)
		if r.Err() != api.OK {
			if v != none || r.Err() != api.ErrEnd && r.Err() != api.ErrForm {
				t.Fatalf("%q: %v %d", b, v, r.Err())
			}
			continue
		}
		read[v.Kind]++
		if again, e := value.Put(v); string(again) != string(b[:len(b)-r.Left()]) || e != api.OK {
			t.Fatalf("%q: %v, written as %q %d", b, v, again, e)
		}
	}
	if slices.Min(read[:]) < 100 {
		t.Error("few values of some kind:", read)
	}
}

func TestP306Laws(t *testing.T) {
	rnd := rand.New(rand.NewSource(306))
	for range 100000 {
		kind := value.Int + rnd.Intn(2)
		a, b := api.Value{Kind: kind, N: anyN(rnd)}, api.Value{Kind: kind, N: anyN(rnd)}
		for name, f := range map[string]reckoning{"Add": value.Add, "Times": value.Times} {
			ab, e := f(a, b)
			ba, back := f(b, a)
			if ab != ba || e != back {
				t.Fatalf("%s of %v and %v: %v %d, turned round %v %d", name, a, b, ab, e, ba, back)
			}
		}
		sum, e := value.Add(a, b)
		if e != api.OK {
			continue
		}
		less := api.Value{Kind: kind, N: -b.N}
		if v, e := value.Add(sum, less); v != a || e != api.OK {
			t.Fatalf("%v and %v, less the second: %v %d", a, b, v, e)
		}
	}
}
