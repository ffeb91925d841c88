package wire_test

import (
	"bytes"
	"hash/crc32"
	"math"
	"math/rand"
	"strings"
	"testing"

	"diorama/api"
	"diorama/wire"
)

const (
	mostNum  = 1<<48 - 1
	mostSize = 1 << 20
)

var nums = []struct {
	n int
	b string
}{
	{0, "\x00"},
	{1, "\x01\x01"},
	{127, "\x01\x7f"},
	{128, "\x01\x80"},
	{255, "\x01\xff"},
	{256, "\x02\x01\x00"},
	{300, "\x02\x01\x2c"},
	{0xffff, "\x02\xff\xff"},
	{0x10000, "\x03\x01\x00\x00"},
	{0x123456, "\x03\x12\x34\x56"},
	{0xffffff, "\x03\xff\xff\xff"},
	{0x1000000, "\x04\x01\x00\x00\x00"},
	{0x12345678, "\x04\x12\x34\x56\x78"},
	{0xffffffff, "\x04\xff\xff\xff\xff"},
	{0x100000000, "\x05\x01\x00\x00\x00\x00"},
	{0x123456789a, "\x05\x12\x34\x56\x78\x9a"},
	{0xffffffffff, "\x05\xff\xff\xff\xff\xff"},
	{0x10000000000, "\x06\x01\x00\x00\x00\x00\x00"},
	{0x123456789abc, "\x06\x12\x34\x56\x78\x9a\xbc"},
	{mostNum, "\x06\xff\xff\xff\xff\xff\xff"},
}

// badNums are whole, but no number's form.
var badNums = []string{
	"\x07\x01\x02\x03\x04\x05\x06\x07",
	"\x08\x01\x02\x03\x04\x05\x06\x07\x08",
	"\x80\x01\x02\x03\x04\x05\x06\x07\x08",
	"\x07", "\xff",
	"\x01\x00",
	"\x02\x00\x05",
	"\x03\x00\x01\x00",
	"\x04\x00\xff\xff\xff",
	"\x05\x00\x00\x00\x00\x01",
	"\x06\x00\xff\xff\xff\xff\xff",
}

func frame(t *testing.T, b []byte) []byte {
	t.Helper()
	f, e := wire.Frame(b)
	if e != api.OK {
		t.Fatalf("Frame of %d bytes: %d", len(b), e)
	}
	return f
}

// noise answers n bytes that look like no pattern, the same ones for each seed.
func noise(seed int64, n int) []byte {
	b := make([]byte, n)
	rand.New(rand.NewSource(seed)).Read(b)
	return b
}

// turnAll makes all of b, and the room behind it, other bytes.
func turnAll(b []byte) {
	b = b[:cap(b)]
	for i := range b {
		b[i] ^= 0xff
	}
}

func refused(t *testing.T, b []byte, want api.Errno) {
	t.Helper()
	in, size, e := wire.Unframe(b)
	if e != want || len(in) != 0 || size != 0 {
		t.Errorf("Unframe of %d bytes beginning %q: %q %d %d, want error %d", len(b), b[:min(len(b), 12)], in, size, e, want)
	}
}

func TestP101NilAndUnmadeReaders(t *testing.T) {
	for name, r := range map[string]*wire.Reader{"nil": nil, "new": new(wire.Reader), "literal": {}} {
		for range 2 {
			if n := r.Num(); n != 0 {
				t.Error(name, "Num", n)
			}
			if n := r.Upto(math.MaxInt); n != 0 {
				t.Error(name, "Upto", n)
			}
			if s := r.Text(); s != "" {
				t.Error(name, "Text", s)
			}
			if n := r.Left(); n != 0 {
				t.Error(name, "Left", n)
			}
			if e := r.Err(); e != api.ErrArg {
				t.Error(name, "Err", e)
			}
			if e := r.Done(); e != api.ErrArg {
				t.Error(name, "Done", e)
			}
			r.Fail(api.ErrKey)
		}
	}
}

func TestP101NilIsEmpty(t *testing.T) {
	for _, b := range [][]byte{nil, {}} {
		refused(t, b, api.ErrEnd)
		if wire.Sum(b) != 0 {
			t.Error("Sum", wire.Sum(b))
		}
		if f, e := wire.Frame(b); string(f) != "\x5d\x00\x00\x00\x00\x00" || e != api.OK {
			t.Errorf("Frame %q %d", f, e)
		}
		if r := wire.Open(b); r == nil || r.Left() != 0 || r.Err() != api.OK || r.Done() != api.OK {
			t.Error("Open")
		}
	}
}

func TestP101ArgumentsStay(t *testing.T) {
	room := noise(1, 64)
	inner := room[8:20]
	was := bytes.Clone(room)
	wire.Sum(inner)
	wire.Frame(inner)
	wire.Unframe(inner)
	r := wire.Open(inner)
	r.Num()
	r.Text()
	if !bytes.Equal(room, was) {
		t.Error("an argument, or the room behind it, was changed")
	}

	whole := append(frame(t, []byte("inner")), "behind"...)
	was = bytes.Clone(whole)
	if _, _, e := wire.Unframe(whole[:len(whole)-6]); e != api.OK || !bytes.Equal(whole, was) {
		t.Error("Unframe changed its argument", e)
	}
}

func TestP101AnswersAreNew(t *testing.T) {
	b := []byte("some content")
	f := frame(t, b)
	turnAll(f)
	if string(b) != "some content" {
		t.Error("Frame shares memory with its argument")
	}

	f = frame(t, b)
	in, _, _ := wire.Unframe(f)
	other, _, _ := wire.Unframe(f)
	was := bytes.Clone(f)
	turnAll(in)
	if !bytes.Equal(f, was) {
		t.Error("Unframe shares memory with its argument")
	}
	if string(other) != "some content" {
		t.Error("two answers of Unframe share memory")
	}

	makers := map[string]func() []byte{
		"Num":   func() []byte { b, _ := wire.Num(0x123456); return b },
		"Zero":  func() []byte { b, _ := wire.Num(0); return b },
		"Text":  func() []byte { b, _ := wire.Text("text"); return b },
		"Frame": func() []byte { b, _ := wire.Frame([]byte("text")); return b },
		"Empty": func() []byte { b, _ := wire.Frame(nil); return b },
	}
	for name, do := range makers {
		first := do()
		kept := do()
		was := bytes.Clone(first)
		turnAll(first)
		if !bytes.Equal(kept, was) || !bytes.Equal(do(), was) {
			t.Error(name, "shares memory between answers")
		}
	}
}

func TestP101OpenKeepsNothing(t *testing.T) {
	b := []byte("\x01\x05\x01\x02hi\x01\x09")
	r := wire.Open(b)
	if n := r.Num(); n != 5 {
		t.Error(n)
	}
	s := r.Text()
	turnAll(b)
	if n := r.Num(); s != "hi" || n != 9 || r.Done() != api.OK {
		t.Errorf("%q %d %d: the reader reads what was changed behind Open", s, n, r.Done())
	}
}

func TestP101ReadersAreApart(t *testing.T) {
	b := []byte("\x01\x05\x01\x06")
	one, two := wire.Open(b), wire.Open(b)
	if one.Num() != 5 || one.Num() != 6 || one.Num() != 0 || one.Err() != api.ErrEnd {
		t.Error("the first reader")
	}
	if two.Err() != api.OK || two.Left() != 4 || two.Num() != 5 || two.Num() != 6 || two.Done() != api.OK {
		t.Error("the second reader")
	}
}

func TestP101AnyBytes(t *testing.T) {
	known := map[api.Errno]bool{api.OK: true, api.ErrEnd: true, api.ErrForm: true, api.ErrSum: true, api.ErrOver: true}
	rnd := rand.New(rand.NewSource(101))
	for range 20000 {
		b := make([]byte, rnd.Intn(12))
		for i := range b {
			b[i] = []byte{0, 1, 2, 3, 6, 7, 0x5d, 0xff, byte(rnd.Intn(256))}[rnd.Intn(9)]
		}
		in, size, e := wire.Unframe(b)
		if !known[e] || e == api.ErrOver || size < 0 || size > len(b) || e != api.OK && (len(in) != 0 || size != 0) {
			t.Fatalf("Unframe of %q: %q %d %d", b, in, size, e)
		}
		r := wire.Open(b)
		for range 4 {
			left := r.Left()
			if r.Num(); rnd.Intn(2) == 0 {
				r.Text()
			} else {
				r.Upto(rnd.Intn(400) - 100)
			}
			if r.Left() < 0 || r.Left() > left || !known[r.Err()] || r.Err() == api.ErrSum || !known[r.Done()] {
				t.Fatalf("a reader of %q: %d %d", b, r.Left(), r.Err())
			}
		}
	}
}

func TestP102Num(t *testing.T) {
	for _, x := range nums {
		if b, e := wire.Num(x.n); string(b) != x.b || e != api.OK {
			t.Errorf("%d: %q %d, want %q", x.n, b, e, x.b)
		}
	}
	for _, n := range []int{-1, -2, -256, math.MinInt, mostNum + 1, mostNum + 2, 1 << 56, math.MaxInt} {
		if b, e := wire.Num(n); len(b) != 0 || e != api.ErrOver {
			t.Errorf("%d: %q %d", n, b, e)
		}
	}
}

func TestP102Text(t *testing.T) {
	long := strings.Repeat("q", 300)
	most := strings.Repeat("\x00", mostSize)
	for s, head := range map[string]string{
		"":             "\x00",
		"a":            "\x01\x01",
		"\x00\xff\x5d": "\x01\x03",
		"zwölf":        "\x01\x06",
		long[:255]:     "\x01\xff",
		long[:256]:     "\x02\x01\x00",
		long:           "\x02\x01\x2c",
		most:           "\x03\x10\x00\x00",
	} {
		if b, e := wire.Text(s); string(b) != head+s || e != api.OK {
			t.Errorf("a text of %d bytes: %d bytes, %d", len(s), len(b), e)
		}
	}
	for _, s := range []string{most + "\x00", most + most} {
		if b, e := wire.Text(s); len(b) != 0 || e != api.ErrSize {
			t.Errorf("a text of %d bytes: %d bytes, %d", len(s), len(b), e)
		}
	}
}

func TestP102Sum(t *testing.T) {
	for s, want := range map[string]int{
		"":                 0,
		"\x00":             0xd202ef8d,
		"\xff":             0xff000000,
		"a":                0xe8b7be43,
		"abc":              0x352441c2,
		"123456789":        0xcbf43926,
		"\x00\x00\x00\x00": 0x2144df1c,
		"\xff\xff\xff\xff": 0xffffffff,
	} {
		if got := wire.Sum([]byte(s)); got != want {
			t.Errorf("%q: %x, want %x", s, got, want)
		}
	}
	for _, n := range []int{1, 2, 3, 16, 255, 256, 257, 5000, mostSize + 1} {
		b := noise(int64(n), n)
		if got, want := wire.Sum(b), int(crc32.ChecksumIEEE(b)); got != want {
			t.Errorf("%d bytes: %x, want %x", n, got, want)
		}
	}
	for c := range 256 {
		b := []byte{byte(c)}
		if got, want := wire.Sum(b), int(crc32.ChecksumIEEE(b)); got != want {
			t.Errorf("byte %d: %x, want %x", c, got, want)
		}
	}
}

func TestP102Frame(t *testing.T) {
	most := noise(5, mostSize+1)
	for _, x := range []struct {
		in   []byte
		head string
	}{
		{nil, "\x5d\x00"},
		{[]byte("a"), "\x5d\x01\x01"},
		{[]byte("abc"), "\x5d\x01\x03"},
		{most[:255], "\x5d\x01\xff"},
		{most[:256], "\x5d\x02\x01\x00"},
		{most[:65536], "\x5d\x03\x01\x00\x00"},
		{most[:mostSize], "\x5d\x03\x10\x00\x00"},
	} {
		sum := crc32.ChecksumIEEE(x.in)
		want := x.head + string(x.in) + string([]byte{byte(sum >> 24), byte(sum >> 16), byte(sum >> 8), byte(sum)})
		if f, e := wire.Frame(x.in); string(f) != want || e != api.OK {
			t.Errorf("a frame of %d bytes: %d bytes, %d", len(x.in), len(f), e)
		}
	}
	if f, e := wire.Frame([]byte("abc")); string(f) != "\x5d\x01\x03abc\x35\x24\x41\xc2" || e != api.OK {
		t.Errorf("%q %d", f, e)
	}
	if f, e := wire.Frame(most); len(f) != 0 || e != api.ErrSize {
		t.Errorf("%d bytes, %d", len(f), e)
	}
}

func TestP103Unframe(t *testing.T) {
	for _, n := range []int{0, 1, 3, 255, 256, 65535, 65536, mostSize} {
		b := noise(int64(n), n)
		f := frame(t, b)
		in, size, e := wire.Unframe(f)
		if !bytes.Equal(in, b) || size != len(f) || e != api.OK {
			t.Errorf("%d bytes: %d bytes, size %d, %d", n, len(in), size, e)
		}
	}
}

func TestP103End(t *testing.T) {
	for _, n := range []int{0, 1, 3, 255, 256, 300} {
		f := frame(t, noise(int64(n), n))
		for i := range f {
			refused(t, f[:i], api.ErrEnd)
		}
	}
	f := frame(t, noise(9, mostSize))
	for _, i := range []int{5, 6, mostSize, len(f) - 5, len(f) - 4, len(f) - 1} {
		refused(t, f[:i], api.ErrEnd)
	}
	// The length is not told before all of its bytes are there.
	for _, s := range []string{"\x5d\x04", "\x5d\x04\xff", "\x5d\x04\xff\xff\xff", "\x5d\x06\xff\xff\xff\xff\xff", "\x5d\x03\x10\x00", "\x5d\x03\xff\xff"} {
		refused(t, []byte(s), api.ErrEnd)
	}
}

func TestP103Form(t *testing.T) {
	good := string(frame(t, []byte("abc")))
	for c := range 256 {
		if c != 0x5d {
			refused(t, []byte{byte(c)}, api.ErrForm)
			refused(t, []byte(string([]byte{byte(c)})+good[1:]), api.ErrForm)
		}
	}
	for c := 7; c < 256; c++ {
		refused(t, []byte{0x5d, byte(c)}, api.ErrForm)
		refused(t, append([]byte{0x5d, byte(c)}, noise(2, 300)...), api.ErrForm)
	}
	for c := 1; c <= 6; c++ {
		refused(t, []byte{0x5d, byte(c), 0}, api.ErrForm)
		refused(t, append([]byte{0x5d, byte(c), 0}, noise(3, 300)...), api.ErrForm)
	}
	for _, bad := range badNums {
		refused(t, []byte("\x5d"+bad), api.ErrForm)
		refused(t, []byte("\x5d"+bad+good[3:]), api.ErrForm)
	}
	for _, s := range []string{"\x5d\x03\x10\x00\x01", "\x5d\x03\xff\xff\xff", "\x5d\x04\x01\x00\x00\x00", "\x5d\x05\x01\x00\x00\x00\x00", "\x5d\x06\xff\xff\xff\xff\xff\xff"} {
		refused(t, []byte(s), api.ErrForm)
		refused(t, []byte(s+"more"), api.ErrForm)
	}
	// One byte too many, with all that a frame of it would have.
	long := noise(4, mostSize+1)
	sum := wire.Sum(long)
	whole := append([]byte("\x5d\x03\x10\x00\x01"), long...)
	whole = append(whole, byte(sum>>24), byte(sum>>16), byte(sum>>8), byte(sum))
	refused(t, whole, api.ErrForm)
}

func TestP103Sum(t *testing.T) {
	for _, n := range []int{0, 1, 3, 300} {
		f := frame(t, noise(int64(n), n))
		for i := len(f) - n - 4; i < len(f); i++ {
			for _, c := range []byte{1, 0x80, 0xff} {
				bad := bytes.Clone(f)
				bad[i] ^= c
				refused(t, bad, api.ErrSum)
				refused(t, append(bad, "more"...), api.ErrSum)
			}
		}
	}
	refused(t, []byte("\x5d\x01\x03abc\xc2\x41\x24\x35"), api.ErrSum)
	refused(t, []byte("\x5d\x01\x03acb\x35\x24\x41\xc2"), api.ErrSum)
}

func TestP104Num(t *testing.T) {
	for _, x := range nums {
		r := wire.Open([]byte(x.b + "\x01\x07"))
		if n := r.Num(); n != x.n || r.Err() != api.OK || r.Left() != 2 || r.Done() != api.ErrForm {
			t.Errorf("%q: %d %d %d", x.b, n, r.Err(), r.Left())
		}
		if n := r.Num(); n != 7 || r.Left() != 0 || r.Done() != api.OK {
			t.Errorf("behind %q: %d %d", x.b, n, r.Done())
		}
	}
}

func TestP104NumErrors(t *testing.T) {
	for _, x := range nums {
		for i := range x.b {
			fails(t, x.b[:i], api.ErrEnd, func(r *wire.Reader) bool { return r.Num() == 0 })
			fails(t, x.b[:i], api.ErrEnd, func(r *wire.Reader) bool { return r.Upto(-1) == 0 })
		}
	}
	for _, bad := range badNums {
		for _, more := range []string{"", "\x00", "more"} {
			fails(t, bad+more, api.ErrForm, func(r *wire.Reader) bool { return r.Num() == 0 })
			fails(t, bad+more, api.ErrForm, func(r *wire.Reader) bool { return r.Upto(math.MaxInt) == 0 })
			fails(t, bad+more, api.ErrForm, func(r *wire.Reader) bool { return r.Text() == "" })
		}
	}
}

// fails asks that call fails on a reader of s, passes nothing, and that all fails alike from then on.
func fails(t *testing.T, s string, want api.Errno, call func(r *wire.Reader) bool) {
	t.Helper()
	r := wire.Open([]byte("\x01\x05" + s))
	r.Num()
	if !call(r) {
		t.Errorf("%.20q: an answer beside the error %d", s, want)
	}
	for range 2 {
		if r.Err() != want || r.Done() != want || r.Left() != len(s) {
			t.Errorf("%.20q: %d %d, %d left, want error %d", s, r.Err(), r.Done(), r.Left(), want)
		}
		if r.Num() != 0 || r.Upto(math.MaxInt) != 0 || r.Text() != "" {
			t.Errorf("%.20q: an answer behind the error %d", s, want)
		}
		r.Fail(api.ErrLock)
	}
}

func TestP104Upto(t *testing.T) {
	for _, x := range nums {
		for _, most := range []int{x.n, x.n + 1, mostNum, math.MaxInt} {
			r := wire.Open([]byte(x.b))
			if n := r.Upto(most); n != x.n || r.Done() != api.OK || r.Left() != 0 {
				t.Errorf("%d up to %d: %d %d", x.n, most, n, r.Done())
			}
		}
		for _, most := range []int{x.n - 1, -1, math.MinInt} {
			fails(t, x.b, api.ErrOver, func(r *wire.Reader) bool { return r.Upto(most) == 0 })
		}
	}
}

func TestP104Text(t *testing.T) {
	most := string(noise(6, mostSize))
	for _, s := range []string{"", "a", "hi", "\x00", "\xff\xfe", "zwölf", most[:255], most[:256], most} {
		b, _ := wire.Text(s)
		r := wire.Open(append(b, "\x01\x07"...))
		if got := r.Text(); got != s || r.Err() != api.OK || r.Left() != 2 {
			t.Errorf("a text of %d bytes: %d bytes, %d, %d left", len(s), len(got), r.Err(), r.Left())
		}
		if n := r.Num(); n != 7 || r.Done() != api.OK {
			t.Errorf("behind a text of %d bytes: %d %d", len(s), n, r.Done())
		}
	}
}

func TestP104TextErrors(t *testing.T) {
	text := func(r *wire.Reader) bool { return r.Text() == "" }
	for _, s := range []string{"a", "hello", strings.Repeat("x", 300)} {
		b, _ := wire.Text(s)
		for i := range b {
			fails(t, string(b[:i]), api.ErrEnd, text)
		}
	}
	fails(t, "\x03\x10\x00\x00"+strings.Repeat("x", mostSize-1), api.ErrEnd, text)
	fails(t, "\x03\x10\x00\x01"+strings.Repeat("x", mostSize+1), api.ErrForm, text)
	fails(t, "\x03\x10\x00\x01"+strings.Repeat("x", mostSize+9), api.ErrForm, text)
	fails(t, "\x04\x01\x00\x00\x00"+strings.Repeat("x", 1<<24), api.ErrForm, text)
}

func TestP104Fail(t *testing.T) {
	r := wire.Open([]byte("\x01\x05\x01\x06"))
	if r.Fail(api.OK); r.Err() != api.OK || r.Num() != 5 {
		t.Error("Fail of OK", r.Err())
	}
	if r.Fail(api.ErrKey); r.Err() != api.ErrKey || r.Done() != api.ErrKey || r.Left() != 2 {
		t.Error("Fail", r.Err(), r.Done(), r.Left())
	}
	r.Fail(api.ErrLock)
	r.Fail(api.OK)
	if r.Err() != api.ErrKey || r.Done() != api.ErrKey || r.Num() != 0 || r.Upto(9) != 0 || r.Text() != "" || r.Left() != 2 {
		t.Error("behind Fail", r.Err(), r.Done(), r.Left())
	}
	r = wire.Open(nil)
	if r.Fail(api.ErrForm); r.Done() != api.ErrForm || r.Err() != api.ErrForm {
		t.Error("Fail of an empty one", r.Done())
	}
	r = wire.Open([]byte("\x01"))
	r.Num()
	if r.Fail(api.ErrForm); r.Err() != api.ErrEnd {
		t.Error("Fail behind an error", r.Err())
	}
}

func TestP104Done(t *testing.T) {
	r := wire.Open([]byte("\x00\x00"))
	for left := 2; left > 0; left-- {
		if r.Err() != api.OK || r.Done() != api.ErrForm || r.Left() != left {
			t.Error(left, r.Err(), r.Done(), r.Left())
		}
		if left == 2 {
			r.Num()
		}
		if left == 1 {
			r.Text()
		}
	}
	if r.Err() != api.OK || r.Done() != api.OK || r.Left() != 0 {
		t.Error(r.Err(), r.Done(), r.Left())
	}
}

func TestP105NumsAndTexts(t *testing.T) {
	rnd := rand.New(rand.NewSource(105))
	for range 300 {
		var b []byte
		var ns []int
		var ss []string
		for range rnd.Intn(8) {
			n := rnd.Intn(1 << rnd.Intn(49))
			s := string(noise(rnd.Int63(), rnd.Intn(400)))
			num, e1 := wire.Num(n)
			text, e2 := wire.Text(s)
			if e1 != api.OK || e2 != api.OK {
				t.Fatal(n, len(s), e1, e2)
			}
			b = append(append(b, num...), text...)
			ns, ss = append(ns, n), append(ss, s)
		}
		r := wire.Open(b)
		for i := range ns {
			if n, s := r.Num(), r.Text(); n != ns[i] || s != ss[i] {
				t.Fatalf("%d %q, want %d %q", n, s, ns[i], ss[i])
			}
		}
		if r.Done() != api.OK {
			t.Fatal(r.Done())
		}
	}
}

func TestP105FramesWithMoreBehind(t *testing.T) {
	for _, more := range []string{"", "\x00", "\x5d", "more", "\xff\xff\xff\xff\xff"} {
		for _, n := range []int{0, 1, 40, 255, 256, 70000} {
			b := noise(int64(n), n)
			f := frame(t, b)
			in, size, e := wire.Unframe(append(bytes.Clone(f), more...))
			if !bytes.Equal(in, b) || size != len(f) || e != api.OK {
				t.Errorf("%d bytes and %q: %d bytes, size %d, %d", n, more, len(in), size, e)
			}
		}
	}
	row := append(frame(t, []byte("one")), frame(t, frame(t, []byte("two")))...)
	one, size, _ := wire.Unframe(row)
	two, _, _ := wire.Unframe(row[size:])
	two, _, e := wire.Unframe(two)
	if string(one) != "one" || string(two) != "two" || e != api.OK {
		t.Errorf("%q %q %d", one, two, e)
	}
}

func TestP106Rot(t *testing.T) {
	for _, b := range [][]byte{nil, {0}, {0x5d}, []byte("abc"), make([]byte, 40), frame(t, []byte("inner")), noise(7, 260)} {
		f := frame(t, b)
		for i := range f {
			for c := 1; c < 256; c++ {
				bad := bytes.Clone(f)
				bad[i] ^= byte(c)
				in, _, e := wire.Unframe(bad)
				if e == api.OK && len(in) == len(b) && !bytes.Equal(in, b) {
					t.Fatalf("%q with byte %d flipped by %d: %q", f, i, c, in)
				}
				if i >= len(f)-len(b)-4 && e == api.OK {
					t.Fatalf("%q with byte %d flipped by %d is unframed", f, i, c)
				}
			}
		}
	}
}
