package poskey_test

import (
	"bytes"
	"math"
	"math/big"
	"math/rand"
	"slices"
	"strings"
	"testing"

	"diorama/api"
	"diorama/poskey"
)

const (
	mostBytes = 24
	mostKeys  = 64
)

// full and first are the last key and the first one that may be.
var (
	full  = strings.Repeat("\xff", mostBytes)
	first = strings.Repeat("\x00", mostBytes-1) + "\x01"
)

// good are rising.
var good = []string{
	first, strings.Repeat("\x00", 22) + "\x01", "\x00\x00\x01", "\x00\x01", "\x00\xff", "\x00\xff\xff", "\x01", "\x01\x00\x01", "\x01\x01", "\x01\xff", "\x02",
	"A", "A\x00\x00a", "AB", "Ab", "B", "a", "aaaaaaaaaaaaaaaaaaaaaaa", "aaaaaaaaaaaaaaaaaaaaaaaa", "ab", "\x7f", "\x7f\xff", "\x80", "\x80\x80", "\x81", "\xfe\xff", "\xff", "\xff\x01", "\xff\xff", full[:23], full,
}

// bad are no keys that may be, the open end among them.
var bad = []string{
	"", "\x00", "\x00\x00", "\x01\x00", "a\x00", "\xff\x00", full[:23] + "\x00", strings.Repeat("\x00", 24),
	full + "\xff", full + "\x00", "\x00" + first, strings.Repeat("a", 25), strings.Repeat("\x00", 25), strings.Repeat("a", 256+1), strings.Repeat("a", 1<<16), strings.Repeat("a", 1<<20),
}

func right(k string) bool {
	return len(k) > 0 && len(k) <= mostBytes && k[len(k)-1] != 0
}

// ends tells whether a and b are ends that Between takes.
func ends(a, b string) bool {
	return (a == "" || right(a)) && (b == "" || right(b)) && (a == "" || b == "" || bytes.Compare([]byte(a), []byte(b)) < 0)
}

func lies(a, k, b string) bool {
	return right(k) && (a == "" || a < k) && (b == "" || k < b)
}

// anyKey answers keys of all lengths, mostly of bytes at the ends, so that many begin alike.
func anyKey(rnd *rand.Rand) string {
	b := make([]byte, 1+rnd.Intn(mostBytes))
	if rnd.Intn(2) == 0 {
		b = b[:1+rnd.Intn(min(3, len(b)))]
	}
	for i := range b {
		b[i] = []byte{0, 0, 1, 2, 127, 128, 254, 255, 255, byte(rnd.Intn(256))}[rnd.Intn(10)]
	}
	b[len(b)-1] = max(b[len(b)-1], 1)
	return string(b)
}

// anyEnds answers ends that Between takes, often near each other.
func anyEnds(rnd *rand.Rand) (a, b string) {
	for {
		a, b = anyKey(rnd), anyKey(rnd)
		switch rnd.Intn(5) {
		case 0:
			b = (a + b)[:min(mostBytes, len(a)+len(b))]
		case 1:
			near := []byte(a)
			near[rnd.Intn(len(a))] += byte(1 + rnd.Intn(2))
			b = string(near)
		}
		switch rnd.Intn(12) {
		case 0:
			a = ""
		case 1:
			b = ""
		}
		if a != "" && b != "" && a > b {
			a, b = b, a
		}
		if ends(a, b) {
			return a, b
		}
	}
}

// tightEnds answers two that have fewer than 255 keys between.
func tightEnds(rnd *rand.Rand) (a, b string) {
	head := (anyKey(rnd) + full)[:mostBytes-1]
	last := 1 + rnd.Intn(254)
	return head + string([]byte{byte(last)}), head + string([]byte{byte(last + 1 + rnd.Intn(255-last))})
}

func between(t *testing.T, a, b, want string) {
	t.Helper()
	if k, e := poskey.Between(a, b); k != want || e != api.OK {
		t.Errorf("between %q and %q: %q %d, want %q", a, b, k, e, want)
	}
}

func refuses(t *testing.T, a, b string, want api.Errno) {
	t.Helper()
	if k, e := poskey.Between(a, b); k != "" || e != want {
		t.Errorf("between %.40q and %.40q: %q %d, want error %d", a, b, k, e, want)
	}
}

func refusesSpread(t *testing.T, a, b string, n int, want api.Errno) {
	t.Helper()
	if l, e := poskey.Spread(a, b, n); len(l) != 0 || e != want {
		t.Errorf("%d between %.40q and %.40q: %q %d, want error %d", n, a, b, l, e, want)
	}
}

func TestP401AnswersAreNew(t *testing.T) {
	l, _ := poskey.Spread("a", "b", 7)
	kept := slices.Clone(l)
	other, _ := poskey.Spread("a", "b", 7)
	room := l[:cap(l)]
	for i := range room {
		room[i] = "other"
	}
	again, _ := poskey.Spread("a", "b", 7)
	if !slices.Equal(other, kept) || !slices.Equal(again, kept) {
		t.Errorf("%q, then %q and %q", kept, other, again)
	}
}

func TestP401AnyArguments(t *testing.T) {
	all := append(slices.Clone(good), bad...)
	for _, a := range all {
		for _, b := range all {
			k, e := poskey.Between(a, b)
			if again, f := poskey.Between(a, b); again != k || f != e {
				t.Errorf("between %.40q and %.40q: %q %d, then %q %d", a, b, k, e, again, f)
			}
			if ends(a, b) == (e == api.ErrArg) || e != api.OK && e != api.ErrArg && e != api.ErrKey || (e == api.OK) != lies(a, k, b) || e != api.OK && k != "" {
				t.Errorf("between %.40q and %.40q: %q %d", a, b, k, e)
			}
			for _, n := range []int{math.MinInt, -1, 0, 1, 2, 3, 63, 64, 65, 1 << 32, math.MaxInt} {
				l, e := poskey.Spread(a, b, n)
				if (!ends(a, b) || n < 0 || n > mostKeys) != (e == api.ErrArg) || e == api.OK && len(l) != n || e != api.OK && len(l) != 0 {
					t.Errorf("%d between %.40q and %.40q: %q %d", n, a, b, l, e)
				}
			}
		}
	}
}

func TestP402Right(t *testing.T) {
	for _, k := range good {
		if !poskey.Right(k) {
			t.Errorf("%q may be", k)
		}
	}
	for _, k := range bad {
		if poskey.Right(k) {
			t.Errorf("%.40q may not be", k)
		}
	}
	for c := range 256 {
		for n := range 30 {
			k := strings.Repeat("\x00", n) + string([]byte{byte(c)})
			if poskey.Right(k) != (c != 0 && n < mostBytes) {
				t.Errorf("%q: %t", k, poskey.Right(k))
			}
		}
	}
}

func TestP402Compare(t *testing.T) {
	for i, a := range good {
		for j, b := range good {
			want := max(-1, min(1, i-j))
			if got := poskey.Compare(a, b); got != want {
				t.Errorf("%q and %q: %d, want %d", a, b, got, want)
			}
		}
	}
	// Any texts are told, not only keys that may be.
	for _, x := range []struct {
		a, b string
		want int
	}{
		{"", "", 0}, {"", "\x00", -1}, {"\x00", "", 1}, {"\x00", "\x00", 0}, {"\x00", "\x00\x00", -1}, {"a", "a\x00", -1}, {"a\x00", "a", 1}, {"a\x00", "a\x01", -1}, {"a\x00\xff", "a\x01", -1},
		{"b", "aaa", 1}, {"\x7f", "\x80", -1}, {"\xff", "z", 1}, {"é", "z", 1}, {"\xc3", "\xc3\xa9", -1}, {full, full + "\x00", -1}, {full + "\x01", full + "\x02", -1},
		{strings.Repeat("a", 100000), strings.Repeat("a", 100000), 0}, {strings.Repeat("a", 100000), strings.Repeat("a", 99999) + "b", -1},
	} {
		if got := poskey.Compare(x.a, x.b); got != x.want {
			t.Errorf("%.40q and %.40q: %d, want %d", x.a, x.b, got, x.want)
		}
	}
	rnd := rand.New(rand.NewSource(402))
	for range 100000 {
		a, b := anyKey(rnd), anyKey(rnd)
		if got := poskey.Compare(a, b); got != bytes.Compare([]byte(a), []byte(b)) {
			t.Fatalf("%q and %q: %d", a, b, got)
		}
	}
}

func TestP402Between(t *testing.T) {
	for _, x := range [][3]string{
		{"", "", "\x80"},
		{"\x80", "\x81", "\x80\x80"},
		{"\x80", "", "\xc0"}, {"\xc0", "", "\xe0"}, {"\xfd", "", "\xfe"}, {"\xfe", "", "\xff"}, {"\xff", "", "\xff\x80"}, {"\xff\xff", "", "\xff\xff\x80"}, {"\xff\x80", "", "\xff\xc0"}, {"\x01", "", "\x80"}, {"\x02", "", "\x81"},
		{"", "\x80", "\x40"}, {"", "\x40", "\x20"}, {"", "\x03", "\x01"}, {"", "\x02", "\x01"}, {"", "\x01", "\x00\x80"}, {"", "\x00\x80", "\x00\x40"}, {"", "\x00\x01", "\x00\x00\x80"}, {"", "\x01\x01", "\x01"}, {"", "\x00\x02\x05", "\x00\x01"}, {"", "\xff", "\x7f"}, {"", "\xff\x01", "\x80"},
		{"\x01", "\x03", "\x02"}, {"\x01", "\x04", "\x02"}, {"\x01", "\x05", "\x03"}, {"\x01", "\x02", "\x01\x80"}, {"\x01", "\x02\x01", "\x02"}, {"\x01", "\x01\x02", "\x01\x01"}, {"\x01", "\x01\x01", "\x01\x00\x80"}, {"\x01", "\x01\x00\x01", "\x01\x00\x00\x80"}, {"\x01", "\x01\x01\x01", "\x01\x01"}, {"\x01", "\x01\x00\x01\x05", "\x01\x00\x01"},
		// The lowest beginning stands, also where a higher one has more room.
		{"\x01\xfe", "\x02", "\x01\xff"}, {"\x01\xff", "\x02", "\x01\xff\x80"}, {"\x01\xff", "\x02\x01", "\x02"}, {"\x01\xff\xff", "\x02", "\x01\xff\xff\x80"}, {"\x01\xff\xff", "\x03", "\x02"}, {"\x01\xff\xfe", "\x02\x00\x05", "\x02"}, {"\x01\x80", "\x02", "\x01\xc0"}, {"\x01\xfd", "\x02\x00\xff", "\x02"}, {"\x01\x05\xfe", "\x01\x06", "\x01\x05\xff"},
		{"a\x01", "a\x02", "a\x01\x80"}, {"a\x01", "b", "a\x80"}, {"ab", "abc", "ab1"}, {"ab", "ac", "ab\x80"}, {"abc", "ac", "ab\xb1"}, {"abcd", "ac", "ab\xb1"},
		{full[:23] + "\xfd", "", full[:23] + "\xfe"}, {full[:23] + "\xfe", "", full}, {full[:23], "", full[:23] + "\x80"}, {full[:23] + "\x01", full[:23] + "\x03", full[:23] + "\x02"},
		{"", first[:23] + "\x02", first}, {"", first[:22] + "\x01", first[:23] + "\x80"}, {first, first[:23] + "\x03", first[:23] + "\x02"},
		{first, "", "\x80"}, {"", full, "\x80"}, {first, full, "\x80"}, {first, "\x01", "\x00\x80"},
	} {
		between(t, x[0], x[1], x[2])
	}
}

func TestP402BetweenArguments(t *testing.T) {
	for i, a := range good {
		for _, b := range good[:i+1] {
			refuses(t, a, b, api.ErrArg)
		}
		for _, k := range bad[1:] {
			refuses(t, a, k, api.ErrArg)
			refuses(t, k, a, api.ErrArg)
		}
	}
	for _, k := range bad[1:] {
		refuses(t, k, k, api.ErrArg)
		refuses(t, k, "", api.ErrArg)
		refuses(t, "", k, api.ErrArg)
		refuses(t, k, full+"\x01", api.ErrArg)
	}
	// ErrArg is told ahead of ErrKey: nothing is between these either.
	refuses(t, full, full, api.ErrArg)
	refuses(t, full, full+"\x00", api.ErrArg)
}

func TestP402BetweenNoKey(t *testing.T) {
	refuses(t, full, "", api.ErrKey)
	refuses(t, "", first, api.ErrKey)
	refuses(t, first, first[:23]+"\x02", api.ErrKey)
	refuses(t, full[:23]+"\xfe", full, api.ErrKey)
	refuses(t, full[:23], full[:23]+"\x01", api.ErrKey)
	refuses(t, "a", "a"+first[:22]+"\x01", api.ErrKey)
	refuses(t, "a"+full[:23], "b", api.ErrKey)
	refuses(t, "a\xfe"+full[:22], "a\xff", api.ErrKey)
	// With one more byte there is one.
	between(t, "a", "a"+first[:22]+"\x02", "a"+first[:22]+"\x01")
	between(t, "a"+full[:22], "b", "a"+full[:22]+"\x80")
	between(t, "a"+full[:23], "b\x01", "b")
}

// Of all keys of one and of two bytes the one between is found by going through them.
func TestP402BetweenOfFew(t *testing.T) {
	var keys []string
	for size := 1; size <= 2; size++ {
		for n := range 1 << (8 * size) {
			k := string([]byte{byte(n >> 8), byte(n)}[2-size:])
			if right(k) {
				keys = append(keys, k)
			}
		}
	}
	rnd := rand.New(rand.NewSource(4020))
	for range 1000 {
		a, b := anyEnds(rnd)
		if want := chosen(keys, a, b); want != "" {
			between(t, a, b, want)
		}
	}
}

// chosen asks that keys are told the shorter ones first, then rising.
func chosen(keys []string, a, b string) string {
	var among []byte
	head := ""
	for _, k := range keys {
		last := len(k) - 1
		if !lies(a, k, b) {
			continue
		}
		if among == nil {
			head = k[:last]
		}
		if len(k) == len(head)+1 && k[:last] == head {
			among = append(among, k[last])
		}
	}
	if among == nil {
		return ""
	}
	half := (int(among[0]) + int(among[len(among)-1])) / 2
	return head + string([]byte{byte(half)})
}

// parted answers the key between as whole numbers tell it: those of size bytes stand at k parts of 256^size each. Without one, "".
func parted(a, b string) string {
	one := big.NewInt(1)
	for size := 1; size <= mostBytes; size++ {
		least := new(big.Int).Add(scaled(a, size, false), one)
		most := new(big.Int).Lsh(one, uint(8*size))
		if b != "" {
			most = scaled(b, size, true)
		}
		most.Sub(most, one)
		if least.Cmp(most) > 0 {
			continue
		}
		room := new(big.Int).Sub(most, least)
		low := least.FillBytes(make([]byte, size))
		last := int(low[size-1])
		end := 255
		if room.IsInt64() {
			end = min(end, last+int(min(room.Int64(), 255)))
		}
		low[size-1] = byte((last + end) / 2)
		return string(low)
	}
	return ""
}

// scaled answers how many parts of 256^size each k has, rounded down or up.
func scaled(k string, size int, up bool) *big.Int {
	n := new(big.Int).SetBytes([]byte(k))
	if len(k) <= size {
		return n.Lsh(n, uint(8*(size-len(k))))
	}
	cut := uint(8 * (len(k) - size))
	whole := new(big.Int).Rsh(n, cut)
	if up && new(big.Int).Lsh(whole, cut).Cmp(n) < 0 {
		whole.Add(whole, big.NewInt(1))
	}
	return whole
}

func TestP402BetweenAny(t *testing.T) {
	rnd := rand.New(rand.NewSource(40200))
	var lengths [mostBytes + 1]int
	for range 200000 {
		a, b := anyEnds(rnd)
		want := parted(a, b)
		lengths[len(want)]++
		if want == "" {
			refuses(t, a, b, api.ErrKey)
		} else {
			between(t, a, b, want)
		}
		if t.Failed() {
			return
		}
	}
	if slices.Min(lengths[:]) < 50 {
		t.Error("few keys of some length, or few that are none:", lengths)
	}
}

func TestP403SpreadArguments(t *testing.T) {
	for _, n := range []int{-1, -64, 65, 66, 256, 1 << 32, math.MinInt, math.MaxInt} {
		refusesSpread(t, "", "", n, api.ErrArg)
		refusesSpread(t, "a", "b", n, api.ErrArg)
		refusesSpread(t, full, "", n, api.ErrArg)
		refusesSpread(t, "b", "a", n, api.ErrArg)
	}
	// The ends are looked at also where none is asked for.
	for _, n := range []int{0, 1, 2, 64} {
		refusesSpread(t, "b", "a", n, api.ErrArg)
		refusesSpread(t, "a", "a", n, api.ErrArg)
		for _, k := range bad[1:] {
			refusesSpread(t, k, "", n, api.ErrArg)
			refusesSpread(t, "", k, n, api.ErrArg)
			refusesSpread(t, k, k, n, api.ErrArg)
		}
	}
}

func TestP403Spread(t *testing.T) {
	for _, x := range []struct {
		a, b string
		want []string
	}{
		{"", "", nil}, {"a", "b", nil}, {full, "", nil}, {"", first, nil},
		{"", "", []string{"\x80"}},
		// Of two the first is the middle one.
		{"", "", []string{"\x80", "\xc0"}},
		{"", "", []string{"\x40", "\x80", "\xc0"}},
		{"", "", []string{"\x40", "\x80", "\xc0", "\xe0"}},
		{"", "", []string{"\x40", "\x60", "\x80", "\xc0", "\xe0"}},
		{"", "", []string{"\x40", "\x60", "\x80", "\xa0", "\xc0", "\xe0"}},
		{"", "", []string{"\x20", "\x40", "\x60", "\x80", "\xa0", "\xc0", "\xe0"}},
		{"\x80", "\x81", []string{"\x80\x80"}},
		{"\x80", "\x81", []string{"\x80\x40", "\x80\x80", "\x80\xc0"}},
		{"\x01", "\x05", []string{"\x02", "\x03", "\x04"}},
		{"\x01", "\x05", []string{"\x02", "\x03", "\x04", "\x04\x80"}},
		{"\x01", "\x03", []string{"\x01\x80", "\x02", "\x02\x80"}},
		{"", first[:23] + "\x03", []string{first, first[:23] + "\x02"}},
		{full[:23] + "\xfc", "", []string{full[:23] + "\xfd", full[:23] + "\xfe", full}},
	} {
		if l, e := poskey.Spread(x.a, x.b, len(x.want)); !slices.Equal(l, x.want) || e != api.OK {
			t.Errorf("%d between %q and %q: %q %d, want %q", len(x.want), x.a, x.b, l, e, x.want)
		}
	}
}

func TestP403SpreadNoKey(t *testing.T) {
	// Nothing is answered, whether the middle one, one ahead or one behind is missing.
	refusesSpread(t, full, "", 1, api.ErrKey)
	refusesSpread(t, "", first, 64, api.ErrKey)
	refusesSpread(t, "", first[:23]+"\x02", 2, api.ErrKey)
	refusesSpread(t, "", first[:23]+"\x02", 3, api.ErrKey)
	refusesSpread(t, full[:23]+"\xfd", "", 3, api.ErrKey)
	refusesSpread(t, full[:23]+"\xfb", "", 5, api.ErrKey)
	refusesSpread(t, full[:23]+"\xfc", "", 4, api.ErrKey)
	refusesSpread(t, "a"+full[:22]+"\xf0", "b", 64, api.ErrKey)
}

// halved goes as the promise's words go.
func halved(a, b string, n int) ([]string, bool) {
	if n == 0 {
		return nil, true
	}
	k := parted(a, b)
	at := (n - 1) / 2
	if k == "" {
		return nil, false
	}
	ahead, ok := halved(a, k, at)
	behind, also := halved(k, b, n-at-1)
	return slices.Concat(ahead, []string{k}, behind), ok && also
}

func TestP403SpreadAny(t *testing.T) {
	rnd := rand.New(rand.NewSource(403))
	without := 0
	for range 5000 {
		a, b := anyEnds(rnd)
		n := rnd.Intn(mostKeys + 1)
		if rnd.Intn(4) == 0 {
			a, b = tightEnds(rnd)
		}
		want, ok := halved(a, b, n)
		if !ok {
			without++
			refusesSpread(t, a, b, n, api.ErrKey)
		} else if l, e := poskey.Spread(a, b, n); !slices.Equal(l, want) || e != api.OK {
			t.Errorf("%d between %q and %q: %q %d, want %q", n, a, b, l, e, want)
		}
		if t.Failed() {
			return
		}
	}
	if without < 100 {
		t.Error("few had no keys:", without)
	}
}

func TestP404Between(t *testing.T) {
	rnd := rand.New(rand.NewSource(404))
	for range 100000 {
		a, b := anyEnds(rnd)
		k, e := poskey.Between(a, b)
		if e != api.OK {
			continue
		}
		if !poskey.Right(k) || a != "" && poskey.Compare(a, k) != -1 || b != "" && poskey.Compare(k, b) != -1 {
			t.Fatalf("between %q and %q: %q", a, b, k)
		}
	}
}

// Keys that are put in one behind the other, at any place of a row, rise till there is no room.
func TestP404Row(t *testing.T) {
	rnd := rand.New(rand.NewSource(4040))
	for _, place := range []func(n int) int{func(n int) int { return 0 }, func(n int) int { return n }, func(n int) int { return n / 2 }, func(n int) int { return min(n, 1) }, func(n int) int { return rnd.Intn(n + 1) }} {
		var row []string
		for range 1000 {
			at := place(len(row))
			a, b := "", ""
			if at > 0 {
				a = row[at-1]
			}
			if at < len(row) {
				b = row[at]
			}
			k, e := poskey.Between(a, b)
			if e == api.ErrKey {
				break
			}
			if e != api.OK || !lies(a, k, b) {
				t.Fatalf("between %q and %q: %q %d", a, b, k, e)
			}
			row = slices.Insert(row, at, k)
		}
		// Each of MaxKey bytes can be halved some seven times, at the least.
		if len(row) < 7*mostBytes {
			t.Error("no room behind", len(row))
		}
	}
}

func TestP404Spread(t *testing.T) {
	rnd := rand.New(rand.NewSource(40400))
	for range 5000 {
		a, b := anyEnds(rnd)
		n := rnd.Intn(mostKeys + 1)
		l, e := poskey.Spread(a, b, n)
		if e != api.OK {
			continue
		}
		if len(l) != n {
			t.Fatalf("%d between %q and %q: %q", n, a, b, l)
		}
		for i, k := range l {
			if !lies(a, k, b) || i > 0 && l[i-1] >= k {
				t.Fatalf("%d between %q and %q: %q", n, a, b, l)
			}
		}
	}
}
