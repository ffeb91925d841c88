package vector_test

import (
	"math"
	"math/rand"
	"strings"
	"testing"

	"diorama/api"
	"diorama/vector"
	"diorama/wire"
)

const (
	mostReplicas = 16
	mostBatches  = 512
)

type vec = vector.Vector

// of answers the vector that begins with these numbers.
func of(l ...int) (v vec) {
	copy(v[:], l)
	return v
}

// full answers the vector that has n at each place.
func full(n int) (v vec) {
	for i := range v {
		v[i] = n
	}
	return v
}

// alone answers the vector that has n at place i and 0 else.
func alone(i, n int) (v vec) {
	v[i] = n
	return v
}

// with answers v, but n at place i.
func with(v vec, i, n int) vec {
	v[i] = n
	return v
}

// good are vectors that may be, each with its bytes.
var good = []struct {
	v     vec
	bytes string
}{
	{of(), "\x00"},
	{of(1), "\x01\x01\x01\x01"},
	{of(3), "\x01\x01\x01\x03"},
	{of(0, 1), "\x01\x02\x00\x01\x01"},
	{of(7, 0, 0, 2), "\x01\x04\x01\x07\x00\x00\x01\x02"},
	{of(255, 256), "\x01\x02\x01\xff\x02\x01\x00"},
	{of(511, 512), "\x01\x02\x02\x01\xff\x02\x02\x00"},
	{of(1, 2, 3, 4, 5, 6, 7, 8, 9, 10, 11, 12, 13, 14, 15), "\x01\x0f\x01\x01\x01\x02\x01\x03\x01\x04\x01\x05\x01\x06\x01\x07\x01\x08\x01\x09\x01\x0a\x01\x0b\x01\x0c\x01\x0d\x01\x0e\x01\x0f"},
	{alone(14, 300), "\x01\x0f" + strings.Repeat("\x00", 14) + "\x02\x01\x2c"},
	{alone(15, 1), "\x01\x10" + strings.Repeat("\x00", 15) + "\x01\x01"},
	{full(1), "\x01\x10" + strings.Repeat("\x01\x01", 16)},
	{full(mostBatches), "\x01\x10" + strings.Repeat("\x02\x02\x00", 16)},
}

// wrongNumbers may be at no place.
var wrongNumbers = []int{-1, -2, -mostBatches, mostBatches + 1, mostBatches + 256, 1 << 16, 1 << 32, 1 << 48, math.MinInt, math.MinInt + 1, math.MaxInt - 1, math.MaxInt}

// bad are no vectors that may be: one number of each is wrong, or two that would make up for each other in a sum.
func bad() (l []vec) {
	for _, n := range wrongNumbers {
		for i := range mostReplicas {
			l = append(l, alone(i, n), with(full(mostBatches), i, n), with(full(9), i, n))
		}
		l = append(l, full(n), with(alone(0, n), 15, -n), with(alone(3, n), 4, 10-n))
	}
	return l
}

// some answers a vector of few numbers, so that two of them are often alike at a place.
func some(rnd *rand.Rand) (v vec) {
	most := 1 + rnd.Intn(4)
	for i := range v {
		v[i] = rnd.Intn(most)
	}
	return v
}

// anyNumbers answers a vector of numbers that may be or not.
func anyNumbers(rnd *rand.Rand) (v vec) {
	for i := range v {
		switch rnd.Intn(4) {
		case 0:
			v[i] = wrongNumbers[rnd.Intn(len(wrongNumbers))]
		case 1:
			v[i] = int(rnd.Uint64())
		default:
			v[i] = rnd.Intn(3)
		}
	}
	return v
}

// mayBe answers a vector that may be, with noughts at the end of many.
func mayBe(rnd *rand.Rand) (v vec) {
	for i := range rnd.Intn(mostReplicas + 1) {
		if rnd.Intn(3) > 0 {
			v[i] = rnd.Intn(mostBatches + 1)
		}
	}
	return v
}

// pairs calls do with two vectors of many kinds.
func pairs(seed int64, do func(a, b vec)) {
	rnd := rand.New(rand.NewSource(seed))
	for range 2000 {
		do(some(rnd), some(rnd))
		do(anyNumbers(rnd), anyNumbers(rnd))
		do(mayBe(rnd), mayBe(rnd))
		a := anyNumbers(rnd)
		do(a, a)
		do(a, with(a, rnd.Intn(mostReplicas), int(rnd.Uint64())))
	}
}

func TestP601NilAndUnmadeReaders(t *testing.T) {
	for name, r := range map[string]*wire.Reader{"nil": nil, "new": new(wire.Reader), "literal": {}} {
		for range 2 {
			if v := vector.Take(r); v != (vec{}) || r.Err() != api.ErrArg {
				t.Error(name, v, r.Err())
			}
		}
	}
}

func TestP601AnswersAreNew(t *testing.T) {
	for _, x := range good {
		first, _ := vector.Put(x.v)
		kept, _ := vector.Put(x.v)
		room := first[:cap(first)]
		for i := range room {
			room[i] ^= 0xff
		}
		again, _ := vector.Put(x.v)
		if string(kept) != x.bytes || string(again) != x.bytes {
			t.Errorf("%v: answers of Put share memory", x.v)
		}
	}
}

// What is called has no part in what a later call answers, nor does it change what was handed in.
func TestP601Pure(t *testing.T) {
	pairs(601, func(a, b vec) {
		wasA, wasB := a, b
		join, meet, covers, compare := vector.Join(a, b), vector.Meet(a, b), vector.Covers(a, b), vector.Compare(a, b)
		vector.Join(b, a)
		vector.Meet(b, a)
		vector.Covers(b, a)
		vector.Compare(b, a)
		vector.Right(a)
		vector.Total(a)
		vector.Put(a)
		if vector.Join(a, b) != join || vector.Meet(a, b) != meet || vector.Covers(a, b) != covers || vector.Compare(a, b) != compare {
			t.Fatal("another answer", a, b)
		}
		if a != wasA || b != wasB {
			t.Fatal("changed", a, b)
		}
	})
}

func TestP602Type(t *testing.T) {
	if n := len(vec{}); n != mostReplicas {
		t.Error(n)
	}
	if vector.Apart != 2 {
		t.Error(vector.Apart)
	}
}

func TestP602Right(t *testing.T) {
	for _, x := range good {
		if !vector.Right(x.v) {
			t.Error(x.v, "may be")
		}
	}
	for i := range mostReplicas {
		for _, n := range []int{0, 1, 255, 256, mostBatches - 1, mostBatches} {
			if !vector.Right(alone(i, n)) || !vector.Right(with(full(mostBatches), i, n)) {
				t.Error(n, "may be at", i)
			}
		}
	}
	for _, v := range bad() {
		if vector.Right(v) {
			t.Error(v, "may not be")
		}
	}
}

func TestP602JoinAndMeet(t *testing.T) {
	a := of(1, 5, 3, 0, -7, math.MaxInt, math.MinInt, 512)
	b := of(2, 4, 3, 9, -8, math.MinInt, math.MaxInt, 513)
	if got, want := vector.Join(a, b), of(2, 5, 3, 9, -7, math.MaxInt, math.MaxInt, 513); got != want {
		t.Error("Join", got)
	}
	if got, want := vector.Meet(a, b), of(1, 4, 3, 0, -8, math.MinInt, math.MinInt, 512); got != want {
		t.Error("Meet", got)
	}
	for i := range mostReplicas {
		for _, n := range []int{1, 4, 6, 512} {
			if got := vector.Join(full(5), alone(i, n)); got != with(full(5), i, max(5, n)) {
				t.Error("Join", i, n, got)
			}
			if got := vector.Meet(full(5), with(full(600), i, n)); got != with(full(5), i, min(5, n)) {
				t.Error("Meet", i, n, got)
			}
		}
	}
}

func TestP602JoinAndMeetOfAny(t *testing.T) {
	pairs(6020, func(a, b vec) {
		join, meet := vector.Join(a, b), vector.Meet(a, b)
		for i := range mostReplicas {
			greater, lesser := a[i], b[i]
			if greater < lesser {
				greater, lesser = lesser, greater
			}
			if join[i] != greater || meet[i] != lesser {
				t.Fatal(i, a, b, join, meet)
			}
		}
	})
}

func TestP602Covers(t *testing.T) {
	for _, v := range []vec{of(), full(3), full(mostBatches), full(-1), full(math.MinInt), full(math.MaxInt), of(1, 2, 3)} {
		if !vector.Covers(v, v) {
			t.Error(v, "itself")
		}
	}
	// One place is enough, whichever it is and however the others stand.
	for i := range mostReplicas {
		if !vector.Covers(alone(i, 1), of()) || vector.Covers(of(), alone(i, 1)) {
			t.Error("one more at", i)
		}
		if vector.Covers(with(full(400), i, 4), full(5)) || !vector.Covers(full(5), with(full(4), i, 5)) {
			t.Error("one less at", i)
		}
		if !vector.Covers(of(), alone(i, -1)) || vector.Covers(alone(i, -1), of()) {
			t.Error("below 0 at", i)
		}
		if !vector.Covers(alone(i, math.MaxInt), alone(i, math.MinInt)) || vector.Covers(alone(i, math.MinInt), alone(i, math.MaxInt)) {
			t.Error("far apart at", i)
		}
	}
}

func compares(t *testing.T, a, b vec, want int) {
	t.Helper()
	if got := vector.Compare(a, b); got != want {
		t.Errorf("%v with %v: %d, want %d", a, b, got, want)
	}
	back := -want
	if want == vector.Apart {
		back = want
	}
	if got := vector.Compare(b, a); got != back {
		t.Errorf("%v with %v: %d, want %d", b, a, got, back)
	}
}

func TestP602Compare(t *testing.T) {
	compares(t, of(), of(), 0)
	compares(t, full(mostBatches), full(mostBatches), 0)
	compares(t, full(math.MinInt), full(math.MinInt), 0)
	compares(t, of(1), of(), 1)
	compares(t, of(2, 3), of(2, 2), 1)
	compares(t, of(2, 3), of(1, 2), 1)
	compares(t, full(math.MaxInt), full(math.MinInt), 1)
	compares(t, of(1), of(0, 1), vector.Apart)
	compares(t, of(2, 3), of(3, 2), vector.Apart)
	compares(t, of(5, 5, 5), of(5, 4, 6), vector.Apart)
	// Their sums say nothing.
	compares(t, of(512), of(0, 1), vector.Apart)
	for i := range mostReplicas {
		compares(t, alone(i, 1), of(), 1)
		compares(t, of(), alone(i, -1), 1)
		compares(t, with(full(7), i, 8), full(7), 1)
		for j := range i {
			compares(t, alone(i, 1), alone(j, 1), vector.Apart)
			compares(t, with(full(7), i, 8), with(full(7), j, 8), vector.Apart)
			compares(t, with(full(7), i, 8), with(full(7), j, 6), 1)
		}
	}
}

func TestP602CompareAny(t *testing.T) {
	seen := map[int]int{}
	pairs(6021, func(a, b vec) {
		above, below := false, false
		for i := range mostReplicas {
			above = above || a[i] > b[i]
			below = below || a[i] < b[i]
		}
		if vector.Covers(a, b) == below || vector.Covers(b, a) == above {
			t.Fatal("Covers", a, b)
		}
		want := 0
		switch {
		case above && below:
			want = 2
		case above:
			want = 1
		case below:
			want = -1
		}
		seen[want]++
		compares(t, a, b, want)
	})
	for _, n := range []int{-1, 0, 1, 2} {
		if seen[n] < 100 {
			t.Error("few pairs compare as", n, seen)
		}
	}
}

func TestP602Total(t *testing.T) {
	for want, v := range map[int]vec{
		0: of(), 1: alone(15, 1), 6: of(1, 2, 3), 512: alone(7, 512), 513: of(512, 0, 1), 1023: of(511, 512),
		120: of(1, 2, 3, 4, 5, 6, 7, 8, 9, 10, 11, 12, 13, 14, 15), mostReplicas: full(1), mostReplicas * mostBatches: full(mostBatches),
	} {
		if got := vector.Total(v); got != want {
			t.Errorf("%v: %d, want %d", v, got, want)
		}
	}
	for i := range mostReplicas {
		if got := vector.Total(with(full(2), i, 100)); got != 130 {
			t.Error(i, got)
		}
	}
	for _, v := range bad() {
		if got := vector.Total(v); got != 0 {
			t.Error(v, got)
		}
	}
}

func TestP602Put(t *testing.T) {
	for _, x := range good {
		if b, e := vector.Put(x.v); string(b) != x.bytes || e != api.OK {
			t.Errorf("%v: %q %d, want %q", x.v, b, e, x.bytes)
		}
	}
	// There are as many numbers as there are places up to the last one that is not 0.
	for i := range mostReplicas {
		want := string([]byte{1, byte(i + 1)}) + strings.Repeat("\x00", i) + "\x01\x05"
		if b, e := vector.Put(alone(i, 5)); string(b) != want || e != api.OK {
			t.Errorf("5 at %d: %q %d, want %q", i, b, e, want)
		}
	}
	for _, v := range bad() {
		if b, e := vector.Put(v); len(b) != 0 || e != api.ErrArg {
			t.Errorf("%v: %q %d", v, b, e)
		}
	}
}

func TestP602Take(t *testing.T) {
	for _, x := range good {
		r := wire.Open([]byte(x.bytes + "\x01\x07"))
		if v := vector.Take(r); v != x.v || r.Err() != api.OK || r.Left() != 2 {
			t.Errorf("%q: %v %d, %d left", x.bytes, v, r.Err(), r.Left())
		}
		if n := r.Num(); n != 7 || r.Done() != api.OK {
			t.Errorf("behind %q: %d %d", x.bytes, n, r.Done())
		}
	}
}

func TestP602TakeOneBehindTheOther(t *testing.T) {
	var all string
	for _, x := range good {
		all += x.bytes
	}
	r := wire.Open([]byte(all))
	for _, x := range good {
		if v := vector.Take(r); v != x.v {
			t.Errorf("%v, want %v", v, x.v)
		}
	}
	if r.Done() != api.OK {
		t.Error(r.Done(), r.Left())
	}
}

// refuses asks that the bytes are no vector's, told by this error, where so many bytes are left.
func refuses(t *testing.T, b string, want api.Errno, left int) {
	t.Helper()
	r := wire.Open([]byte(b))
	for range 2 {
		if v := vector.Take(r); v != (vec{}) || r.Err() != want || r.Left() != left {
			t.Errorf("%q: %v %d, %d left, want error %d and %d left", b, v, r.Err(), r.Left(), want, left)
		}
	}
}

func TestP602TakeEnds(t *testing.T) {
	refuses(t, "", api.ErrEnd, 0)
	refuses(t, "\x01", api.ErrEnd, 1)
	refuses(t, "\x01\x01", api.ErrEnd, 0)
	refuses(t, "\x01\x01\x01", api.ErrEnd, 1)
	refuses(t, "\x01\x02\x01\x05", api.ErrEnd, 0)
	refuses(t, "\x01\x02\x01\x05\x02\x01", api.ErrEnd, 2)
	refuses(t, "\x01\x10"+strings.Repeat("\x01\x01", 15), api.ErrEnd, 0)
	for _, x := range good {
		for i := range x.bytes {
			r := wire.Open([]byte(x.bytes[:i]))
			if v := vector.Take(r); v != (vec{}) || r.Err() != api.ErrEnd {
				t.Errorf("%q: %v %d", x.bytes[:i], v, r.Err())
			}
		}
	}
}

func TestP602TakeOfTooMuch(t *testing.T) {
	// More than MaxReplicas numbers, also if all that is too many is 0, or is not there.
	refuses(t, "\x01\x11", api.ErrOver, 2)
	refuses(t, "\x01\x11"+strings.Repeat("\x01\x01", 17), api.ErrOver, 36)
	refuses(t, "\x01\x11"+strings.Repeat("\x01\x01", 16)+"\x00", api.ErrOver, 35)
	refuses(t, "\x01\xff"+strings.Repeat("\x00", 255), api.ErrOver, 257)
	refuses(t, "\x02\x01\x00"+strings.Repeat("\x01\x01", 256), api.ErrOver, 515)
	refuses(t, "\x06\xff\xff\xff\xff\xff\xff\x01\x01", api.ErrOver, 9)
	// A number above MaxBatches, at each place, also if the last number is 0.
	for _, n := range []string{"\x02\x02\x01", "\x02\x02\xff", "\x02\xff\xff", "\x03\x01\x00\x00", "\x05\x01\x00\x00\x00\x00", "\x06\xff\xff\xff\xff\xff\xff"} {
		for i := range mostReplicas {
			head := "\x01\x10" + strings.Repeat("\x01\x09", i)
			rest := n + strings.Repeat("\x01\x08", 15-i)
			refuses(t, head+rest, api.ErrOver, len(rest))
			refuses(t, head+n+strings.Repeat("\x00", 15-i), api.ErrOver, len(n)+15-i)
		}
		refuses(t, "\x01\x01"+n+"more", api.ErrOver, len(n)+4)
	}
	// Of a number that ends too early it can't be told that it is too great.
	refuses(t, "\x01\x01\x02\x02", api.ErrEnd, 2)
}

func TestP602TakeOfWrongForms(t *testing.T) {
	// The last number is 0: all numbers are passed.
	for count := 1; count <= mostReplicas; count++ {
		refuses(t, string([]byte{1, byte(count)})+strings.Repeat("\x01\x07", count-1)+"\x00", api.ErrForm, 0)
		refuses(t, string([]byte{1, byte(count)})+strings.Repeat("\x00", count)+"\x01\x07", api.ErrForm, 2)
	}
	// Numbers that are not written so.
	refuses(t, "\x01\x00", api.ErrForm, 2)
	refuses(t, "\x02\x00\x01\x01\x05", api.ErrForm, 5)
	refuses(t, "\x07\x01\x02\x03\x04\x05\x06\x07\x00", api.ErrForm, 9)
	refuses(t, "\xff", api.ErrForm, 1)
	refuses(t, "\x01\x01\x01\x00", api.ErrForm, 2)
	refuses(t, "\x01\x01\x02\x00\x05", api.ErrForm, 3)
	refuses(t, "\x01\x02\x01\x05\x09", api.ErrForm, 1)
	refuses(t, "\x01\x03\x01\x05\x01\x00\x01\x06", api.ErrForm, 4)
}

// The first error stands: that of an earlier read, and that of a number ahead of a last one that is 0.
func TestP602TakeOfAReaderWithAnError(t *testing.T) {
	for _, x := range good {
		r := wire.Open([]byte(x.bytes))
		r.Fail(api.ErrKey)
		if v := vector.Take(r); v != (vec{}) || r.Err() != api.ErrKey || r.Left() != len(x.bytes) {
			t.Error(x.v, v, r.Err(), r.Left())
		}
	}
	r := wire.Open([]byte("\x01\x09\x01\x01\x00"))
	if r.Upto(8) != 0 || vector.Take(r) != (vec{}) || r.Err() != api.ErrOver || r.Left() != 5 {
		t.Error(r.Err(), r.Left())
	}
}

func TestP603Join(t *testing.T) {
	pairs(603, func(a, b vec) {
		if vector.Join(a, b) != vector.Join(b, a) || vector.Join(a, a) != a {
			t.Fatal("turned round", a, b)
		}
		if vector.Join(a, vector.Meet(a, b)) != a || vector.Join(b, vector.Meet(a, b)) != b {
			t.Fatal("with the Meet", a, b)
		}
	})
}

func TestP603Meet(t *testing.T) {
	pairs(6030, func(a, b vec) {
		if vector.Meet(a, b) != vector.Meet(b, a) || vector.Meet(a, a) != a {
			t.Fatal("turned round", a, b)
		}
		if vector.Meet(a, vector.Join(a, b)) != a || vector.Meet(b, vector.Join(a, b)) != b {
			t.Fatal("with the Join", a, b)
		}
	})
}

func TestP603PutTogetherOtherwise(t *testing.T) {
	rnd := rand.New(rand.NewSource(6031))
	for range 3000 {
		for _, draw := range []func(*rand.Rand) vec{some, anyNumbers, mayBe} {
			a, b, c := draw(rnd), draw(rnd), draw(rnd)
			if vector.Join(vector.Join(a, b), c) != vector.Join(a, vector.Join(b, c)) {
				t.Fatal("Join", a, b, c)
			}
			if vector.Meet(vector.Meet(a, b), c) != vector.Meet(a, vector.Meet(b, c)) {
				t.Fatal("Meet", a, b, c)
			}
		}
	}
}

func TestP603Covers(t *testing.T) {
	pairs(6032, func(a, b vec) {
		join, meet := vector.Join(a, b), vector.Meet(a, b)
		if vector.Covers(a, b) != (join == a) || vector.Covers(a, b) != (meet == b) {
			t.Fatal(a, b)
		}
		if !vector.Covers(join, a) || !vector.Covers(join, b) || !vector.Covers(a, meet) || !vector.Covers(b, meet) {
			t.Fatal("Join and Meet", a, b)
		}
	})
}

// What may be stays so, and no number of a Join or a Meet is one that neither had.
func TestP603MayBe(t *testing.T) {
	rnd := rand.New(rand.NewSource(6033))
	for range 3000 {
		a, b := mayBe(rnd), mayBe(rnd)
		join, meet := vector.Join(a, b), vector.Meet(a, b)
		if !vector.Right(join) || !vector.Right(meet) || vector.Total(join)+vector.Total(meet) != vector.Total(a)+vector.Total(b) {
			t.Fatal(a, b, join, meet)
		}
	}
}

func back(t *testing.T, v vec) {
	t.Helper()
	b, e := vector.Put(v)
	r := wire.Open(b)
	if got := vector.Take(r); got != v || e != api.OK || r.Done() != api.OK {
		t.Fatal(v, got, e, r.Done())
	}
}

func TestP604ThereAndBack(t *testing.T) {
	for _, x := range good {
		back(t, x.v)
	}
	for i := range mostReplicas {
		for n := range mostBatches + 1 {
			back(t, alone(i, n))
			back(t, with(full(mostBatches), i, n))
		}
	}
	rnd := rand.New(rand.NewSource(604))
	for range 5000 {
		back(t, mayBe(rnd))
	}
}

// Whatever the bytes are: they are a vector's just if they are those that Put answers of it.
func TestP7AnyBytes(t *testing.T) {
	rnd := rand.New(rand.NewSource(7))
	known := map[api.Errno]int{}
	for range 200000 {
		b := make([]byte, rnd.Intn(12))
		for i := range b {
			b[i] = []byte{0, 1, 1, 1, 2, 3, 16, 17, byte(rnd.Intn(256))}[rnd.Intn(9)]
		}
		r := wire.Open(b)
		v := vector.Take(r)
		known[r.Err()]++
		if r.Err() != api.OK {
			if v != (vec{}) {
				t.Fatalf("%q: %v beside %d", b, v, r.Err())
			}
			continue
		}
		again, e := vector.Put(v)
		if !vector.Right(v) || string(again) != string(b[:len(b)-r.Left()]) || e != api.OK {
			t.Fatalf("%q: %v, and back %q %d", b, v, again, e)
		}
	}
	if len(known) != 4 || min(known[api.OK], known[api.ErrEnd], known[api.ErrForm], known[api.ErrOver]) < 100 {
		t.Error(known)
	}
}
