package stamp_test

import (
	"math"
	"math/rand"
	"slices"
	"strconv"
	"strings"
	"testing"

	"diorama/api"
	"diorama/stamp"
	"diorama/wire"
)

const (
	mostTime    = 1 << 40
	mostReplica = 15
)

func at(time, replica int) api.Stamp { return api.Stamp{Time: time, Replica: replica} }

// good are rising.
var good = []struct {
	s     api.Stamp
	bytes string
	text  string
}{
	{at(0, 0), "\x00\x00", "0@0"},
	{at(0, 1), "\x00\x01\x01", "0@1"},
	{at(0, 15), "\x00\x01\x0f", "0@15"},
	{at(1, 0), "\x01\x01\x00", "1@0"},
	{at(5, 2), "\x01\x05\x01\x02", "5@2"},
	{at(5, 10), "\x01\x05\x01\x0a", "5@10"},
	{at(10, 0), "\x01\x0a\x00", "10@0"},
	{at(255, 9), "\x01\xff\x01\x09", "255@9"},
	{at(256, 7), "\x02\x01\x00\x01\x07", "256@7"},
	{at(mostTime-1, 15), "\x05\xff\xff\xff\xff\xff\x01\x0f", "1099511627775@15"},
	{at(mostTime, 0), "\x06\x01\x00\x00\x00\x00\x00\x00", "1099511627776@0"},
	{at(mostTime, 15), "\x06\x01\x00\x00\x00\x00\x00\x01\x0f", "1099511627776@15"},
}

// bad are no stamps that may be.
var bad = []api.Stamp{
	at(-1, 0), at(0, -1), at(-1, -1), at(0, 16), at(5, 17), at(mostTime, 16), at(mostTime+1, 0), at(mostTime+1, 16), at(-mostTime, 3),
	at(math.MinInt, 0), at(0, math.MinInt), at(math.MaxInt, 0), at(0, math.MaxInt), at(math.MinInt, math.MinInt), at(math.MaxInt, math.MaxInt),
	at(5, 256), at(1<<48, 0), at(1<<32, 1<<32),
}

func clock(t *testing.T, replica, time int) *stamp.Clock {
	t.Helper()
	c, e := stamp.New(replica, time)
	if c == nil || e != api.OK {
		t.Fatalf("New(%d, %d): %v %d", replica, time, c, e)
	}
	return c
}

// next asks that the clock's next stamp is this one.
func next(t *testing.T, c *stamp.Clock, count int, want api.Stamp) {
	t.Helper()
	if s, e := c.Next(count); s != want || e != api.OK {
		t.Errorf("Next(%d): %v %d, want %v", count, s, e, want)
	}
}

// refuses asks that the call fails thus and leaves the clock as it was.
func refuses(t *testing.T, c *stamp.Clock, want api.Errno, call func() (api.Stamp, api.Errno)) {
	t.Helper()
	was := c.Time()
	if s, e := call(); s != (api.Stamp{}) || e != want || c.Time() != was {
		t.Errorf("%v %d, Time %d, want error %d and Time %d", s, e, c.Time(), want, was)
	}
}

func TestP201NilAndUnmadeClocks(t *testing.T) {
	for name, c := range map[string]*stamp.Clock{"nil": nil, "new": new(stamp.Clock), "literal": {}} {
		for range 2 {
			for _, count := range []int{1, 2, 0, -1, math.MinInt, math.MaxInt, mostTime} {
				if s, e := c.Next(count); s != (api.Stamp{}) || e != api.ErrArg {
					t.Error(name, "Next", count, s, e)
				}
			}
			for _, s := range []api.Stamp{at(0, 0), at(5, 2), at(-1, 0), at(mostTime, 15)} {
				if e := c.See(s); e != api.ErrArg {
					t.Error(name, "See", s, e)
				}
			}
			if n := c.Time(); n != 0 {
				t.Error(name, "Time", n)
			}
		}
	}
}

func TestP201NilAndUnmadeReaders(t *testing.T) {
	for name, r := range map[string]*wire.Reader{"nil": nil, "new": new(wire.Reader), "literal": {}} {
		if s := stamp.Take(r); s != (api.Stamp{}) {
			t.Error(name, s)
		}
	}
}

func TestP201ArgumentsStay(t *testing.T) {
	room := []api.Stamp{at(9, 9), at(3, 1), at(1, 2), at(3, 0), at(8, 8)}
	was := slices.Clone(room)
	if s := stamp.Max(room[1:4]...); s != at(3, 1) || !slices.Equal(room, was) {
		t.Error(s, room)
	}
}

func TestP201AnswersAreNew(t *testing.T) {
	for _, x := range good {
		first, _ := stamp.Put(x.s)
		kept, _ := stamp.Put(x.s)
		room := first[:cap(first)]
		for i := range room {
			room[i] ^= 0xff
		}
		again, _ := stamp.Put(x.s)
		if string(kept) != x.bytes || string(again) != x.bytes {
			t.Errorf("%v: answers of Put share memory", x.s)
		}
	}
}

func TestP201ClocksAreApart(t *testing.T) {
	one, two := clock(t, 1, 5), clock(t, 1, 5)
	next(t, one, 10, at(6, 1))
	if e := one.See(at(100, 2)); e != api.OK {
		t.Error(e)
	}
	if two.Time() != 5 {
		t.Error(two.Time())
	}
	next(t, two, 1, at(6, 1))
	next(t, one, 1, at(101, 1))
}

func TestP202Right(t *testing.T) {
	for _, x := range good {
		if !stamp.Right(x.s) {
			t.Error(x.s, "may be")
		}
	}
	for _, s := range bad {
		if stamp.Right(s) {
			t.Error(s, "may not be")
		}
	}
}

// rising has numbers of any kind.
var rising = []api.Stamp{
	at(math.MinInt, math.MinInt), at(math.MinInt, 0), at(math.MinInt, math.MaxInt),
	at(-2, 5), at(-1, -7), at(-1, 3),
	at(0, math.MinInt), at(0, -1), at(0, 0), at(0, 1), at(0, 15), at(0, 16), at(0, math.MaxInt),
	at(1, 0), at(2, 1), at(9, 0), at(10, 0), at(mostTime, 15), at(mostTime+1, 0),
	at(math.MaxInt, math.MinInt), at(math.MaxInt, 0), at(math.MaxInt, math.MaxInt),
}

func TestP202Compare(t *testing.T) {
	for i, a := range rising {
		for j, b := range rising {
			want := 0
			if i < j {
				want = -1
			}
			if i > j {
				want = 1
			}
			if got := stamp.Compare(a, b); got != want {
				t.Errorf("%v with %v: %d, want %d", a, b, got, want)
			}
		}
	}
}

func TestP202Max(t *testing.T) {
	if s := stamp.Max(); s != (api.Stamp{}) {
		t.Error("of nothing", s)
	}
	for _, l := range [][]api.Stamp{nil, {}} {
		if s := stamp.Max(l...); s != (api.Stamp{}) {
			t.Error("of an empty list", s)
		}
	}
	for i, a := range rising {
		if s := stamp.Max(a); s != a {
			t.Errorf("of %v alone: %v", a, s)
		}
		if s := stamp.Max(a, a, a); s != a {
			t.Errorf("of %v three times: %v", a, s)
		}
		for _, b := range rising[:i] {
			if s := stamp.Max(a, b); s != a {
				t.Errorf("of %v and %v: %v", a, b, s)
			}
			if s := stamp.Max(b, a); s != a {
				t.Errorf("of %v and %v: %v", b, a, s)
			}
		}
	}
	rnd := rand.New(rand.NewSource(202))
	for range 300 {
		most := rnd.Intn(len(rising)) + 1
		l := slices.Clone(rising[:most])
		rnd.Shuffle(len(l), func(i, j int) { l[i], l[j] = l[j], l[i] })
		if s := stamp.Max(l...); s != rising[most-1] {
			t.Fatalf("of %v: %v", l, s)
		}
	}
}

func TestP202Put(t *testing.T) {
	for _, x := range good {
		if b, e := stamp.Put(x.s); string(b) != x.bytes || e != api.OK {
			t.Errorf("%v: %q %d, want %q", x.s, b, e, x.bytes)
		}
	}
	for _, s := range bad {
		if b, e := stamp.Put(s); len(b) != 0 || e != api.ErrArg {
			t.Errorf("%v: %q %d", s, b, e)
		}
	}
}

func TestP202Take(t *testing.T) {
	for _, x := range good {
		r := wire.Open([]byte(x.bytes + "\x01\x07"))
		if s := stamp.Take(r); s != x.s || r.Err() != api.OK || r.Left() != 2 {
			t.Errorf("%q: %v %d, %d left", x.bytes, s, r.Err(), r.Left())
		}
		if n := r.Num(); n != 7 || r.Done() != api.OK {
			t.Errorf("behind %q: %d %d", x.bytes, n, r.Done())
		}
	}
}

func TestP202TakeErrors(t *testing.T) {
	takes := func(b string, want api.Errno, left int) {
		t.Helper()
		r := wire.Open([]byte(b))
		for range 2 {
			if s := stamp.Take(r); s != (api.Stamp{}) || r.Err() != want || r.Left() != left {
				t.Errorf("%q: %v %d, %d left, want error %d and %d left", b, s, r.Err(), r.Left(), want, left)
			}
		}
	}
	takes("", api.ErrEnd, 0)
	takes("\x01", api.ErrEnd, 1)
	takes("\x01\x05", api.ErrEnd, 0)
	takes("\x01\x05\x01", api.ErrEnd, 1)
	takes("\x00", api.ErrEnd, 0)
	takes("\x01\x00\x00", api.ErrForm, 3)
	takes("\x07\x01\x02\x03\x04\x05\x06\x07\x00", api.ErrForm, 9)
	takes("\x01\x05\x01\x00", api.ErrForm, 2)
	takes("\x01\x05\xff", api.ErrForm, 1)
	takes("\x06\x01\x00\x00\x00\x00\x01\x00", api.ErrOver, 8)
	takes("\x06\xff\xff\xff\xff\xff\xff\x00", api.ErrOver, 8)
	takes("\x01\x05\x01\x10", api.ErrOver, 2)
	takes("\x01\x05\x06\xff\xff\xff\xff\xff\xff", api.ErrOver, 7)

	r := wire.Open([]byte("\x01\x05\x01\x02"))
	r.Fail(api.ErrKey)
	if s := stamp.Take(r); s != (api.Stamp{}) || r.Err() != api.ErrKey || r.Left() != 4 {
		t.Error("of a reader that has an error", s, r.Err(), r.Left())
	}
}

func TestP202Print(t *testing.T) {
	for _, x := range good {
		if got := stamp.Print(x.s); got != x.text {
			t.Errorf("%v: %q, want %q", x.s, got, x.text)
		}
	}
	for s, want := range map[api.Stamp]string{
		at(-1, 0):                       "-1@0",
		at(0, -1):                       "0@-1",
		at(-5, -20):                     "-5@-20",
		at(7, 16):                       "7@16",
		at(mostTime+1, 100):             "1099511627777@100",
		at(math.MaxInt, math.MinInt):    "9223372036854775807@-9223372036854775808",
		at(math.MinInt, math.MaxInt):    "-9223372036854775808@9223372036854775807",
		at(math.MinInt+1, -mostReplica): "-9223372036854775807@-15",
	} {
		if got := stamp.Print(s); got != want {
			t.Errorf("%v: %q, want %q", s, got, want)
		}
	}
}

func TestP202Parse(t *testing.T) {
	for _, x := range good {
		if s, ok := stamp.Parse(x.text); s != x.s || !ok {
			t.Errorf("%q: %v %t", x.text, s, ok)
		}
	}
}

func TestP202ParseRefuses(t *testing.T) {
	wrong := []string{
		"", "@", "0", "5", "5@", "@2", "5@@2", "5@2@", "@5@2", "5@2@1", "52", "5 @2", "5@ 2", " 5@2", "5@2 ", "5@2\n", "5@2\x00",
		"05@2", "5@02", "00@0", "0@00", "+5@2", "5@+2", "-0@0", "0@-0", "5@2.0", "5.0@2", "5e0@2", "0x5@2", "5@0x2", "1_0@2", "5@1_0",
		"a@b", "5@b", "a@2", "５@2", "5＠2", "5\xff@2", "5-2", "5,2",
		strings.Repeat("0", 100) + "5@2", strings.Repeat("9", 1000) + "@2", "5@" + strings.Repeat("9", 1000), strings.Repeat("@", 1000),
		"18446744073709551621@2", "5@18446744073709551618", "9223372036854775808@0", "0@9223372036854775808",
	}
	for _, s := range bad {
		wrong = append(wrong, strconv.Itoa(s.Time)+"@"+strconv.Itoa(s.Replica))
	}
	for _, x := range wrong {
		if s, ok := stamp.Parse(x); s != (api.Stamp{}) || ok {
			t.Errorf("%.40q: %v %t", x, s, ok)
		}
	}
}

// Whatever is put together of a text's signs: it is read just if it is a text of a stamp that may be.
func TestP202ParseAnyText(t *testing.T) {
	rnd := rand.New(rand.NewSource(2020))
	read := 0
	for range 100000 {
		b := make([]byte, rnd.Intn(7))
		for i := range b {
			b[i] = "0011259@@-+ "[rnd.Intn(12)]
		}
		s, ok := stamp.Parse(string(b))
		if ok && (!stamp.Right(s) || stamp.Print(s) != string(b)) || !ok && s != (api.Stamp{}) || ok != isText(string(b)) {
			t.Fatalf("%q: %v %t", b, s, ok)
		}
		if ok {
			read++
		}
	}
	if read < 100 {
		t.Error("few texts were stamps:", read)
	}
}

// isText goes sign by sign, so that it leans on nothing that reads numbers. No Time of up to six digits is too great.
func isText(s string) bool {
	parts := strings.Split(s, "@")
	if len(parts) != 2 {
		return false
	}
	for _, p := range parts {
		if p == "" || len(p) > 1 && p[0] == '0' || strings.Trim(p, "0123456789") != "" {
			return false
		}
	}
	r := parts[1]
	return len(r) == 1 || len(r) == 2 && r[0] == '1' && r[1] <= '5'
}

func TestP202ThereAndBack(t *testing.T) {
	rnd := rand.New(rand.NewSource(2021))
	for range 3000 {
		s := at(rnd.Intn(1<<rnd.Intn(41)+1), rnd.Intn(16))
		if got, ok := stamp.Parse(stamp.Print(s)); got != s || !ok {
			t.Fatal("as a text", s, got, ok)
		}
		b, e := stamp.Put(s)
		r := wire.Open(b)
		if got := stamp.Take(r); got != s || e != api.OK || r.Done() != api.OK {
			t.Fatal("as bytes", s, got, e, r.Done())
		}
	}
}

func TestP203New(t *testing.T) {
	for _, x := range good {
		c := clock(t, x.s.Replica, x.s.Time)
		if c.Time() != x.s.Time {
			t.Error(x.s, c.Time())
		}
	}
	for _, s := range bad {
		if c, e := stamp.New(s.Replica, s.Time); c != nil || e != api.ErrArg {
			t.Error(s, c, e)
		}
	}
	// The replica comes first: 20 may be a Time only.
	if c, e := stamp.New(20, 3); c != nil || e != api.ErrArg {
		t.Error(c, e)
	}
	next(t, clock(t, 3, 20), 1, at(21, 3))
}

func TestP203Next(t *testing.T) {
	c := clock(t, 4, 0)
	next(t, c, 1, at(1, 4))
	next(t, c, 1, at(2, 4))
	next(t, c, 5, at(3, 4))
	if c.Time() != 7 {
		t.Error(c.Time())
	}
	next(t, c, 64, at(8, 4))
	if c.Time() != 71 {
		t.Error(c.Time())
	}
}

func TestP203NextRefuses(t *testing.T) {
	c := clock(t, 4, 7)
	for _, count := range []int{0, -1, -7, -8, -mostTime, math.MinInt} {
		refuses(t, c, api.ErrArg, func() (api.Stamp, api.Errno) { return c.Next(count) })
	}
	for _, count := range []int{mostTime - 6, mostTime, mostTime + 1, math.MaxInt - 7, math.MaxInt - 6, math.MaxInt} {
		refuses(t, c, api.ErrOver, func() (api.Stamp, api.Errno) { return c.Next(count) })
	}
	next(t, c, 1, at(8, 4))
}

func TestP203NextAtTheEnd(t *testing.T) {
	c := clock(t, 15, mostTime-3)
	refuses(t, c, api.ErrOver, func() (api.Stamp, api.Errno) { return c.Next(4) })
	next(t, c, 2, at(mostTime-2, 15))
	next(t, c, 1, at(mostTime, 15))
	for range 2 {
		refuses(t, c, api.ErrOver, func() (api.Stamp, api.Errno) { return c.Next(1) })
		refuses(t, c, api.ErrArg, func() (api.Stamp, api.Errno) { return c.Next(0) })
	}
	next(t, clock(t, 0, 0), mostTime, at(1, 0))
	c = clock(t, 0, mostTime)
	refuses(t, c, api.ErrOver, func() (api.Stamp, api.Errno) { return c.Next(math.MaxInt) })
}

func TestP203See(t *testing.T) {
	c := clock(t, 4, 7)
	for _, x := range []struct {
		s    api.Stamp
		time int
	}{
		{at(0, 0), 7}, {at(6, 15), 7}, {at(7, 4), 7}, {at(7, 9), 7}, {at(8, 0), 8}, {at(3, 4), 8}, {at(900, 4), 900}, {at(899, 15), 900}, {at(mostTime, 2), mostTime}, {at(1, 2), mostTime},
	} {
		if e := c.See(x.s); e != api.OK || c.Time() != x.time {
			t.Errorf("%v: %d, Time %d, want %d", x.s, e, c.Time(), x.time)
		}
	}
	refuses(t, c, api.ErrOver, func() (api.Stamp, api.Errno) { return c.Next(1) })
}

func TestP203SeeRefuses(t *testing.T) {
	c := clock(t, 4, 7)
	for _, s := range append([]api.Stamp{at(20, 16), at(20, -1)}, bad...) {
		refuses(t, c, api.ErrArg, func() (api.Stamp, api.Errno) { return api.Stamp{}, c.See(s) })
	}
	next(t, c, 1, at(8, 4))
}

func TestP204OneOrder(t *testing.T) {
	numbers := []int{math.MinInt, -2, -1, 0, 1, 2, 15, 16, mostTime, math.MaxInt}
	rnd := rand.New(rand.NewSource(204))
	some := func() api.Stamp { return at(numbers[rnd.Intn(len(numbers))], numbers[rnd.Intn(len(numbers))]) }
	for range 100000 {
		a, b, c := some(), some(), some()
		ab, bc, ac := stamp.Compare(a, b), stamp.Compare(b, c), stamp.Compare(a, c)
		if ab != -stamp.Compare(b, a) || (ab == 0) != (a == b) || ab < -1 || ab > 1 {
			t.Fatal(a, b, ab, stamp.Compare(b, a))
		}
		if ab <= 0 && bc <= 0 && ac != min(ab, bc) || ab >= 0 && bc >= 0 && ac != max(ab, bc) {
			t.Fatal(a, b, c, ab, bc, ac)
		}
	}
}

func TestP205Ahead(t *testing.T) {
	rnd := rand.New(rand.NewSource(205))
	for range 300 {
		replica, start := rnd.Intn(16), rnd.Intn(50)
		c := clock(t, replica, start)
		most, time := at(start, mostReplica), start
		for range 100 {
			if rnd.Intn(2) == 0 {
				s := at(max(0, time+rnd.Intn(40)-20), rnd.Intn(16))
				if e := c.See(s); e != api.OK {
					t.Fatal(s, e)
				}
				most, time = stamp.Max(most, s), max(time, s.Time)
			} else {
				count := rnd.Intn(9) + 1
				s, e := c.Next(count)
				if e != api.OK || s.Replica != replica || stamp.Compare(s, most) != 1 {
					t.Fatal("not above", most, s, e)
				}
				most, time = at(s.Time+count-1, replica), s.Time+count-1
			}
			if c.Time() != time {
				t.Fatal(c.Time(), time)
			}
		}
	}
}

// Two clocks that see each other's stamps never answer one stamp twice, however they take turns.
func TestP205TwoClocks(t *testing.T) {
	rnd := rand.New(rand.NewSource(2050))
	clocks := []*stamp.Clock{clock(t, 3, 0), clock(t, 12, 0)}
	answered := map[api.Stamp]bool{}
	once := func(c *stamp.Clock) api.Stamp {
		s, e := c.Next(1)
		if e != api.OK || answered[s] {
			t.Fatal(s, e, "twice:", answered[s])
		}
		answered[s] = true
		return s
	}
	for range 2000 {
		i := rnd.Intn(2)
		s := once(clocks[i])
		if rnd.Intn(3) == 0 {
			clocks[1-i].See(s)
			if other := once(clocks[1-i]); stamp.Compare(other, s) != 1 {
				t.Fatal(other, "is not above", s)
			}
		}
	}
}

func TestP7SameSteps(t *testing.T) {
	steps := func() (out []string) {
		c, e := stamp.New(2, 40)
		out = append(out, strconv.Itoa(int(e)))
		rnd := rand.New(rand.NewSource(7))
		for range 500 {
			n := []int{1, 3, 0, -1, 64, mostTime, math.MaxInt, math.MinInt, rnd.Intn(100)}[rnd.Intn(9)]
			s, e := c.Next(n)
			seen := c.See(at(n, rnd.Intn(20)-2))
			out = append(out, stamp.Print(s), strconv.Itoa(int(e)), strconv.Itoa(int(seen)), strconv.Itoa(c.Time()))
		}
		return out
	}
	if !slices.Equal(steps(), steps()) {
		t.Error("the same steps have other answers")
	}
}
