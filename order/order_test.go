package order_test

import (
	"bytes"
	"cmp"
	"fmt"
	"math"
	"math/rand"
	"slices"
	"strings"
	"testing"

	"diorama/api"
	"diorama/order"
	"diorama/poskey"
	"diorama/tree"
)

const (
	mostTime = 1 << 40
	mostKey  = 24
	mostKeys = 64
)

func at(time, replica int) api.Stamp { return api.Stamp{Time: time, Replica: replica} }

func sib(key string, time, replica int) order.Sib {
	return order.Sib{Key: key, Node: at(time, replica)}
}

var (
	root, trash = at(0, 0), at(0, 1)
	full        = strings.Repeat("\xff", mostKey)
	first       = strings.Repeat("\x00", mostKey-1) + "\x01"
)

// ordered stand as they are written, each once: also such with keys and stamps that may not be.
var ordered = []order.Sib{
	sib("", math.MinInt, 5), sib("", -1, 0), sib("", 0, 0), sib("", 0, 1), sib("", math.MaxInt, math.MaxInt),
	sib("\x00", 3, 0), sib("\x00\x00", 1, 0), sib(first, 9, 9), sib("\x00\x01", 2, 0), sib("\x01", 7, 0), sib("\x01\x00", 1, 0), sib("\x01\x00\x01", 1, 0), sib("\x02", 0, 0),
	sib("A", 9, 0), sib("AB", 1, 0), sib("Ab", 1, 0), sib("B", 1, 0),
	sib("a", math.MinInt, math.MinInt), sib("a", -2, 15), sib("a", 0, -1), sib("a", 0, 0), sib("a", 1, 2), sib("a", 1, 10), sib("a", 2, 0), sib("a", 2, 1), sib("a", 9, 15), sib("a", 10, 0), sib("a", mostTime, 15), sib("a", mostTime+1, 0), sib("a", math.MaxInt, math.MinInt), sib("a", math.MaxInt, math.MaxInt),
	sib("a\x00", 1, 0), sib("a\x01", 1, 0), sib("aa", 1, 0), sib("b", 0, 0), sib("\x7f\xff", 1, 0), sib("\x80", 1, 0), sib("\x80", 1, 1), sib("\xc3\xa9", 1, 0), sib("\xff", 1, 0), sib(full, 1, 0), sib(full+"\x01", 0, 0), sib(strings.Repeat("\xff", 1000), 0, 0),
}

// told writes siblings as short as can be read.
func told(l ...order.Sib) string {
	var s []string
	for _, x := range l[:min(len(l), 50)] {
		s = append(s, fmt.Sprintf("%.30q %d@%d", x.Key, x.Node.Time, x.Node.Replica))
	}
	return "(" + strings.Join(s, ", ") + ")"
}

// stand answers -1, 0 or 1 as the chapter's words do.
func stand(a, b order.Sib) int {
	return cmp.Or(bytes.Compare([]byte(a.Key), []byte(b.Key)), cmp.Compare(a.Node.Time, b.Node.Time), cmp.Compare(a.Node.Replica, b.Node.Replica))
}

// anySib answers siblings of few keys and nodes, so that some are the same.
func anySib(rnd *rand.Rand) order.Sib {
	keys := []string{"", "\x01", "\x02", "a", "aa", "ab", "b", "\x00\x01", "a\x00", "\xff", full}
	return sib(keys[rnd.Intn(len(keys))], rnd.Intn(4), rnd.Intn(3))
}

func anyList(rnd *rand.Rand) []order.Sib {
	l := make([]order.Sib, rnd.Intn(30))
	for i := range l {
		l[i] = anySib(rnd)
	}
	return l
}

// anyKey answers keys that may be, mostly of bytes at the ends, so that many are near each other.
func anyKey(rnd *rand.Rand) string {
	b := make([]byte, 1+rnd.Intn(3))
	if rnd.Intn(4) == 0 {
		b = make([]byte, mostKey)
	}
	for i := range b {
		b[i] = []byte{0, 0, 1, 2, 127, 128, 254, 255, 255, byte(rnd.Intn(256))}[rnd.Intn(10)]
	}
	b[len(b)-1] = max(b[len(b)-1], 1)
	return string(b)
}

// anyRow answers a row of keys that may be, some of them the same.
func anyRow(rnd *rand.Rand) []order.Sib {
	var l []order.Sib
	for range rnd.Intn(12) {
		l = append(l, sib(anyKey(rnd), 1+rnd.Intn(5), rnd.Intn(3)))
		if rnd.Intn(4) == 0 {
			l = append(l, sib(l[len(l)-1].Key, 9, rnd.Intn(16)))
		}
	}
	slices.SortFunc(l, stand)
	return slices.Compact(l)
}

func isRow(l []order.Sib) bool {
	for i := 1; i < len(l); i++ {
		if stand(l[i-1], l[i]) >= 0 {
			return false
		}
	}
	return true
}

// ends answers the keys at a place, and whether both siblings there have the same one.
func ends(l []order.Sib, place int) (a, b string, same bool) {
	if place > 0 {
		a = l[place-1].Key
	}
	if place < len(l) {
		b = l[place].Key
	}
	return a, b, place > 0 && place < len(l) && a == b
}

func keyIs(t *testing.T, l []order.Sib, place int, want string) {
	t.Helper()
	if k, e := order.Key(l, place); k != want || e != api.OK {
		t.Errorf("Key of %s at %d: %q %d, want %q", told(l...), place, k, e, want)
	}
}

func keysAre(t *testing.T, l []order.Sib, place, n int, want []string) {
	t.Helper()
	if keys, e := order.Keys(l, place, n); !slices.Equal(keys, want) || e != api.OK {
		t.Errorf("%d Keys of %s at %d: %q %d, want %q", n, told(l...), place, keys, e, want)
	}
}

// refuses asks Key, and Keys of all these numbers.
func refuses(t *testing.T, l []order.Sib, place int, want api.Errno, numbers ...int) {
	t.Helper()
	if k, e := order.Key(l, place); k != "" || e != want {
		t.Errorf("Key of %s at %d: %q %d, want error %d", told(l...), place, k, e, want)
	}
	for _, n := range numbers {
		refusesKeys(t, l, place, n, want)
	}
}

func refusesKeys(t *testing.T, l []order.Sib, place, n int, want api.Errno) {
	t.Helper()
	if keys, e := order.Keys(l, place, n); len(keys) != 0 || e != want {
		t.Errorf("%d Keys of %s at %d: %q %d, want error %d", n, told(l...), place, keys, e, want)
	}
}

// anyNumber are what Keys may be asked for, or may not.
var anyNumber = []int{0, 1, 2, 3, mostKeys, -1, mostKeys + 1, math.MinInt, math.MaxInt}

func grown(t *testing.T, p api.Stamp, l ...order.Sib) *tree.Tree {
	t.Helper()
	u := tree.New()
	adds(t, u, p, l...)
	return u
}

func adds(t *testing.T, u *tree.Tree, p api.Stamp, l ...order.Sib) {
	t.Helper()
	for _, x := range l {
		if e := u.Add(x.Node, tree.Spot{Parent: p, Key: x.Key}); e != api.OK {
			t.Fatalf("Add of %s: %d", told(x), e)
		}
	}
}

func rowIs(t *testing.T, u *tree.Tree, p api.Stamp, want ...order.Sib) {
	t.Helper()
	if got := order.Row(u, p); !slices.Equal(got, want) {
		t.Errorf("Row of %v: %s, want %s", p, told(got...), told(want...))
	}
}

func TestP1101NoTree(t *testing.T) {
	for name, u := range map[string]*tree.Tree{"nil": nil, "new": new(tree.Tree), "literal": {}} {
		for _, p := range []api.Stamp{root, trash, at(1, 0), at(-1, -1), at(math.MaxInt, math.MinInt)} {
			if got := order.Row(u, p); len(got) != 0 {
				t.Error(name, p, got)
			}
		}
	}
}

// Nil and empty lists mean the same, also one with room behind it.
func TestP1101EmptyLists(t *testing.T) {
	room := slices.Clone(ordered)
	for _, l := range [][]order.Sib{nil, {}, room[:0], room[3:3:3]} {
		if got := order.Sort(l); len(got) != 0 {
			t.Error("Sort", told(got...))
		}
		if got := order.Find(l, at(0, 0)); got != -1 {
			t.Error("Find", got)
		}
		keyIs(t, l, 0, "\x80")
		keysAre(t, l, 0, 0, nil)
		keysAre(t, l, 0, 3, []string{"\x40", "\x80", "\xc0"})
		for _, place := range []int{-1, 1, math.MinInt, math.MaxInt} {
			refuses(t, l, place, api.ErrArg, anyNumber...)
		}
	}
	if !slices.Equal(room, ordered) {
		t.Error("the room behind a list has changed")
	}
}

// What is handed in stays, and the room behind it; nothing of an answer lies there.
func TestP1101ListsStay(t *testing.T) {
	rnd := rand.New(rand.NewSource(1101))
	for range 500 {
		l := anyList(rnd)
		if rnd.Intn(2) == 0 {
			l = anyRow(rnd)
		}
		room := slices.Concat(l, ordered)
		kept := slices.Clone(room)
		given := room[:len(l)]
		one, two := order.Sort(given), order.Sort(given)
		for place := range len(l) + 1 {
			order.Key(given, place)
			order.Keys(given, place, 3)
		}
		order.Find(given, at(1, 1))
		if !slices.Equal(room, kept) {
			t.Fatal("an argument has changed", kept, room)
		}
		want := slices.Clone(one)
		scribble(one)
		if !slices.Equal(room, kept) || !slices.Equal(two, want) || !slices.Equal(order.Sort(given), want) {
			t.Fatal("answers share memory")
		}
	}
}

func scribble(l []order.Sib) {
	l = l[:cap(l)]
	for i := range l {
		l[i] = sib("other", 77, 7)
	}
}

func TestP1101AnswersAreNew(t *testing.T) {
	l := []order.Sib{sib("a", 1, 0), sib("b", 2, 0), sib("c", 3, 0)}
	one, _ := order.Keys(l, 1, 7)
	two, _ := order.Keys(l, 1, 7)
	kept := slices.Clone(two)
	room := one[:cap(one)]
	for i := range room {
		room[i] = "other"
	}
	if !slices.Equal(two, kept) {
		t.Error("two answers of Keys share memory")
	}
	keysAre(t, l, 1, 7, kept)

	u := grown(t, root, l...)
	before := u.Clone()
	for range 2 {
		one, two := order.Row(u, root), order.Row(u, root)
		scribble(one)
		if !slices.Equal(two, l) || !u.Same(before) {
			t.Error("answers of Row share memory")
		}
	}
}

func TestP1101AnyArguments(t *testing.T) {
	long := make([]order.Sib, 1<<16)
	for i := range long {
		long[i] = sib(fmt.Sprintf("%07d", i), math.MinInt, math.MaxInt)
	}
	lists := [][]order.Sib{nil, ordered, slices.Concat(ordered, ordered), long, {sib(strings.Repeat("a", 1<<20), 0, 0)}}
	for i, l := range lists {
		for _, place := range []int{math.MinInt, -1 << 32, -len(l) - 1, -1, len(l) + 1, 1 << 32, math.MaxInt} {
			refuses(t, l, place, api.ErrArg, anyNumber...)
		}
		if sorted := order.Sort(l); len(sorted) != len(l) || !slices.IsSortedFunc(sorted, stand) {
			t.Error("Sort of the list", i)
		}
		for _, n := range []api.Stamp{at(-1, -1), at(math.MaxInt, 0), at(77, 77), at(0, math.MinInt)} {
			if got := order.Find(l, n); got != -1 {
				t.Error("Find in the list", i, n, got)
			}
		}
	}
	u := grown(t, root, sib("a", 1, 0))
	for _, p := range []api.Stamp{at(-1, 0), at(0, -1), at(0, 2), at(0, 16), at(1, 16), at(math.MinInt, math.MinInt), at(math.MaxInt, math.MaxInt), at(99, 0)} {
		rowIs(t, u, p)
	}
}

func TestP1101SameStepsSameAnswers(t *testing.T) {
	var runs []string
	for range 3 {
		rnd := rand.New(rand.NewSource(11010))
		u := tree.New()
		var steps strings.Builder
		for range 300 {
			x := anySib(rnd)
			u.Add(x.Node, tree.Spot{Key: x.Key})
			row := order.Row(u, root)
			k, e := order.Key(row, rnd.Intn(len(row)+1))
			keys, f := order.Keys(row, rnd.Intn(len(row)+1), rnd.Intn(5))
			fmt.Fprint(&steps, row, k, e, keys, f, order.Sort(anyList(rnd)), order.Find(row, x.Node))
		}
		runs = append(runs, steps.String())
	}
	if runs[0] != runs[1] || runs[1] != runs[2] {
		t.Error("the same steps have other answers")
	}
}

func TestP1102Before(t *testing.T) {
	for i, a := range ordered {
		for j, b := range ordered {
			if got := order.Before(a, b); got != (i < j) {
				t.Errorf("Before of %s: %t", told(a, b), got)
			}
		}
	}
	// The key goes ahead of the node, the Time ahead of the Replica.
	if !order.Before(sib("a", 9, 9), sib("b", 1, 0)) || !order.Before(sib("a", 1, 9), sib("a", 2, 0)) || !order.Before(sib("a", 2, 0), sib("a", 2, 1)) {
		t.Error("Before")
	}
}

func TestP1102Sort(t *testing.T) {
	rnd := rand.New(rand.NewSource(1102))
	for range 50 {
		l := slices.Clone(ordered)
		rnd.Shuffle(len(l), func(i, j int) { l[i], l[j] = l[j], l[i] })
		if got := order.Sort(l); !slices.Equal(got, ordered) {
			t.Fatalf("Sort: %s", told(got...))
		}
	}
	// Those that are the same are all there.
	a, b, c := sib("a", 1, 0), sib("a", 1, 1), sib("b", 0, 0)
	if got, want := order.Sort([]order.Sib{c, a, b, a, c, a}), []order.Sib{a, a, a, b, c, c}; !slices.Equal(got, want) {
		t.Errorf("Sort: %s, want %s", told(got...), told(want...))
	}
	for range 500 {
		l := anyList(rnd)
		want := slices.Clone(l)
		slices.SortFunc(want, stand)
		if got := order.Sort(l); !slices.Equal(got, want) {
			t.Fatalf("Sort of %s: %s, want %s", told(l...), told(got...), told(want...))
		}
	}
}

func TestP1102Find(t *testing.T) {
	l := []order.Sib{sib("c", 2, 0), sib("a", 1, 1), sib("b", 1, 0), sib("b", 1, 0), sib("a", 2, 0), sib("", -5, math.MaxInt), sib("z", 0, 0)}
	for _, c := range []struct {
		n    api.Stamp
		want int
	}{
		{at(2, 0), 0}, {at(1, 1), 1}, {at(1, 0), 2}, {at(-5, math.MaxInt), 5}, {at(0, 0), 6},
		{at(0, 1), -1}, {at(2, 1), -1}, {at(3, 0), -1}, {at(-5, 0), -1}, {at(math.MaxInt, -5), -1},
	} {
		if got := order.Find(l, c.n); got != c.want {
			t.Errorf("Find of %v: %d, want %d", c.n, got, c.want)
		}
	}
	if got := order.Find(nil, at(0, 0)); got != -1 {
		t.Error("Find in nothing", got)
	}
	for i, x := range ordered {
		want := slices.IndexFunc(ordered, func(y order.Sib) bool { return y.Node == x.Node })
		if got := order.Find(ordered, x.Node); got != want || got > i {
			t.Errorf("Find of %v: %d, want %d", x.Node, got, want)
		}
	}
}

func TestP1102Key(t *testing.T) {
	l := []order.Sib{sib("\x10", 3, 0), sib("\x20", 1, 0), sib("\x20", 2, 0), sib("\x21", 1, 1), sib("\xf0", 9, 9)}
	for _, c := range []struct {
		place int
		want  string
	}{{0, "\x08"}, {1, "\x18"}, {3, "\x20\x80"}, {4, "\x88"}, {5, "\xf8"}} {
		keyIs(t, l, c.place, c.want)
	}
	keyIs(t, nil, 0, "\x80") // the chapter's example
	refuses(t, l, 2, api.ErrKey, anyNumber...)
	for _, place := range []int{-1, 6, -6, math.MinInt, math.MaxInt} {
		refuses(t, l, place, api.ErrArg, anyNumber...)
	}
	one := []order.Sib{sib("\x80", 5, 5)}
	keyIs(t, one, 0, "\x40")
	keyIs(t, one, 1, "\xc0")
	refuses(t, one, 2, api.ErrArg, anyNumber...)
}

func TestP1102Keys(t *testing.T) {
	l := []order.Sib{sib("\x10", 3, 0), sib("\x20", 1, 0), sib("\x20", 2, 0), sib("\x21", 1, 1)}
	for _, c := range []struct {
		place int
		want  []string
	}{
		{0, nil}, {0, []string{"\x08"}}, {0, []string{"\x08", "\x0c"}}, {0, []string{"\x04", "\x08", "\x0c"}},
		{1, nil}, {1, []string{"\x18", "\x1c"}}, {3, []string{"\x20\x40", "\x20\x80", "\x20\xc0"}},
		{4, nil}, {4, []string{"\x58", "\x90", "\xc8"}},
	} {
		keysAre(t, l, c.place, len(c.want), c.want)
	}
	for place := range len(l) + 1 {
		if place == 2 {
			continue
		}
		a, b, _ := ends(l, place)
		want, e := poskey.Spread(a, b, mostKeys)
		if e != api.OK || len(want) != mostKeys {
			t.Fatal("Spread", e)
		}
		keysAre(t, l, place, mostKeys, want)
		// How many there may be is Spread's to tell.
		for _, n := range []int{-1, mostKeys + 1, math.MinInt, math.MaxInt} {
			refusesKeys(t, l, place, n, api.ErrArg)
		}
	}
}

// What is no row is told at each place, ahead of all else.
func TestP1102NoRow(t *testing.T) {
	a, b, c, d := sib("a", 1, 0), sib("a", 2, 0), sib("b", 1, 0), sib("c", 1, 0)
	for _, l := range [][]order.Sib{
		{c, a}, {b, a}, {a, a}, {a, b, b}, {a, c, d, c}, {d, a, b, c}, {a, b, d, c}, {a, c, c, d}, {c, b, d},
		{sib("a", 1, 1), sib("a", 1, 0)}, {sib("aa", 1, 0), sib("a", 1, 0)}, {sib("\x80", 1, 0), sib("\x7f", 1, 0)},
		{{}, {}}, {a, {}}, {sib(full, 1, 0), sib(full, 1, 0)},
	} {
		for place := -1; place <= len(l)+1; place++ {
			refuses(t, l, place, api.ErrArg, anyNumber...)
		}
	}
	// A node that stands there with two keys makes two siblings.
	keyIs(t, []order.Sib{sib("\x10", 1, 0), sib("\x20", 1, 0)}, 1, "\x18")
}

// The error of the same key goes ahead of those of Between and Spread.
func TestP1102SameKey(t *testing.T) {
	for _, k := range []string{"a", "\x80", full, first, "", "\x00", "a\x00", full + "\x01"} {
		l := []order.Sib{sib(k, 1, 0), sib(k, 1, 1), sib(k, 2, 0)}
		refuses(t, l, 1, api.ErrKey, anyNumber...)
		refuses(t, l, 2, api.ErrKey, anyNumber...)
	}
}

// Between's errors: keys that may not be, and no room.
func TestP1102KeysErrors(t *testing.T) {
	for _, k := range []string{"\x00", "a\x00", full + "\x01", strings.Repeat("a", mostKey+1)} {
		l := []order.Sib{sib("\x00\x00", 1, 0), sib(k, 1, 0), sib(full+"\xff", 1, 0)}
		for place := range 4 {
			refuses(t, l, place, api.ErrArg, anyNumber...)
		}
		// Keys that do not stand at the place are not asked for.
		l = []order.Sib{sib(k, 1, 0), sib(full[:5], 1, 0), sib(full[:9], 1, 0)}
		if isRow(l) {
			keyIs(t, l, 2, full[:5]+"\x80")
			refuses(t, l, 0, api.ErrArg, anyNumber...)
			refuses(t, l, 1, api.ErrArg, anyNumber...)
		}
	}
	near := first[:mostKey-1] + "\x02"
	l := []order.Sib{sib(first, 1, 0), sib(near, 1, 0), sib(full, 1, 0)}
	for _, place := range []int{0, 1, 3} {
		refuses(t, l, place, api.ErrKey, 1, 2, mostKeys)
		refusesKeys(t, l, place, -1, api.ErrArg)
		refusesKeys(t, l, place, mostKeys+1, api.ErrArg)
		keysAre(t, l, place, 0, nil)
	}
	keyIs(t, l, 2, "\x80")
	// There is room for one, but not for three.
	l = []order.Sib{sib(near, 1, 0)}
	keyIs(t, l, 0, first)
	keysAre(t, l, 0, 1, []string{first})
	refusesKeys(t, l, 0, 3, api.ErrKey)
}

func TestP1102KeyAny(t *testing.T) {
	rnd := rand.New(rand.NewSource(11020))
	var seen [api.ErrKey + 1]int
	for range 20000 {
		l := anyRow(rnd)
		place, n := rnd.Intn(len(l)+1), rnd.Intn(mostKeys+1)
		a, b, same := ends(l, place)
		k, e := poskey.Between(a, b)
		keys, f := poskey.Spread(a, b, n)
		if same {
			k, e, keys, f = "", api.ErrKey, nil, api.ErrKey
		}
		seen[e]++
		if got, g := order.Key(l, place); got != k || g != e {
			t.Fatalf("Key of %s at %d: %q %d, want %q %d", told(l...), place, got, g, k, e)
		}
		if got, g := order.Keys(l, place, n); !slices.Equal(got, keys) || g != f {
			t.Fatalf("%d Keys of %s at %d: %q %d, want %q %d", n, told(l...), place, got, g, keys, f)
		}
	}
	if seen[api.OK] < 1000 || seen[api.ErrKey] < 100 {
		t.Error("few keys, or few errors", seen)
	}
}

func TestP1102Row(t *testing.T) {
	u := tree.New()
	rowIs(t, u, root)
	rowIs(t, u, trash)
	adds(t, u, root, sib("m", 1, 0), sib("a", 9, 3), sib("m", 1, 1), sib("\xff", 2, 0), sib("m", 10, 0), sib("m\x01", 2, 1))
	adds(t, u, at(1, 0), sib("z", 3, 0), sib("b", 4, 0))
	adds(t, u, trash, sib("b", 5, 0), sib("b", 4, 1))
	rowIs(t, u, root, sib("a", 9, 3), sib("m", 1, 0), sib("m", 1, 1), sib("m", 10, 0), sib("m\x01", 2, 1), sib("\xff", 2, 0))
	rowIs(t, u, at(1, 0), sib("b", 4, 0), sib("z", 3, 0))
	rowIs(t, u, trash, sib("b", 4, 1), sib("b", 5, 0))
	for _, p := range []api.Stamp{at(3, 0), at(9, 3), at(99, 0), at(0, 2)} {
		rowIs(t, u, p)
	}
	u.Move(at(3, 0), tree.Spot{Parent: at(1, 0), Key: "a"})
	rowIs(t, u, at(1, 0), sib("a", 3, 0), sib("b", 4, 0))
	u.Move(at(4, 0), tree.Spot{Parent: trash, Key: "a"})
	rowIs(t, u, at(1, 0), sib("a", 3, 0))
	rowIs(t, u, trash, sib("a", 4, 0), sib("b", 4, 1), sib("b", 5, 0))
	u.Drop(at(3, 0))
	rowIs(t, u, at(1, 0))
}

// placed asks that a sibling with that key, whatever its node is, stands there.
func placed(t *testing.T, l []order.Sib, place int, key string) {
	t.Helper()
	for _, n := range []api.Stamp{at(math.MinInt, math.MinInt), at(0, 0), at(1, 0), at(3, 1), at(mostTime, 15), at(math.MaxInt, math.MaxInt)} {
		x := order.Sib{Key: key, Node: n}
		with := slices.Insert(slices.Clone(l), place, x)
		if !isRow(with) || !slices.Equal(order.Sort(append(slices.Clone(l), x)), with) {
			t.Fatalf("%s stands elsewhere than at %d of %s", told(x), place, told(l...))
		}
	}
}

func TestP1103ItStandsThere(t *testing.T) {
	rnd := rand.New(rand.NewSource(1103))
	for range 3000 {
		l := anyRow(rnd)
		for place := range len(l) + 1 {
			k, e := order.Key(l, place)
			if e == api.OK {
				placed(t, l, place, k)
			}
			keys, e := order.Keys(l, place, 5)
			for i, k := range keys {
				placed(t, l, place, k)
				if i > 0 && keys[i-1] >= k {
					t.Fatalf("Keys do not rise: %q", keys)
				}
			}
			if e == api.OK && len(keys) != 5 {
				t.Fatalf("Keys: %q", keys)
			}
		}
	}
}

// Also in rows with keys that may not be: nothing can stand ahead of an empty one.
func TestP1103AnyRow(t *testing.T) {
	refuses(t, []order.Sib{sib("", 1, 0)}, 0, api.ErrArg, anyNumber...)
	refuses(t, []order.Sib{sib("", 1, 0), sib("a", 1, 0)}, 0, api.ErrArg, anyNumber...)
	keyIs(t, []order.Sib{sib("", 1, 0)}, 1, "\x80")
	keyIs(t, []order.Sib{sib("", 1, 0), sib("\x40", 1, 0)}, 1, "\x20")
	rnd := rand.New(rand.NewSource(11030))
	found := 0
	for range 3000 {
		l := anyList(rnd)
		slices.SortFunc(l, stand)
		l = slices.Compact(l)
		for place := range len(l) + 1 {
			k, e := order.Key(l, place)
			if e != api.OK {
				continue
			}
			found++
			placed(t, l, place, k)
		}
	}
	if found < 1000 {
		t.Error("few keys", found)
	}
}

// A row grows by its own keys till there is no room, at whichever place.
func TestP1103Grows(t *testing.T) {
	rnd := rand.New(rand.NewSource(11031))
	for _, choose := range []func(n int) int{func(n int) int { return 0 }, func(n int) int { return n }, func(n int) int { return n / 2 }, func(n int) int { return rnd.Intn(n + 1) }} {
		u := tree.New()
		for i := range 500 {
			row := order.Row(u, root)
			place := choose(len(row))
			k, e := order.Key(row, place)
			if e == api.ErrKey && i > 7*mostKey {
				break
			}
			if e != api.OK {
				t.Fatalf("Key at %d of %d: %d", place, i, e)
			}
			n := at(1+rnd.Intn(1<<30), rnd.Intn(16))
			adds(t, u, root, order.Sib{Key: k, Node: n})
			if got := order.Find(order.Row(u, root), n); got != place {
				t.Fatalf("it stands at %d, not at %d", got, place)
			}
		}
	}
}

func TestP1104OneOrder(t *testing.T) {
	rnd := rand.New(rand.NewSource(1104))
	all := slices.Clone(ordered)
	for range 60 {
		all = append(all, anySib(rnd))
	}
	for _, a := range all {
		for _, b := range all {
			ab, ba := order.Before(a, b), order.Before(b, a)
			if ab && ba || (ab || ba) != (a != b) {
				t.Fatalf("%s: %t %t", told(a, b), ab, ba)
			}
			for _, c := range all {
				if ab && order.Before(b, c) && !order.Before(a, c) {
					t.Fatalf("%s are in no order", told(a, b, c))
				}
			}
		}
	}
}
