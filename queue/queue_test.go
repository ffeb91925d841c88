package queue_test

import (
	"cmp"
	"math"
	"math/rand"
	"slices"
	"testing"

	"diorama/api"
	"diorama/queue"
)

const mostItems = 1 << 20

func at(time, replica int) api.Stamp { return api.Stamp{Time: time, Replica: replica} }

func item(time, replica, tag int) queue.Item { return queue.Item{Stamp: at(time, replica), Tag: tag} }

// stamps are rising, of numbers of any kind.
var stamps = []api.Stamp{
	at(math.MinInt, math.MinInt), at(math.MinInt, math.MaxInt), at(-1, 3), at(0, math.MinInt), at(0, -1), at(0, 0), at(0, 1), at(0, 15), at(0, 16),
	at(1, 0), at(2, 0), at(2, 9), at(2, 10), at(3, 0), at(10, 0), at(1<<40, 15), at(1<<40+1, 0), at(math.MaxInt, math.MinInt), at(math.MaxInt, math.MaxInt),
}

var tags = []int{math.MinInt, -7, -1, 0, 1, 9, 10, math.MaxInt}

// rising answers every stamp with every tag, the one that stands first ahead.
func rising() (l []queue.Item) {
	for _, s := range stamps {
		for _, tag := range tags {
			l = append(l, queue.Item{Stamp: s, Tag: tag})
		}
	}
	return l
}

func compareStamps(a, b api.Stamp) int {
	return cmp.Or(cmp.Compare(a.Time, b.Time), cmp.Compare(a.Replica, b.Replica))
}

func compare(a, b queue.Item) int {
	return cmp.Or(compareStamps(a.Stamp, b.Stamp), cmp.Compare(a.Tag, b.Tag))
}

func sorted(l []queue.Item) []queue.Item { return slices.SortedFunc(slices.Values(l), compare) }

// some answers few different numbers, so that many items are alike.
func some(rnd *rand.Rand) queue.Item { return item(rnd.Intn(5)-1, rnd.Intn(3), rnd.Intn(4)-1) }

func someStamps(rnd *rand.Rand, most, times int) []api.Stamp {
	l := make([]api.Stamp, rnd.Intn(most+1))
	for i := range l {
		l[i] = at(rnd.Intn(times)-1, rnd.Intn(3))
	}
	return l
}

// holds asks that the queue has that many items, and this one ahead.
func holds(t *testing.T, q *queue.Queue, n int, first queue.Item) {
	t.Helper()
	for range 2 {
		if x, ok := q.Peek(); x != first || ok != (n > 0) || q.Len() != n {
			t.Fatalf("%d items, %v %t ahead, want %d and %v", q.Len(), x, ok, n, first)
		}
	}
}

// pops asks for all that is in the queue, in this order, and nothing behind it.
func pops(t *testing.T, q *queue.Queue, want []queue.Item) {
	t.Helper()
	for i, x := range want {
		holds(t, q, len(want)-i, x)
		if got, ok := q.Pop(); got != x || !ok {
			t.Fatalf("item %d: %v %t, want %v", i, got, ok, x)
		}
	}
	for range 2 {
		holds(t, q, 0, queue.Item{})
		if x, ok := q.Pop(); x != (queue.Item{}) || ok {
			t.Fatal("of an empty queue:", x, ok)
		}
	}
}

func push(t *testing.T, q *queue.Queue, x queue.Item) {
	t.Helper()
	if e := q.Push(x); e != api.OK {
		t.Fatal(x, e)
	}
}

func TestP501NilAndUnmadeQueues(t *testing.T) {
	for name, q := range map[string]*queue.Queue{"nil": nil, "new": new(queue.Queue), "literal": {}} {
		for range 2 {
			for _, x := range []queue.Item{{}, item(5, 2, 1), item(-1, 99, math.MinInt)} {
				if e := q.Push(x); e != api.ErrArg {
					t.Error(name, "Push", x, e)
				}
			}
			if x, ok := q.Peek(); x != (queue.Item{}) || ok {
				t.Error(name, "Peek", x, ok)
			}
			if x, ok := q.Pop(); x != (queue.Item{}) || ok {
				t.Error(name, "Pop", x, ok)
			}
			if n := q.Len(); n != 0 {
				t.Error(name, "Len", n)
			}
		}
	}
}

func TestP501ItemsHandedInStay(t *testing.T) {
	room := []queue.Item{item(9, 9, 9), item(3, 0, 0), item(2, 0, 0), item(1, 0, 5), item(1, 0, 4), item(8, 8, 8)}
	was := slices.Clone(room)
	q := queue.New(room[1:5]...)
	push(t, q, item(0, 0, 0))
	push(t, q, item(7, 0, 0))
	if !slices.Equal(room, was) {
		t.Fatal(room)
	}
	// Nor are they kept: what becomes of them is nothing to the queue.
	for i := range room {
		room[i] = item(-5, 0, i)
	}
	pops(t, q, []queue.Item{item(0, 0, 0), item(1, 0, 4), item(1, 0, 5), item(2, 0, 0), item(3, 0, 0), item(7, 0, 0)})
	if room[0] != item(-5, 0, 0) || room[5] != item(-5, 0, 5) {
		t.Error(room)
	}
}

func TestP501RowsHandedInStay(t *testing.T) {
	room := []api.Stamp{at(9, 9), at(4, 0), at(3, 0), at(4, 0), at(1, 0), at(0, 7), at(8, 8)}
	was := slices.Clone(room)
	rows := [][]api.Stamp{room[2:4], room[1:3], room[4:6], nil, room[4:4]}
	heads := slices.Clone(rows)
	queue.Merge(rows...)
	queue.Merge(room[1:5])
	queue.Rising(room[1:5])
	queue.Place(room[1:5], at(3, 0))
	queue.Place(room[2:4], at(4, 0))
	if !slices.Equal(room, was) {
		t.Error(room)
	}
	if !slices.EqualFunc(rows, heads, func(a, b []api.Stamp) bool { return slices.Equal(a, b) }) {
		t.Error(rows)
	}
}

func TestP501AnswersAreNew(t *testing.T) {
	row := []api.Stamp{at(1, 0), at(2, 0), at(3, 0)}
	was := slices.Clone(row)
	for _, rows := range [][][]api.Stamp{{row}, {row, nil}, {row, row}, {row[:1], row[1:]}, {nil, row}} {
		first, kept := queue.Merge(rows...), queue.Merge(rows...)
		room := first[:cap(first)]
		for i := range room {
			room[i] = at(-1, -1)
		}
		if again := queue.Merge(rows...); !slices.Equal(row, was) || !slices.Equal(kept, was) || !slices.Equal(again, was) {
			t.Error(row, kept, again)
		}
	}
}

func TestP501QueuesAreApart(t *testing.T) {
	l := []queue.Item{item(2, 0, 0), item(1, 0, 0), item(3, 0, 0)}
	one, two := queue.New(l...), queue.New(l...)
	push(t, one, item(0, 0, 0))
	one.Pop()
	one.Pop()
	push(t, two, item(5, 0, 0))
	pops(t, two, append(sorted(l), item(5, 0, 0)))
	pops(t, one, []queue.Item{item(2, 0, 0), item(3, 0, 0)})
}

// A copy of the struct is the same queue: nothing is told twice, and nothing gets lost.
func TestP501Copies(t *testing.T) {
	one := queue.New(item(3, 0, 0), item(1, 0, 0))
	two := *one
	push(t, one, item(2, 0, 0))
	push(t, &two, item(0, 0, 0))
	if x, ok := two.Pop(); x != item(0, 0, 0) || !ok {
		t.Error(x, ok)
	}
	pops(t, one, []queue.Item{item(1, 0, 0), item(2, 0, 0), item(3, 0, 0)})
	holds(t, &two, 0, queue.Item{})
}

func TestP502New(t *testing.T) {
	all := rising()
	backwards := slices.Clone(all)
	slices.Reverse(backwards)
	twice := slices.Concat(all, backwards)
	for _, l := range [][]queue.Item{nil, {}, {{}}, all[:1], {item(2, 0, 1), item(1, 0, 2)}, {item(1, 0, 1), item(1, 0, 1), item(1, 0, 1)}, all, backwards, twice} {
		pops(t, queue.New(l...), sorted(l))
	}
	pops(t, queue.New(), nil)
}

func TestP502NewOfTooMany(t *testing.T) {
	l := make([]queue.Item, mostItems+9)
	for i := range l {
		l[i] = item(len(l)-i, 0, 0)
	}
	// Those past the bound stand ahead of all others, and aren't there.
	q := queue.New(l...)
	holds(t, q, mostItems, item(10, 0, 0))
	if e := q.Push(item(0, 0, 0)); e != api.ErrFull {
		t.Error(e)
	}
	holds(t, q, mostItems, item(10, 0, 0))

	q = queue.New(l[:mostItems]...)
	holds(t, q, mostItems, item(10, 0, 0))
	q = queue.New(l[:mostItems-1]...)
	holds(t, q, mostItems-1, item(11, 0, 0))
	push(t, q, item(4, 0, 0))
	holds(t, q, mostItems, item(4, 0, 0))
	if e := q.Push(item(3, 0, 0)); e != api.ErrFull {
		t.Error(e)
	}
}

func TestP502PushTillFull(t *testing.T) {
	q := queue.New()
	for i := range mostItems {
		push(t, q, item(1+i*7919%mostItems, i%16, i))
	}
	first := item(1, 0, 0)
	for range 3 {
		holds(t, q, mostItems, first)
		if e := q.Push(item(0, 0, 0)); e != api.ErrFull {
			t.Fatal(e)
		}
	}
	if x, ok := q.Pop(); x != first || !ok {
		t.Error(x, ok)
	}
	push(t, q, item(0, 5, 0))
	holds(t, q, mostItems, item(0, 5, 0))
	if e := q.Push(item(0, 0, 0)); e != api.ErrFull {
		t.Error(e)
	}
	before, ok := q.Pop()
	for n := mostItems - 1; n > 0; n-- {
		x, more := q.Pop()
		if !ok || !more || compare(before, x) >= 0 || q.Len() != n-1 {
			t.Fatal(before, x, ok, more, q.Len())
		}
		before = x
	}
	holds(t, q, 0, queue.Item{})
}

func TestP502SameTwice(t *testing.T) {
	q := queue.New(item(5, 2, 1))
	push(t, q, item(5, 2, 1))
	push(t, q, item(5, 2, 1))
	push(t, q, item(5, 2, 0))
	pops(t, q, []queue.Item{item(5, 2, 0), item(5, 2, 1), item(5, 2, 1), item(5, 2, 1)})
}

func TestP502ZeroItem(t *testing.T) {
	q := queue.New(queue.Item{})
	push(t, q, queue.Item{})
	pops(t, q, []queue.Item{{}, {}})
}

func TestP502EmptyAndFilledAgain(t *testing.T) {
	q := queue.New()
	for i := range 50 {
		pops(t, q, nil)
		x := item(50-i, i%16, i)
		push(t, q, x)
		pops(t, q, []queue.Item{x})
	}
}

// Whatever is pushed and popped in turns: the queue answers as a list does that is always sorted.
func TestP502AsAList(t *testing.T) {
	rnd := rand.New(rand.NewSource(502))
	for range 300 {
		var l []queue.Item
		for range rnd.Intn(20) {
			l = append(l, some(rnd))
		}
		q := queue.New(l...)
		l = sorted(l)
		grows := rnd.Intn(10)
		for range 200 {
			if rnd.Intn(10) < grows {
				x := some(rnd)
				push(t, q, x)
				l = sorted(append(l, x))
			} else if x, ok := q.Pop(); ok != (len(l) > 0) || ok && x != l[0] || !ok && x != (queue.Item{}) {
				t.Fatal(x, ok, l)
			} else if ok {
				l = l[1:]
			}
			if len(l) == 0 {
				holds(t, q, 0, queue.Item{})
			} else {
				holds(t, q, len(l), l[0])
			}
		}
		pops(t, q, l)
	}
}

func TestP503Before(t *testing.T) {
	all := rising()
	for i, a := range all {
		for j, b := range all {
			if got := queue.Before(a, b); got != (i < j) {
				t.Errorf("%v and %v: %t", a, b, got)
			}
		}
	}
	// A tag never counts for more than a stamp, nor a replica for more than a time.
	for _, x := range []struct {
		a, b queue.Item
		want bool
	}{
		{item(1, 0, 9), item(2, 0, 1), true}, {item(2, 0, 1), item(1, 0, 9), false}, {item(1, 9, 0), item(2, 0, 0), true}, {item(1, 1, 9), item(1, 2, 0), true}, {item(1, 2, 0), item(1, 1, 9), false},
		{item(1, 1, 0), item(1, 1, 1), true}, {item(1, 1, 1), item(1, 1, 1), false}, {item(1, 1, math.MinInt), item(1, 1, math.MaxInt), true}, {item(1, 1, math.MaxInt), item(1, 1, math.MinInt), false},
	} {
		if got := queue.Before(x.a, x.b); got != x.want {
			t.Errorf("%v and %v: %t", x.a, x.b, got)
		}
	}
}

func TestP503Rising(t *testing.T) {
	for _, l := range [][]api.Stamp{nil, {}, {at(0, 0)}, {at(-5, 99)}, {at(2, 0), at(3, 0)}, {at(2, 0), at(2, 1)}, {at(2, 9), at(3, 0), at(3, 1)}, stamps} {
		if !queue.Rising(l) {
			t.Error(l, "is rising")
		}
	}
	for _, l := range [][]api.Stamp{
		{at(0, 0), at(0, 0)}, {at(3, 0), at(2, 0)}, {at(2, 1), at(2, 0)}, {at(3, 0), at(2, 1)}, {at(1, 0), at(2, 0), at(2, 0)}, {at(1, 0), at(1, 0), at(2, 0)}, {at(1, 0), at(3, 0), at(2, 0)}, {at(2, 0), at(1, 0), at(3, 0)},
		{at(math.MaxInt, 0), at(math.MinInt, 0)}, {at(1, 0), at(2, 0), at(1, 0)},
	} {
		if queue.Rising(l) {
			t.Error(l, "is not rising")
		}
	}
	// One that is out of order is seen at every place of a long row.
	for i := 1; i < len(stamps); i++ {
		l := slices.Clone(stamps)
		l[i] = l[i-1]
		if queue.Rising(l) {
			t.Error(l)
		}
		l[i-1], l[i] = stamps[i], stamps[i-1]
		if queue.Rising(l) {
			t.Error(l)
		}
	}
}

func merges(t *testing.T, want []api.Stamp, l ...[]api.Stamp) {
	t.Helper()
	if got := queue.Merge(l...); !slices.Equal(got, want) {
		t.Fatalf("%v: %v, want %v", l, got, want)
	}
}

func TestP503Merge(t *testing.T) {
	merges(t, nil)
	merges(t, nil, nil)
	merges(t, nil, nil, []api.Stamp{}, nil)
	merges(t, []api.Stamp{at(2, 0), at(3, 0), at(5, 1)}, []api.Stamp{at(2, 0), at(5, 1)}, []api.Stamp{at(3, 0)})
	merges(t, []api.Stamp{at(2, 0), at(3, 0), at(5, 1)}, []api.Stamp{at(3, 0)}, []api.Stamp{at(2, 0), at(5, 1)})
	merges(t, []api.Stamp{at(1, 0)}, []api.Stamp{at(1, 0), at(1, 0)}, []api.Stamp{at(1, 0)}, nil, []api.Stamp{at(1, 0)})
	merges(t, []api.Stamp{at(0, 0)}, []api.Stamp{at(0, 0)}, []api.Stamp{at(0, 0)})
	// Rows that are not rising count as well.
	merges(t, []api.Stamp{at(1, 0), at(1, 1), at(2, 0), at(9, 0)}, []api.Stamp{at(9, 0), at(1, 1)}, []api.Stamp{at(2, 0), at(1, 0), at(2, 0)})
	merges(t, []api.Stamp{at(1, 0), at(2, 0), at(3, 0)}, []api.Stamp{at(3, 0), at(2, 0), at(1, 0), at(2, 0), at(3, 0)})
	merges(t, stamps, stamps)
	merges(t, stamps, stamps, stamps, stamps)
	backwards := slices.Clone(stamps)
	slices.Reverse(backwards)
	merges(t, stamps, backwards)
	merges(t, stamps, backwards[:7], stamps, backwards[3:])
	merges(t, stamps, stamps[5:], stamps[:5])
}

func TestP503MergeAny(t *testing.T) {
	rnd := rand.New(rand.NewSource(503))
	for range 3000 {
		rows := make([][]api.Stamp, rnd.Intn(6))
		there := map[api.Stamp]bool{}
		for i := range rows {
			rows[i] = someStamps(rnd, 12, 1+rnd.Intn(20))
			for _, s := range rows[i] {
				there[s] = true
			}
		}
		var want []api.Stamp
		for s := range there {
			want = append(want, s)
		}
		slices.SortFunc(want, compareStamps)
		merges(t, want, rows...)
		if got := queue.Merge(rows...); !queue.Rising(got) {
			t.Fatal(got)
		}
	}
}

func TestP503MergeOfMuch(t *testing.T) {
	var rows [][]api.Stamp
	var want []api.Stamp
	const each, most = 5000, 20
	for n := range each * most {
		want = append(want, at(n/16, n%16))
	}
	for i := range most {
		var row []api.Stamp
		for n := each*most - 1 - i; n >= 0; n -= most {
			row = append(row, want[n])
		}
		rows = append(rows, row, row)
	}
	merges(t, want, rows...)
}

func places(t *testing.T, l []api.Stamp, s api.Stamp, want int, there bool) {
	t.Helper()
	if n, ok := queue.Place(l, s); n != want || ok != there {
		t.Errorf("%v in %v: %d %t, want %d %t", s, l, n, ok, want, there)
	}
}

func TestP503Place(t *testing.T) {
	places(t, nil, at(0, 0), 0, false)
	places(t, []api.Stamp{}, at(5, 2), 0, false)
	places(t, []api.Stamp{at(0, 0)}, at(0, 0), 0, true)
	l := []api.Stamp{at(2, 0), at(2, 3), at(5, 1)}
	places(t, l, at(2, 0), 0, true)
	places(t, l, at(2, 3), 1, true)
	places(t, l, at(5, 1), 2, true)
	// Of one that is not there it is told as well how many stand ahead.
	places(t, l, at(1, 15), 0, false)
	places(t, l, at(2, -1), 0, false)
	places(t, l, at(2, 1), 1, false)
	places(t, l, at(3, 0), 2, false)
	places(t, l, at(5, 0), 2, false)
	places(t, l, at(5, 2), 3, false)
	places(t, l, at(math.MaxInt, math.MaxInt), 3, false)
	places(t, l, at(math.MinInt, math.MinInt), 0, false)
	for i, s := range stamps {
		places(t, stamps, s, i, true)
		places(t, slices.Concat(stamps[:i], stamps[i+1:]), s, i, false)
	}
}

func TestP503PlaceInOtherRows(t *testing.T) {
	for _, l := range [][]api.Stamp{
		{at(1, 0), at(1, 0)}, {at(3, 0), at(2, 0)}, {at(1, 0), at(2, 0), at(2, 0)}, {at(1, 0), at(2, 0), at(4, 0), at(3, 0)}, {at(2, 0), at(1, 0), at(3, 0), at(4, 0)}, {at(1, 1), at(1, 0)},
	} {
		for _, s := range append(slices.Clone(l), at(0, 0), at(9, 0), at(2, 5)) {
			places(t, l, s, 0, false)
		}
	}
}

func TestP503PlaceAny(t *testing.T) {
	rnd := rand.New(rand.NewSource(5030))
	for range 5000 {
		l := someStamps(rnd, 12, 1+rnd.Intn(30))
		if rnd.Intn(3) > 0 {
			slices.SortFunc(l, compareStamps)
			l = slices.Compact(l)
		}
		is := true
		for i := range l {
			is = is && (i == 0 || compareStamps(l[i-1], l[i]) < 0)
		}
		if queue.Rising(l) != is {
			t.Fatal(l, !is)
		}
		s := at(rnd.Intn(32)-1, rnd.Intn(3))
		ahead, there := 0, false
		for _, x := range l {
			if is && compareStamps(x, s) < 0 {
				ahead++
			}
			there = there || is && x == s
		}
		places(t, l, s, ahead, there)
	}
}

func TestP504InOrder(t *testing.T) {
	rnd := rand.New(rand.NewSource(504))
	all := rising()
	for range 300 {
		var l []queue.Item
		for range rnd.Intn(60) {
			l = append(l, all[rnd.Intn(1+rnd.Intn(len(all)))])
		}
		made := rnd.Intn(len(l) + 1)
		q := queue.New(l[:made]...)
		for _, x := range l[made:] {
			push(t, q, x)
		}
		var got []queue.Item
		for x, ok := q.Pop(); ok; x, ok = q.Pop() {
			if n := len(got); n > 0 && queue.Before(x, got[n-1]) {
				t.Fatal(x, "behind", got[n-1])
			}
			got = append(got, x)
		}
		if !slices.Equal(got, sorted(l)) {
			t.Fatal(got, "of", l)
		}
	}
}

// However many items are pushed between, each row of pops rises.
func TestP504RowsOfPops(t *testing.T) {
	rnd := rand.New(rand.NewSource(5040))
	q := queue.New()
	pushed, popped := map[queue.Item]int{}, map[queue.Item]int{}
	for range 1000 {
		for range rnd.Intn(20) {
			x := some(rnd)
			push(t, q, x)
			pushed[x]++
		}
		var before queue.Item
		for i := range rnd.Intn(20) {
			x, ok := q.Pop()
			if !ok {
				break
			}
			if i > 0 && queue.Before(x, before) {
				t.Fatal(x, "behind", before)
			}
			before = x
			popped[x]++
		}
	}
	for x, ok := q.Pop(); ok; x, ok = q.Pop() {
		popped[x]++
	}
	for x, n := range pushed {
		if popped[x] != n {
			t.Error(x, "pushed", n, "popped", popped[x])
		}
	}
	if len(popped) != len(pushed) {
		t.Error(len(popped), len(pushed))
	}
}

func TestP505Together(t *testing.T) {
	rnd := rand.New(rand.NewSource(505))
	for range 500 {
		l := someStamps(rnd, 40, 1+rnd.Intn(30))
		want := queue.Merge(l)
		for range 10 {
			mixed := slices.Clone(l)
			rnd.Shuffle(len(mixed), func(i, j int) { mixed[i], mixed[j] = mixed[j], mixed[i] })
			merges(t, want, parted(rnd, mixed)...)
			// Neither does it hang on how often a stamp comes, or on what was put together before.
			merges(t, want, append(parted(rnd, l), mixed)...)
			merges(t, want, queue.Merge(parted(rnd, mixed)...), want)
		}
	}
}

// parted cuts the list into rows, some of them without stamps.
func parted(rnd *rand.Rand, l []api.Stamp) (rows [][]api.Stamp) {
	for len(l) > 0 {
		n := rnd.Intn(len(l) + 1)
		rows = append(rows, l[:n])
		l = l[n:]
	}
	return rows
}

func TestP7SameSteps(t *testing.T) {
	type answer struct {
		x  queue.Item
		ok bool
		n  int
	}
	steps := func() (out []answer) {
		rnd := rand.New(rand.NewSource(7))
		q := queue.New(rising()...)
		for range 2000 {
			if rnd.Intn(2) == 0 {
				e := q.Push(some(rnd))
				out = append(out, answer{n: int(e)})
			}
			x, ok := q.Pop()
			out = append(out, answer{x, ok, q.Len()})
		}
		return out
	}
	if !slices.Equal(steps(), steps()) {
		t.Error("the same steps have other answers")
	}
}
