package oplog_test

import (
	"cmp"
	"fmt"
	"hash/crc32"
	"math"
	"math/rand"
	"slices"
	"strings"
	"testing"

	"diorama/api"
	"diorama/batch"
	"diorama/op"
	"diorama/oplog"
	"diorama/value"
	"diorama/vector"
)

const (
	mostTime    = 1 << 40
	mostOps     = 64
	mostBatches = 512
	mostWaiting = 64
)

func at(time, replica int) api.Stamp { return api.Stamp{Time: time, Replica: replica} }

// row answers ops no two of which are the same, of every kind that has room of its own, or none.
func row(replica, time, count int) (l []op.Op) {
	for i := range count {
		own := at(time+i, replica)
		switch i % 3 {
		case 0:
			l = append(l, op.Op{Kind: op.Override, Node: own, Path: []api.Stamp{at(1, 0), own, at(2, 3)}, Prop: value.Fill, Value: api.Value{Kind: value.Int, N: time}})
		case 1:
			l = append(l, op.Op{Kind: op.Mark, Node: own, On: true})
		case 2:
			l = append(l, op.Op{Kind: op.Create, Ref: own, Key: "\x80"})
		}
	}
	return l
}

func made(replica, seq, time, count int) batch.Batch {
	return batch.Batch{Replica: replica, Seq: seq, Time: time, Ops: row(replica, time, count)}
}

// one has a Time that fits behind that of any lower Seq, and a single op.
func one(replica, seq int) batch.Batch { return made(replica, seq, 10*seq, 1) }

func ones(replica, from, to int) (l []batch.Batch) {
	for seq := from; seq <= to; seq++ {
		l = append(l, one(replica, seq))
	}
	return l
}

func copyOf(x batch.Batch) batch.Batch {
	x.Ops = slices.Clone(x.Ops)
	for i := range x.Ops {
		x.Ops[i].Path = slices.Clone(x.Ops[i].Path)
	}
	return x
}

func sameOps(a, b []op.Op) bool {
	return slices.EqualFunc(a, b, func(x, y op.Op) bool {
		return x.Kind == y.Kind && x.Node == y.Node && x.Ref == y.Ref && x.Key == y.Key && x.Prop == y.Prop && x.Value == y.Value && x.On == y.On && slices.Equal(x.Path, y.Path)
	})
}

func alike(a, b batch.Batch) bool {
	return a.Replica == b.Replica && a.Seq == b.Seq && a.Time == b.Time && sameOps(a.Ops, b.Ops)
}

func allAlike(a, b []batch.Batch) bool { return slices.EqualFunc(a, b, alike) }

func sameEntries(a, b []oplog.Entry) bool {
	return slices.EqualFunc(a, b, func(x, y oplog.Entry) bool {
		return x.Stamp == y.Stamp && sameOps([]op.Op{x.Op}, []op.Op{y.Op})
	})
}

func print(l ...batch.Batch) string { return fmt.Sprintf("%.300s", fmt.Sprint(l)) }

// adds asks what Add answers.
func adds(t *testing.T, l *oplog.Log, x batch.Batch, want api.Errno, came ...batch.Batch) {
	t.Helper()
	got, e := l.Add(x)
	if e != want || !allAlike(got, came) {
		t.Fatalf("Add of %s: %s %d, want %s %d", print(x), print(got...), e, print(came...), want)
	}
}

// fill adds batches that all come into the log at once.
func fill(t *testing.T, l *oplog.Log, all ...batch.Batch) {
	t.Helper()
	for _, x := range all {
		adds(t, l, x, api.OK, x)
	}
}

// holds asks every look whether the log has these batches (by replicas and Seqs), and whether so many wait.
func holds(t *testing.T, l *oplog.Log, waiting int, have ...batch.Batch) {
	t.Helper()
	var v vector.Vector
	var entries []oplog.Entry
	var bytes []byte
	time := 0
	for _, x := range have {
		v[x.Replica]++
		if v[x.Replica] != x.Seq {
			t.Fatal("the test itself is wrong: a gap", print(x))
		}
		for i, y := range x.Ops {
			time = max(time, x.Time+i)
			entries = append(entries, oplog.Entry{Stamp: at(x.Time+i, x.Replica), Op: y})
		}
		b, e := batch.Put(x)
		if e != api.OK {
			t.Fatal("the test itself is wrong: no batch", print(x))
		}
		bytes = append(bytes, b...)
		if got, ok := l.Batch(x.Replica, x.Seq); !ok || !alike(got, x) {
			t.Fatalf("Batch %d %d: %s %t, want %s", x.Replica, x.Seq, print(got), ok, print(x))
		}
	}
	slices.SortFunc(entries, func(a, b oplog.Entry) int {
		return cmp.Or(cmp.Compare(a.Stamp.Time, b.Stamp.Time), cmp.Compare(a.Stamp.Replica, b.Stamp.Replica))
	})
	if got := l.Vector(); got != v {
		t.Fatalf("Vector %v, want %v", got, v)
	}
	if got := l.Since(vector.Vector{}, math.MaxInt); !allAlike(got, have) {
		t.Fatalf("Since nothing: %d batches, %s, want %d", len(got), print(got...), len(have))
	}
	if l.Total() != len(have) || l.Waiting() != waiting {
		t.Fatalf("%d batches, %d wait, want %d and %d", l.Total(), l.Waiting(), len(have), waiting)
	}
	if got := l.Entries(); !sameEntries(got, entries) {
		t.Fatalf("%d entries, want %d: %.300s", len(got), len(entries), fmt.Sprint(got))
	}
	if l.Time() != time || l.Digest() != int(crc32.ChecksumIEEE(bytes)) {
		t.Fatalf("Time %d, Digest %x, want %d and %x", l.Time(), l.Digest(), time, crc32.ChecksumIEEE(bytes))
	}
	for replica, n := range v {
		if x, ok := l.Batch(replica, n+1); ok || !alike(x, batch.Batch{}) {
			t.Fatal("a batch that is not there", replica, n+1, print(x))
		}
	}
}

var noBatches = func() (l []batch.Batch) {
	l = append(l, batch.Batch{})
	for _, n := range []int{-1, 16, 17, math.MaxInt, math.MinInt} {
		l = append(l, batch.Batch{Replica: n, Seq: 1, Time: 1, Ops: row(0, 1, 1)})
	}
	for _, n := range []int{0, -1, mostBatches + 1, math.MaxInt, math.MinInt} {
		l = append(l, batch.Batch{Seq: n, Time: 1, Ops: row(0, 1, 1)})
	}
	for _, n := range []int{0, -1, mostTime, mostTime + 1, math.MaxInt, math.MinInt} {
		l = append(l, batch.Batch{Seq: 1, Time: n, Ops: row(0, 1, 2)})
	}
	l = append(l, batch.Batch{Seq: 1, Time: 1}, batch.Batch{Seq: 1, Time: 1, Ops: []op.Op{}})
	l = append(l, batch.Batch{Seq: 1, Time: 1, Ops: row(0, 1, mostOps+1)})
	l = append(l, batch.Batch{Seq: 1, Time: 1, Ops: append(row(0, 1, 3), op.Op{})})
	return append(l, batch.Batch{Seq: 1, Time: 1, Ops: []op.Op{{Kind: op.Mark, Node: at(1, 16)}}})
}()

func TestP901NilAndUnmadeLogs(t *testing.T) {
	for name, l := range map[string]*oplog.Log{"nil": nil, "new": new(oplog.Log), "literal": {}} {
		for range 2 {
			for _, x := range []batch.Batch{one(0, 1), one(0, 2), one(3, 1), {}} {
				if got, e := l.Add(x); len(got) != 0 || e != api.ErrArg {
					t.Error(name, "Add", print(got...), e)
				}
			}
			if v := l.Vector(); v != (vector.Vector{}) {
				t.Error(name, "Vector", v)
			}
			if x, ok := l.Batch(0, 1); ok || !alike(x, batch.Batch{}) {
				t.Error(name, "Batch", x, ok)
			}
			if got := l.Since(vector.Vector{}, 9); len(got) != 0 {
				t.Error(name, "Since", got)
			}
			if l.Total() != 0 || l.Waiting() != 0 || l.Time() != 0 || l.Digest() != 0 {
				t.Error(name, l.Total(), l.Waiting(), l.Time(), l.Digest())
			}
			if got := l.Entries(); len(got) != 0 {
				t.Error(name, "Entries", got)
			}
			if got := l.Clone(); got != nil {
				t.Error(name, "Clone", got)
			}
		}
	}
}

func TestP901LogsAreApart(t *testing.T) {
	a, b := oplog.New(), oplog.New()
	fill(t, a, one(0, 1), one(1, 1))
	adds(t, a, one(2, 2), api.ErrGap)
	holds(t, b, 0)
	adds(t, b, one(2, 1), api.OK, one(2, 1))
	holds(t, a, 1, one(0, 1), one(1, 1))
	holds(t, b, 0, one(2, 1))
}

// A copy of the struct is the same log: none takes away what the other one waits for.
func TestP901CopyOfTheStruct(t *testing.T) {
	l := oplog.New()
	adds(t, l, one(0, 2), api.ErrGap)
	c := *l
	adds(t, &c, one(0, 1), api.OK, one(0, 1), one(0, 2))
	holds(t, l, 0, one(0, 1), one(0, 2))
	holds(t, &c, 0, one(0, 1), one(0, 2))
}

func scribbleOps(ops []op.Op) {
	ops = ops[:cap(ops)]
	for i := range ops {
		path := ops[i].Path[:cap(ops[i].Path)]
		for j := range path {
			path[j] = at(77, 7)
		}
		ops[i] = op.Op{Kind: 99}
	}
}

func scribble(l []batch.Batch) {
	l = l[:cap(l)]
	for i := range l {
		scribbleOps(l[i].Ops)
		l[i] = batch.Batch{Replica: 99}
	}
}

func scribbleEntries(l []oplog.Entry) {
	l = l[:cap(l)]
	for i := range l {
		path := l[i].Op.Path[:cap(l[i].Op.Path)]
		for j := range path {
			path[j] = at(77, 7)
		}
		l[i] = oplog.Entry{Stamp: at(99, 9)}
	}
}

func TestP901AddKeepsNothing(t *testing.T) {
	all := []batch.Batch{made(0, 1, 5, 7), made(0, 2, 15, 3), made(0, 3, 25, 1)}
	l := oplog.New()
	for _, i := range []int{1, 2, 0} {
		x := copyOf(all[i])
		got, _ := l.Add(x)
		scribbleOps(x.Ops)
		scribble(got)
	}
	holds(t, l, 0, all...)
	// An op without a path may come with room for one.
	room := []api.Stamp{at(1, 0), at(2, 0)}
	x := batch.Batch{Seq: 4, Time: 50, Ops: []op.Op{{Kind: op.Mark, Node: at(1, 0), Path: room[:0]}}}
	got, e := l.Add(x)
	kept, _ := l.Batch(0, 4)
	if e != api.OK || len(got) != 1 || cap(got[0].Ops[0].Path) != 0 || cap(kept.Ops[0].Path) != 0 {
		t.Error("the room of an empty path was kept", e)
	}
}

func TestP901ArgumentsStay(t *testing.T) {
	room := row(3, 90, 12)
	was := copyOf(batch.Batch{Ops: room})
	l := oplog.New()
	for _, x := range []batch.Batch{
		{Seq: 3, Time: 20, Ops: room[4:6]},
		{Seq: 2, Time: 10, Ops: room[5:9]},
		{Seq: 1, Time: 2, Ops: room[1:7]},
		{Seq: 1, Time: 2, Ops: room[1:7]},
		{Seq: 4, Time: 1, Ops: room[1:7]},
		{Seq: -4, Time: 1, Ops: room[1:7]},
	} {
		got, _ := l.Add(x)
		scribble(got)
		if !alike(was, batch.Batch{Ops: room}) {
			t.Fatal("ops, or the room around them, were changed by", print(x))
		}
	}
	if l.Total() != 3 {
		t.Error(l.Total())
	}
}

func TestP901AnswersAreNew(t *testing.T) {
	all := []batch.Batch{made(0, 1, 5, 7), made(0, 2, 15, 3), made(4, 1, 25, 64), made(15, 1, 6, 2)}
	l := oplog.New()
	fill(t, l, all...)
	adds(t, l, one(9, 2), api.ErrGap)
	for range 2 {
		x, _ := l.Batch(4, 1)
		since, others := l.Since(vector.Vector{}, 99), l.Since(vector.Vector{}, 99)
		scribbleOps(x.Ops)
		scribble(since)
		if !allAlike(others, all) {
			t.Fatal("two answers of Since share memory")
		}
		scribbleEntries(l.Entries())
		holds(t, l, 1, all...)
	}
	l = oplog.New()
	adds(t, l, all[1], api.ErrGap)
	c := l.Clone()
	got, _ := l.Add(all[0])
	scribble(got)
	holds(t, l, 0, all[:2]...)
	holds(t, c, 1)
}

// No two lists of one answer share anything: what is written through one of them is not seen in another one.
func TestP901ListsOfOneAnswer(t *testing.T) {
	l := oplog.New()
	var all, got []batch.Batch
	same := row(0, 1, 4) // handed in again and again
	for seq := 5; seq > 0; seq-- {
		x := batch.Batch{Seq: seq, Time: 10 * seq, Ops: same}
		all = append([]batch.Batch{x}, all...)
		got, _ = l.Add(x)
	}
	apart(t, "Add", got, all)
	apart(t, "Since", l.Since(vector.Vector{}, 5), all)
	entries := l.Entries()
	for i, x := range entries {
		if !sameOps([]op.Op{x.Op}, same[i%4:i%4+1]) {
			t.Fatal("two entries share a path", i)
		}
		scribbleEntries(entries[i : i+1 : i+1])
	}
}

// apart writes over each list of the answer, and asks that those behind it stay as they were.
func apart(t *testing.T, name string, got, want []batch.Batch) {
	t.Helper()
	for i := range got {
		if !alike(got[i], want[i]) {
			t.Fatal(name, "batches share memory", i)
		}
		for j := range got[i].Ops {
			path := got[i].Ops[j].Path
			if !slices.Equal(path, want[i].Ops[j].Path) {
				t.Fatal(name, "ops share memory", i, j)
			}
			for k := range path[:cap(path)] {
				path[:cap(path)][k] = at(77, 7)
			}
		}
		scribbleOps(got[i].Ops)
	}
}

func TestP901AnyArguments(t *testing.T) {
	l := oplog.New()
	fill(t, l, one(0, 1), one(0, 2), one(15, 1))
	huge := []int{math.MinInt, math.MinInt + 1, -1 << 32, -513, -16, -2, -1, 0, 3, 4, 15, 16, 17, 512, 513, 1 << 32, 1<<32 + 1, math.MaxInt - 1, math.MaxInt}
	for _, a := range huge {
		for _, b := range huge {
			x, ok := l.Batch(a, b)
			if ok || !alike(x, batch.Batch{}) {
				t.Error("Batch", a, b, print(x))
			}
		}
	}
	for _, a := range huge {
		for place := range api.MaxReplicas {
			var v vector.Vector
			v[place] = a
			for _, most := range huge {
				got := l.Since(v, most)
				if (a < 0 || a > mostBatches || most <= 0) && len(got) != 0 || len(got) > 3 || len(got) > max(most, 0) {
					t.Error("Since", v, most, print(got...))
				}
			}
		}
	}
	holds(t, l, 0, one(0, 1), one(0, 2), one(15, 1))
}

func TestP902ErrArg(t *testing.T) {
	l := oplog.New()
	for range 2 {
		for _, x := range noBatches {
			adds(t, l, x, api.ErrArg)
		}
		if l.Total() == 0 {
			holds(t, l, 0)
			// The second time round each Seq is there, and what may not be is told ahead of it.
			fill(t, l, one(0, 1), one(1, 1))
		}
	}
	holds(t, l, 0, one(0, 1), one(1, 1))
}

func TestP902There(t *testing.T) {
	l := oplog.New()
	fill(t, l, one(2, 1), one(2, 2), one(2, 3))
	adds(t, l, one(2, 6), api.ErrGap)
	adds(t, l, one(3, 2), api.ErrGap)
	for range 2 {
		for _, x := range []batch.Batch{one(2, 1), one(2, 2), one(2, 3), one(2, 6), one(3, 2)} {
			adds(t, l, x, api.ErrThere)
			// Also where it is another batch of that number, or one whose time does not fit.
			adds(t, l, made(x.Replica, x.Seq, 1, 2), api.ErrThere)
			adds(t, l, made(x.Replica, x.Seq, mostTime, 1), api.ErrThere)
		}
	}
	holds(t, l, 2, one(2, 1), one(2, 2), one(2, 3))
	// What waited is the batch that came first.
	adds(t, l, one(3, 1), api.OK, one(3, 1), one(3, 2))
	adds(t, l, one(2, 5), api.ErrGap)
	adds(t, l, one(2, 4), api.OK, one(2, 4), one(2, 5), one(2, 6))
	holds(t, l, 0, append(ones(2, 1, 6), ones(3, 1, 2)...)...)
}

func TestP902Next(t *testing.T) {
	l := oplog.New()
	holds(t, l, 0)
	var have []batch.Batch
	for replica := range api.MaxReplicas {
		for seq := 1; seq <= 3; seq++ {
			x := made(replica, seq, 100*seq-replica, 1+7*seq)
			adds(t, l, x, api.OK, x)
			have = append(have, x)
			holds(t, l, 0, have...)
		}
	}
}

func TestP902Gap(t *testing.T) {
	l := oplog.New()
	adds(t, l, one(0, 2), api.ErrGap)
	holds(t, l, 1)
	adds(t, l, one(0, 1), api.OK, one(0, 1), one(0, 2))
	holds(t, l, 0, one(0, 1), one(0, 2))

	adds(t, l, one(0, 4), api.ErrGap)
	adds(t, l, one(0, 6), api.ErrGap)
	adds(t, l, one(0, 7), api.ErrGap)
	adds(t, l, one(0, mostBatches), api.ErrGap)
	adds(t, l, one(1, 4), api.ErrGap)
	adds(t, l, one(1, 2), api.ErrGap)
	holds(t, l, 6, ones(0, 1, 2)...)
	adds(t, l, one(0, 3), api.OK, one(0, 3), one(0, 4))
	holds(t, l, 5, ones(0, 1, 4)...)
	adds(t, l, one(0, 5), api.OK, ones(0, 5, 7)...)
	holds(t, l, 3, ones(0, 1, 7)...)
	adds(t, l, one(1, 1), api.OK, ones(1, 1, 2)...)
	holds(t, l, 2, append(ones(0, 1, 7), ones(1, 1, 2)...)...)
}

// A further Seq waits whatever its Time: that is held against the one ahead only when this is there.
func TestP902GapOfAnyTime(t *testing.T) {
	l := oplog.New()
	fill(t, l, made(0, 1, 1000, 1))
	adds(t, l, made(0, 3, 1, 1), api.ErrGap)
	adds(t, l, made(0, 4, mostTime, 1), api.ErrGap)
	holds(t, l, 2, made(0, 1, 1000, 1))
}

func TestP902Form(t *testing.T) {
	l := oplog.New()
	first := made(0, 1, 5, 3) // to 7@0
	fill(t, l, first, made(1, 1, 900, 64))
	for _, time := range []int{1, 4, 5, 6, 7} {
		adds(t, l, made(0, 2, time, 1), api.ErrForm)
		adds(t, l, made(0, 2, time, 9), api.ErrForm)
		holds(t, l, 0, first, made(1, 1, 900, 64))
	}
	second := made(0, 2, 8, 2)
	fill(t, l, second)
	adds(t, l, made(0, 3, 9, 1), api.ErrForm)
	third := made(0, 3, mostTime, 1)
	fill(t, l, third)
	adds(t, l, made(0, 4, mostTime, 1), api.ErrForm)
	// A first batch has none ahead, and those of other replicas do not count.
	fill(t, l, made(2, 1, 1, 1))
	holds(t, l, 0, first, second, third, made(1, 1, 900, 64), made(2, 1, 1, 1))
}

func TestP902Dropped(t *testing.T) {
	l := oplog.New()
	first := made(3, 1, 50, 10) // to 59@3
	adds(t, l, made(3, 2, 60, 1), api.ErrGap)
	adds(t, l, made(3, 3, 60, 1), api.ErrGap) // does not fit behind Seq 2
	adds(t, l, made(3, 4, 99, 1), api.ErrGap)
	adds(t, l, made(4, 2, 1, 1), api.ErrGap)
	adds(t, l, first, api.OK, first, made(3, 2, 60, 1))
	// What was dropped is neither there nor waits; what stands behind it waits still.
	holds(t, l, 2, first, made(3, 2, 60, 1))
	adds(t, l, made(3, 3, 60, 1), api.ErrForm)
	adds(t, l, made(3, 4, 99, 1), api.ErrThere)
	adds(t, l, made(3, 3, 61, 38), api.OK, made(3, 3, 61, 38), made(3, 4, 99, 1))
	holds(t, l, 1, first, made(3, 2, 60, 1), made(3, 3, 61, 38), made(3, 4, 99, 1))
	// Also the very first one behind.
	adds(t, l, made(4, 1, 1, 1), api.OK, made(4, 1, 1, 1))
	holds(t, l, 0, first, made(3, 2, 60, 1), made(3, 3, 61, 38), made(3, 4, 99, 1), made(4, 1, 1, 1))
}

func TestP902FullOfWaiting(t *testing.T) {
	l := oplog.New()
	for i := range mostWaiting {
		adds(t, l, one(i%7, 2+i/7), api.ErrGap)
	}
	holds(t, l, mostWaiting)
	for _, x := range []batch.Batch{one(8, 2), one(0, 40), one(15, mostBatches)} {
		adds(t, l, x, api.ErrFull)
	}
	adds(t, l, one(0, 2), api.ErrThere)
	adds(t, l, batch.Batch{}, api.ErrArg)
	holds(t, l, mostWaiting)
	// The next one of a replica still comes in, and makes room.
	fill(t, l, one(9, 1))
	adds(t, l, one(0, 1), api.OK, ones(0, 1, 11)...)
	holds(t, l, mostWaiting-10, append(ones(0, 1, 11), one(9, 1))...)
	for i := range 10 {
		adds(t, l, one(10, 2+i), api.ErrGap)
	}
	adds(t, l, one(11, 2), api.ErrFull)
	holds(t, l, mostWaiting, append(ones(0, 1, 11), one(9, 1))...)
}

func TestP902FullOfOneReplica(t *testing.T) {
	l := oplog.New()
	all := ones(5, 1, mostBatches)
	fill(t, l, all[:mostBatches-1]...)
	adds(t, l, made(5, mostBatches, 1, 1), api.ErrForm)
	fill(t, l, all[mostBatches-1])
	adds(t, l, one(0, 1), api.ErrFull)
	adds(t, l, one(15, 1), api.ErrFull)
	adds(t, l, one(5, mostBatches), api.ErrThere)
	adds(t, l, one(5, mostBatches+1), api.ErrArg)
	// What would not come in next waits nevertheless.
	adds(t, l, one(0, 2), api.ErrGap)
	adds(t, l, one(0, 1), api.ErrFull)
	holds(t, l, 1, all...)
}

func TestP902FullOfMany(t *testing.T) {
	l := oplog.New()
	var have []batch.Batch
	for replica := range api.MaxReplicas {
		have = append(have, ones(replica, 1, mostBatches/api.MaxReplicas)...)
	}
	fill(t, l, have[:len(have)-2]...)
	adds(t, l, one(15, 32), api.ErrGap)
	adds(t, l, one(15, 33), api.ErrGap)
	adds(t, l, one(15, 34), api.ErrGap)
	// There is room for one of those that wait.
	adds(t, l, one(15, 31), api.OK, one(15, 31), one(15, 32))
	holds(t, l, 2, have...)
	adds(t, l, one(15, 33), api.ErrThere)
	for replica := range api.MaxReplicas - 1 {
		adds(t, l, one(replica, 33), api.ErrFull)
		adds(t, l, made(replica, 33, 1, 1), api.ErrFull) // told ahead of a time that does not fit
		adds(t, l, one(replica, 32), api.ErrThere)
	}
	holds(t, l, 2, have...)
	// What waits in vain is not dropped, whatever its time.
	l = oplog.New()
	adds(t, l, made(15, 33, 1, 1), api.ErrGap)
	fill(t, l, have...)
	holds(t, l, 1, have...)
}

// The log grows full with a batch whose follower does not fit: that one waits still.
func TestP902FullAheadOfDropping(t *testing.T) {
	l := oplog.New()
	all := ones(1, 1, mostBatches-1)
	fill(t, l, all...)
	adds(t, l, made(2, 2, 1, 1), api.ErrGap)
	adds(t, l, one(2, 1), api.OK, one(2, 1))
	holds(t, l, 1, append(all, one(2, 1))...)
	adds(t, l, made(2, 2, 1, 1), api.ErrThere)
}

func TestP903Batch(t *testing.T) {
	l := oplog.New()
	fill(t, l, ones(4, 1, 5)...)
	adds(t, l, one(4, 7), api.ErrGap)
	adds(t, l, one(0, 2), api.ErrGap)
	for replica := -2; replica < 18; replica++ {
		for seq := -2; seq < 10; seq++ {
			want := replica == 4 && seq >= 1 && seq <= 5
			x, ok := l.Batch(replica, seq)
			if ok != want || want && !alike(x, one(4, seq)) || !want && !alike(x, batch.Batch{}) {
				t.Error(replica, seq, print(x), ok)
			}
		}
	}
}

func TestP903Since(t *testing.T) {
	l := oplog.New()
	have := slices.Concat(ones(0, 1, 3), ones(2, 1, 5), ones(15, 1, 1))
	for _, x := range slices.Backward(have) {
		l.Add(x)
	}
	adds(t, l, one(7, 2), api.ErrGap)
	for _, c := range []struct {
		v    vector.Vector
		most int
		want []batch.Batch
	}{
		{vector.Vector{}, 9, have},
		{vector.Vector{}, 10, have},
		{vector.Vector{}, math.MaxInt, have},
		{vector.Vector{}, 8, have[:8]},
		{vector.Vector{}, 4, have[:4]},
		{vector.Vector{}, 3, have[:3]},
		{vector.Vector{}, 1, have[:1]},
		{vector.Vector{}, 0, nil},
		{vector.Vector{}, -1, nil},
		{vector.Vector{}, math.MinInt, nil},
		{vector.Vector{1, 0, 4}, 99, slices.Concat(ones(0, 2, 3), ones(2, 5, 5), ones(15, 1, 1))},
		{vector.Vector{1, 0, 4}, 2, ones(0, 2, 3)},
		{vector.Vector{1, 0, 4}, 3, slices.Concat(ones(0, 2, 3), ones(2, 5, 5))},
		{vector.Vector{3, 0, 5, 0, 0, 0, 0, 0, 0, 0, 0, 0, 0, 0, 0, 1}, 99, nil},
		{vector.Vector{4, 512, 6, 512, 0, 0, 0, 0, 0, 0, 0, 0, 0, 0, 0, 512}, 99, nil},
		{vector.Vector{512, 512, 2}, 99, slices.Concat(ones(2, 3, 5), ones(15, 1, 1))},
		{vector.Vector{7: 2}, 99, have},
		{vector.Vector{9: 513}, 99, nil},
		{vector.Vector{0: 513}, 99, nil},
		{vector.Vector{15: -1}, 99, nil},
		{vector.Vector{math.MinInt}, 99, nil},
		{vector.Vector{math.MaxInt}, 99, nil},
	} {
		if got := l.Since(c.v, c.most); !allAlike(got, c.want) {
			t.Errorf("Since %v, %d: %s, want %s", c.v, c.most, print(got...), print(c.want...))
		}
	}
}

func TestP903Entries(t *testing.T) {
	l := oplog.New()
	x, y, z := made(0, 1, 3, 4), made(2, 1, 2, 3), made(1, 1, 4, 1)
	fill(t, l, x, y, z, made(2, 2, 7, 1))
	adds(t, l, made(0, 3, 1, 1), api.ErrGap) // what waits has no entries
	want := []api.Stamp{at(2, 2), at(3, 0), at(3, 2), at(4, 0), at(4, 1), at(4, 2), at(5, 0), at(6, 0), at(7, 2)}
	got := l.Entries()
	if len(got) != len(want) {
		t.Fatal(got)
	}
	for i, s := range want {
		if got[i].Stamp != s {
			t.Error(i, got[i].Stamp, s)
		}
	}
	if !sameOps([]op.Op{got[0].Op, got[1].Op, got[4].Op, got[7].Op}, []op.Op{y.Ops[0], x.Ops[0], z.Ops[0], x.Ops[3]}) {
		t.Error(got)
	}
}

func TestP903EntriesOfAFullLog(t *testing.T) {
	l := oplog.New()
	var have []batch.Batch
	for replica := range api.MaxReplicas {
		for seq := 1; seq <= mostBatches/api.MaxReplicas; seq++ {
			have = append(have, made(replica, seq, mostTime-64*(33-seq)+1, mostOps))
		}
	}
	fill(t, l, have...)
	holds(t, l, 0, have...)
	if l.Time() != mostTime || len(l.Entries()) != mostBatches*mostOps {
		t.Error(l.Time(), len(l.Entries()))
	}
}

func TestP903Time(t *testing.T) {
	l := oplog.New()
	for _, c := range []struct {
		x    batch.Batch
		want int
	}{
		{made(3, 1, 10, 5), 14},
		{made(4, 1, 14, 1), 14},
		{made(5, 1, 2, 3), 14},
		{made(5, 2, 9, 9), 17},
		{made(0, 1, 16, 2), 17},
		{made(0, 2, 18, 1), 18},
	} {
		if fill(t, l, c.x); l.Time() != c.want {
			t.Error(print(c.x), l.Time(), c.want)
		}
	}
	// What waits counts for nothing.
	adds(t, l, made(9, 2, mostTime, 1), api.ErrGap)
	if l.Time() != 18 {
		t.Error(l.Time())
	}
}

func TestP903Digest(t *testing.T) {
	l := oplog.New()
	if l.Digest() != 0 {
		t.Error("of an empty log", l.Digest())
	}
	mark := []op.Op{{Kind: op.Mark, Node: at(5, 2), On: true}}
	fill(t, l, batch.Batch{Replica: 1, Seq: 1, Time: 5, Ops: mark}, batch.Batch{Seq: 1, Time: 7, Ops: mark}, batch.Batch{Replica: 1, Seq: 2, Time: 6, Ops: mark})
	adds(t, l, batch.Batch{Seq: 3, Time: 9, Ops: mark}, api.ErrGap)
	b := "\x01\x04\x01\x05\x01\x02\x01\x01"
	all := "\x00\x01\x01\x01\x07\x01\x01" + b + "\x01\x01\x01\x01\x01\x05\x01\x01" + b + "\x01\x01\x01\x02\x01\x06\x01\x01" + b
	if want := int(crc32.ChecksumIEEE([]byte(all))); l.Digest() != want {
		t.Errorf("%x, want %x", l.Digest(), want)
	}
}

func TestP903Clone(t *testing.T) {
	l := oplog.New()
	c := l.Clone()
	adds(t, c, one(0, 1), api.OK, one(0, 1))
	holds(t, l, 0)
	l = oplog.New()
	have := slices.Concat(ones(0, 1, 3), ones(6, 1, 4))
	fill(t, l, have...)
	adds(t, l, one(1, 2), api.ErrGap)
	adds(t, l, one(6, 6), api.ErrGap)
	c = l.Clone()
	holds(t, c, 2, have...)
	// Each goes on alone, with batches of the same number that are not the same.
	fill(t, l, made(0, 4, 100, 2))
	fill(t, c, made(0, 4, 200, 3))
	adds(t, l, made(1, 1, 1, 2), api.OK, made(1, 1, 1, 2), one(1, 2))
	adds(t, l, one(6, 7), api.ErrGap)
	holds(t, l, 2, slices.Concat(ones(0, 1, 3), []batch.Batch{made(0, 4, 100, 2), made(1, 1, 1, 2), one(1, 2)}, ones(6, 1, 4))...)
	holds(t, c, 2, slices.Concat(ones(0, 1, 3), []batch.Batch{made(0, 4, 200, 3)}, ones(6, 1, 4))...)
	adds(t, c, one(6, 5), api.OK, one(6, 5), one(6, 6))
	adds(t, c, one(1, 1), api.OK, one(1, 1), one(1, 2))
	holds(t, l, 2, slices.Concat(ones(0, 1, 3), []batch.Batch{made(0, 4, 100, 2), made(1, 1, 1, 2), one(1, 2)}, ones(6, 1, 4))...)
	holds(t, c, 0, slices.Concat(ones(0, 1, 3), []batch.Batch{made(0, 4, 200, 3)}, ones(1, 1, 2), ones(6, 1, 6))...)
}

// anyRows answers batches of some replicas, without gaps, whose times fit, by replicas and Seqs; at most so many.
func anyRows(rnd *rand.Rand, most int) (l []batch.Batch) {
	for replica := range api.MaxReplicas {
		if rnd.Intn(2) == 0 {
			continue
		}
		time := 1
		for seq := 1; seq <= 1+rnd.Intn(8) && len(l) < most; seq++ {
			time += rnd.Intn(4)
			x := made(replica, seq, time, 1+rnd.Intn(5))
			time += len(x.Ops)
			l = append(l, x)
		}
	}
	return l
}

func TestP904NoOrder(t *testing.T) {
	rnd := rand.New(rand.NewSource(904))
	for range 300 {
		all := anyRows(rnd, mostWaiting)
		for range 4 {
			l := oplog.New()
			came := 0
			for _, i := range rnd.Perm(len(all)) {
				x := copyOf(all[i])
				if rnd.Intn(3) == 0 {
					x.Ops[0].Path = append([]api.Stamp{}, x.Ops[0].Path...)
				}
				got, e := l.Add(x)
				if (e == api.OK) != (len(got) > 0) || e != api.OK && e != api.ErrGap {
					t.Fatal(print(x), print(got...), e)
				}
				came += len(got)
				// Doubled ones change nothing.
				adds(t, l, all[i], api.ErrThere)
			}
			if came != len(all) {
				t.Fatal(came, len(all))
			}
			holds(t, l, 0, all...)
		}
	}
}

// model does what the chapter says, with a list that is searched.
type model struct{ have, waits []batch.Batch }

func (m *model) count(replica int) (n int) {
	for _, x := range m.have {
		if x.Replica == replica {
			n++
		}
	}
	return n
}

func (m *model) fits(x batch.Batch) bool {
	for _, y := range m.have {
		if y.Replica == x.Replica && y.Seq == x.Seq-1 && x.Time <= y.Time+len(y.Ops)-1 {
			return false
		}
	}
	return true
}

func (m *model) add(x batch.Batch) (came []batch.Batch, e api.Errno) {
	is := func(y batch.Batch) bool { return y.Replica == x.Replica && y.Seq == x.Seq }
	if slices.ContainsFunc(m.have, is) || slices.ContainsFunc(m.waits, is) {
		return nil, api.ErrThere
	}
	if x.Seq != m.count(x.Replica)+1 {
		if len(m.waits) == mostWaiting {
			return nil, api.ErrFull
		}
		m.waits = append(m.waits, x)
		return nil, api.ErrGap
	}
	if len(m.have) == mostBatches {
		return nil, api.ErrFull
	}
	if !m.fits(x) {
		return nil, api.ErrForm
	}
	m.have = append(m.have, x)
	came = append(came, x)
	for len(m.have) < mostBatches {
		i := slices.IndexFunc(m.waits, func(y batch.Batch) bool {
			return y.Replica == x.Replica && y.Seq == m.count(x.Replica)+1
		})
		if i < 0 {
			break
		}
		y := m.waits[i]
		m.waits = slices.Delete(m.waits, i, i+1)
		if !m.fits(y) {
			break
		}
		m.have = append(m.have, y)
		came = append(came, y)
	}
	return came, api.OK
}

func (m *model) sorted() []batch.Batch {
	return slices.SortedFunc(slices.Values(m.have), func(a, b batch.Batch) int {
		return cmp.Or(cmp.Compare(a.Replica, b.Replica), cmp.Compare(a.Seq, b.Seq))
	})
}

func TestP905AgainstAModel(t *testing.T) {
	rnd := rand.New(rand.NewSource(905))
	seen := map[api.Errno]int{}
	dropped := 0
	for round := range 60 {
		l, m := oplog.New(), &model{}
		ahead := 1 + rnd.Intn(12)
		replicas := 1 + rnd.Intn(api.MaxReplicas)
		for i := range 400 + 800*(round%2) {
			replica := rnd.Intn(replicas)
			seq := max(1, m.count(replica)+1-rnd.Intn(2)+rnd.Intn(ahead))
			x := made(replica, min(seq, mostBatches), max(1, 4*seq-rnd.Intn(9)), 1+rnd.Intn(4))
			before, waited := m.sorted(), len(m.waits)
			came, e := m.add(copyOf(x))
			seen[e]++
			if e == api.OK && waited-len(m.waits) > len(came)-1 {
				dropped++
			}
			adds(t, l, x, e, came...)
			if i%100 == 99 {
				holds(t, l, len(m.waits), m.sorted()...)
				l = l.Clone()
			}
			// None is lost.
			for _, y := range before {
				if i%100 == 50 {
					if z, ok := l.Batch(y.Replica, y.Seq); !ok || !alike(z, y) {
						t.Fatal("lost", print(y))
					}
				}
			}
		}
		rises(t, l)
	}
	for _, e := range []api.Errno{api.OK, api.ErrThere, api.ErrGap, api.ErrForm, api.ErrFull} {
		if seen[e] < 100 {
			t.Error("few of", e, seen)
		}
	}
	if dropped < 100 {
		t.Error("few were dropped", dropped)
	}
}

// rises asks that of each replica the Seqs are 1, 2, and so on, and the stamps rise.
func rises(t *testing.T, l *oplog.Log) {
	t.Helper()
	for replica, n := range l.Vector() {
		last := api.Stamp{}
		for seq := 1; seq <= n; seq++ {
			x, ok := l.Batch(replica, seq)
			if !ok || x.Seq != seq || x.Replica != replica || x.Time <= last.Time {
				t.Fatal(replica, seq, print(x), ok, last)
			}
			last = batch.End(x)
		}
	}
}

func TestP905SameStepsSameAnswers(t *testing.T) {
	var told []string
	for range 3 {
		rnd := rand.New(rand.NewSource(9050))
		l := oplog.New()
		var steps strings.Builder
		for range 500 {
			x := made(rnd.Intn(16), 1+rnd.Intn(9), 1+rnd.Intn(90), 1+rnd.Intn(3))
			got, e := l.Add(x)
			fmt.Fprint(&steps, got, e, l.Vector(), l.Digest(), l.Waiting(), l.Time(), len(l.Entries()))
		}
		told = append(told, steps.String())
	}
	if told[0] != told[1] || told[1] != told[2] {
		t.Error("the same steps have other answers")
	}
}
