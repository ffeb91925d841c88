package batch_test

import (
	"bytes"
	"fmt"
	"math"
	"math/rand"
	"slices"
	"strings"
	"testing"

	"diorama/api"
	"diorama/batch"
	"diorama/op"
	"diorama/value"
	"diorama/wire"
)

const (
	mostTime    = 1 << 40
	mostOps     = 64
	mostBatches = 512
)

func at(time, replica int) api.Stamp { return api.Stamp{Time: time, Replica: replica} }

// The ops that batches are made of here, and their bytes.
var (
	made    = op.Op{Kind: op.Create, Key: "\x80"}
	marked  = op.Op{Kind: op.Mark, Node: at(5, 2), On: true}
	named   = op.Op{Kind: op.Set, Node: at(1, 0), Prop: value.Name, Value: api.Value{Kind: value.Text, T: "a b"}}
	changed = op.Op{Kind: op.Override, Node: at(1, 0), Path: []api.Stamp{at(4, 1), at(1, 0)}, Prop: value.Hidden}
	longest = op.Op{Kind: op.Override, Node: at(mostTime, 15), Path: slices.Repeat([]api.Stamp{at(mostTime, 15)}, 8), Prop: value.Name, Value: api.Value{Kind: value.Text, T: strings.Repeat("~", 64)}}
)

const (
	madeBytes    = "\x01\x01\x00\x00\x01\x01\x80"
	markedBytes  = "\x01\x04\x01\x05\x01\x02\x01\x01"
	namedBytes   = "\x01\x03\x01\x01\x00\x01\x03\x01\x03\x01\x03a b"
	changedBytes = "\x01\x06\x01\x01\x00\x01\x02\x01\x04\x01\x01\x01\x01\x00\x01\x02\x00"
	highestBytes = "\x06\x01\x00\x00\x00\x00\x00"
)

func longestBytes() string {
	return "\x01\x06" + highestBytes + "\x01\x0f\x01\x08" + strings.Repeat(highestBytes+"\x01\x0f", 8) + "\x01\x03\x01\x03\x01\x40" + strings.Repeat("~", 64)
}

func many(x op.Op, count int) []op.Op { return slices.Repeat([]op.Op{x}, count) }

// good are no two the same; each with its bytes.
var good = []struct {
	x     batch.Batch
	bytes string
}{
	{batch.Batch{Seq: 1, Time: 1, Ops: []op.Op{made}}, "\x00\x01\x01\x01\x01\x01\x01" + madeBytes},
	{batch.Batch{Seq: 1, Time: 1, Ops: []op.Op{marked}}, "\x00\x01\x01\x01\x01\x01\x01" + markedBytes},
	{batch.Batch{Replica: 1, Seq: 1, Time: 1, Ops: []op.Op{made}}, "\x01\x01\x01\x01\x01\x01\x01\x01" + madeBytes},
	{batch.Batch{Replica: 1, Seq: 2, Time: 5, Ops: []op.Op{marked, named}}, "\x01\x01\x01\x02\x01\x05\x01\x02" + markedBytes + namedBytes},
	{batch.Batch{Replica: 1, Seq: 2, Time: 5, Ops: []op.Op{named, marked}}, "\x01\x01\x01\x02\x01\x05\x01\x02" + namedBytes + markedBytes},
	{batch.Batch{Replica: 1, Seq: 5, Time: 2, Ops: []op.Op{named, marked}}, "\x01\x01\x01\x05\x01\x02\x01\x02" + namedBytes + markedBytes},
	{batch.Batch{Replica: 2, Seq: 1, Time: 5, Ops: []op.Op{named, marked}}, "\x01\x02\x01\x01\x01\x05\x01\x02" + namedBytes + markedBytes},
	{batch.Batch{Replica: 15, Seq: mostBatches, Time: mostTime, Ops: []op.Op{changed}}, "\x01\x0f\x02\x02\x00" + highestBytes + "\x01\x01" + changedBytes},
	{batch.Batch{Replica: 15, Seq: mostBatches - 1, Time: mostTime - 1, Ops: []op.Op{changed, made}}, "\x01\x0f\x02\x01\xff\x05\xff\xff\xff\xff\xff\x01\x02" + changedBytes + madeBytes},
	{batch.Batch{Replica: 3, Seq: 256, Time: 256, Ops: many(marked, 63)}, "\x01\x03\x02\x01\x00\x02\x01\x00\x01\x3f" + strings.Repeat(markedBytes, 63)},
	{batch.Batch{Replica: 15, Seq: mostBatches, Time: mostTime - 63, Ops: many(longest, mostOps)}, "\x01\x0f\x02\x02\x00\x05\xff\xff\xff\xff\xc1\x01\x40" + strings.Repeat(longestBytes(), mostOps)},
	{batch.Batch{Replica: 9, Seq: 9, Time: 9, Ops: slices.Concat(many(named, 63), many(made, 1))}, "\x01\x09\x01\x09\x01\x09\x01\x40" + strings.Repeat(namedBytes, 63) + madeBytes},
}

var noReplicas = []int{-1, 16, 17, -16, 256, 1 << 32, math.MaxInt, math.MinInt}

var noSeqs = []int{0, -1, mostBatches + 1, 1024, 1<<32 + 1, math.MaxInt, math.MinInt}

var noTimes = []int{0, -1, mostTime + 1, 1 << 48, math.MaxInt, math.MaxInt - 1, math.MaxInt - 63, math.MinInt, math.MinInt + 1}

var noOps = []op.Op{
	{}, {Kind: 7, Node: at(1, 0)}, {Kind: op.Create}, {Kind: op.Create, Node: at(1, 0), Key: "a"}, {Kind: op.Mark, Node: at(0, 0)}, {Kind: op.Mark, Node: at(1, 16)},
	{Kind: op.Set, Node: at(1, 0), Prop: value.Name, Value: api.Value{Kind: value.Int}}, {Kind: op.Override, Node: at(1, 0), Path: many9(), Prop: value.Fill}, {Kind: math.MinInt},
}

func many9() []api.Stamp { return slices.Repeat([]api.Stamp{at(1, 0)}, 9) }

// bad answers batches that may not be: of each that may be, one part is wrong.
func bad() (l []batch.Batch) {
	for _, g := range good {
		add := func(change func(x *batch.Batch)) {
			x := g.x
			x.Ops = slices.Clone(x.Ops)
			change(&x)
			l = append(l, x)
		}
		for _, n := range noReplicas {
			add(func(x *batch.Batch) { x.Replica = n })
		}
		for _, n := range noSeqs {
			add(func(x *batch.Batch) { x.Seq = n })
		}
		for _, n := range noTimes {
			add(func(x *batch.Batch) { x.Time = n })
		}
		add(func(x *batch.Batch) { x.Time = mostTime - len(x.Ops) + 2 })
		for _, y := range noOps {
			for _, i := range []int{0, len(g.x.Ops) / 2, len(g.x.Ops) - 1} {
				add(func(x *batch.Batch) { x.Ops[i] = y })
			}
		}
		add(func(x *batch.Batch) { x.Ops = nil })
		add(func(x *batch.Batch) { x.Ops = []op.Op{} })
		add(func(x *batch.Batch) { x.Ops = many(made, mostOps+1) })
		add(func(x *batch.Batch) { x.Ops = many(made, 10000) })
	}
	return append(l, batch.Batch{})
}

// alike holds batches against each other part by part, nil lists and empty ones being the same.
func alike(a, b batch.Batch) bool {
	if a.Replica != b.Replica || a.Seq != b.Seq || a.Time != b.Time || len(a.Ops) != len(b.Ops) {
		return false
	}
	for i, x := range a.Ops {
		y := b.Ops[i]
		if x.Kind != y.Kind || x.Node != y.Node || x.Ref != y.Ref || x.Key != y.Key || x.Prop != y.Prop || x.Value != y.Value || x.On != y.On || !slices.Equal(x.Path, y.Path) {
			return false
		}
	}
	return true
}

func copyOf(x batch.Batch) batch.Batch {
	x.Ops = slices.Clone(x.Ops)
	for i := range x.Ops {
		x.Ops[i].Path = slices.Clone(x.Ops[i].Path)
	}
	return x
}

func print(x batch.Batch) string { return fmt.Sprintf("%.200s", fmt.Sprint(x)) }

func framed(b string) string {
	out, _ := wire.Frame([]byte(b))
	return string(out)
}

func TestP801NilAndUnmadeReaders(t *testing.T) {
	for name, r := range map[string]*wire.Reader{"nil": nil, "new": new(wire.Reader), "literal": {}} {
		for range 2 {
			if x := batch.Take(r); !alike(x, batch.Batch{}) || r.Err() != api.ErrArg || r.Left() != 0 {
				t.Error(name, x, r.Err(), r.Left())
			}
		}
	}
}

func scribble(b []byte) {
	b = b[:cap(b)]
	for i := range b {
		b[i] ^= 0xff
	}
}

func scribbleBatch(x batch.Batch) {
	ops := x.Ops[:cap(x.Ops)]
	for i := range ops {
		path := ops[i].Path[:cap(ops[i].Path)]
		for j := range path {
			path[j] = at(77, 7)
		}
		ops[i] = op.Op{Kind: 99}
	}
}

func TestP801AnswersAreNew(t *testing.T) {
	for _, g := range good {
		for name, write := range map[string]func(batch.Batch) ([]byte, api.Errno){"Put": batch.Put, "Frame": batch.Frame} {
			first, _ := write(g.x)
			kept, _ := write(g.x)
			was := string(first)
			scribble(first)
			again, _ := write(g.x)
			if string(kept) != was || string(again) != was {
				t.Errorf("%s: answers of %s share memory", print(g.x), name)
			}
		}
	}
}

func TestP801TakenIsNew(t *testing.T) {
	for _, g := range good {
		b := []byte(g.bytes + g.bytes)
		r := wire.Open(b)
		first, second := batch.Take(r), batch.Take(r)
		clear(b)
		scribbleBatch(first)
		if !alike(second, g.x) || !alike(batch.Take(wire.Open([]byte(g.bytes))), g.x) {
			t.Errorf("%s: answers of Take share memory", print(g.x))
		}
		b = []byte(framed(g.bytes))
		first, _, _ = batch.Unframe(b)
		second, _, _ = batch.Unframe(b)
		scribbleBatch(first)
		third, _, _ := batch.Unframe(b)
		clear(b)
		if !alike(second, g.x) || !alike(third, g.x) {
			t.Errorf("%s: answers of Unframe share memory", print(g.x))
		}
	}
}

func TestP801ArgumentsStay(t *testing.T) {
	for _, g := range slices.Concat(bad(), []batch.Batch{good[3].x, good[8].x, good[9].x, good[10].x}) {
		room := slices.Concat(many(made, 1), copyOf(g).Ops, many(marked, 2))
		whole := batch.Batch{Ops: room}
		was := copyOf(whole)
		x := g
		x.Ops = room[1 : 1+len(g.Ops)]
		batch.Right(x)
		batch.Same(x, x)
		batch.Stamp(x, 0)
		batch.End(x)
		b, _ := batch.Put(x)
		scribble(b)
		b, _ = batch.Frame(x)
		scribble(b)
		if !alike(whole, was) {
			t.Fatal("ops, or the room around them, were changed", print(g))
		}
	}
	for _, g := range good {
		b := []byte(framed(g.bytes) + "xyz")
		was := bytes.Clone(b)
		x, _, _ := batch.Unframe(b[:len(b)-3])
		scribbleBatch(x)
		if !bytes.Equal(b, was) {
			t.Fatal("bytes, or the room behind them, were changed", print(g.x))
		}
	}
}

func TestP801AnyArguments(t *testing.T) {
	for _, x := range bad() {
		b, e := batch.Put(x)
		again, f := batch.Put(x)
		c, g := batch.Frame(x)
		if string(b) != string(again) || e != f || string(c) != "" || g != e || !batch.Same(x, x) {
			t.Errorf("%s: %q %d, then %q %d, %q %d", print(x), b, e, again, f, c, g)
		}
	}
	rnd := rand.New(rand.NewSource(801))
	for range 100000 {
		b := make([]byte, rnd.Intn(60))
		for i := range b {
			b[i] = []byte{0, 1, 1, 1, 2, 3, 6, byte(rnd.Intn(256))}[rnd.Intn(8)]
		}
		r := wire.Open(b)
		x := batch.Take(r)
		y, size, e := batch.Unframe([]byte(framed(string(b))))
		if r.Done() == api.OK != (e == api.OK) || (r.Err() != api.OK) != alike(x, batch.Batch{}) || (e != api.OK) != alike(y, batch.Batch{}) || (e != api.OK) != (size == 0) {
			t.Fatalf("%q: %v %d, %v %d %d", b, x, r.Err(), y, size, e)
		}
	}
}

func TestP802Right(t *testing.T) {
	for _, g := range good {
		if !batch.Right(g.x) {
			t.Errorf("%s may be", print(g.x))
		}
	}
	for _, x := range bad() {
		if batch.Right(x) {
			t.Errorf("%s may not be", print(x))
		}
	}
}

func TestP802RightOfNumbers(t *testing.T) {
	for n := -3; n < 600; n++ {
		for _, c := range []struct {
			x     batch.Batch
			right bool
		}{
			{batch.Batch{Replica: n, Seq: 1, Time: 1, Ops: many(made, 1)}, n >= 0 && n <= 15},
			{batch.Batch{Seq: n, Time: 1, Ops: many(made, 1)}, n >= 1 && n <= mostBatches},
			{batch.Batch{Seq: 1, Time: n, Ops: many(made, 1)}, n >= 1},
			{batch.Batch{Seq: 1, Time: 1, Ops: many(made, max(n, 0))}, n >= 1 && n <= mostOps},
			{batch.Batch{Seq: 1, Time: mostTime - n, Ops: many(made, mostOps)}, n >= mostOps-1},
			{batch.Batch{Seq: 1, Time: mostTime - 9, Ops: many(made, max(n, 0))}, n >= 1 && n <= 10},
		} {
			if batch.Right(c.x) != c.right {
				t.Error(n, print(c.x), batch.Right(c.x))
			}
		}
	}
}

func TestP802Same(t *testing.T) {
	for i, a := range good {
		for j, b := range good {
			if batch.Same(a.x, b.x) != (i == j) {
				t.Errorf("%s and %s", print(a.x), print(b.x))
			}
		}
		if !batch.Same(a.x, copyOf(a.x)) {
			t.Errorf("%s is not the same as a copy", print(a.x))
		}
	}
	// Each part counts, also of batches that may not be.
	all := batch.Batch{Replica: -1, Seq: 9999, Time: math.MinInt, Ops: []op.Op{{Kind: 99}, changed, {}, {Path: []api.Stamp{at(-1, -1)}}}}
	empty := copyOf(all)
	empty.Ops[0].Path = []api.Stamp{}
	if !batch.Same(all, copyOf(all)) || !batch.Same(all, empty) || !batch.Same(batch.Batch{}, batch.Batch{Ops: []op.Op{}}) {
		t.Error("not the same")
	}
	for i, change := range []func(x *batch.Batch){
		func(x *batch.Batch) { x.Replica = 0 },
		func(x *batch.Batch) { x.Seq = 9998 },
		func(x *batch.Batch) { x.Time++ },
		func(x *batch.Batch) { x.Replica, x.Seq = x.Seq, x.Replica },
		func(x *batch.Batch) { x.Ops = nil },
		func(x *batch.Batch) { x.Ops = x.Ops[:3] },
		func(x *batch.Batch) { x.Ops = append(x.Ops, op.Op{}) },
		func(x *batch.Batch) { x.Ops[0].Kind = 98 },
		func(x *batch.Batch) { x.Ops[1].Path[1].Time = 2 },
		func(x *batch.Batch) { x.Ops[2].On = true },
		func(x *batch.Batch) { x.Ops[3].Path = nil },
		func(x *batch.Batch) { slices.Reverse(x.Ops) },
	} {
		other := copyOf(all)
		change(&other)
		if batch.Same(all, other) || batch.Same(other, all) {
			t.Error(i, other)
		}
	}
}

func TestP802StampOfNone(t *testing.T) {
	for _, g := range good {
		for _, i := range []int{-1, -2, len(g.x.Ops), len(g.x.Ops) + 1, 100, math.MaxInt, math.MinInt, -len(g.x.Ops), 1 << 32} {
			if s := batch.Stamp(g.x, i); s != at(0, 0) {
				t.Error(print(g.x), i, s)
			}
		}
	}
	for _, x := range bad() {
		for i := -1; i <= len(x.Ops); i++ {
			if s := batch.Stamp(x, i); s != at(0, 0) {
				t.Fatal(print(x), i, s)
			}
		}
		if s := batch.End(x); s != at(0, 0) {
			t.Error(print(x), s)
		}
	}
}

func TestP802Put(t *testing.T) {
	for _, g := range good {
		if b, e := batch.Put(g.x); string(b) != g.bytes || e != api.OK {
			t.Errorf("%s: %q %d, want %q", print(g.x), b, e, g.bytes)
		}
		if b, e := batch.Frame(g.x); string(b) != framed(g.bytes) || e != api.OK {
			t.Errorf("%s: %q %d, want %q", print(g.x), b, e, framed(g.bytes))
		}
	}
	for _, x := range bad() {
		if b, e := batch.Put(x); len(b) != 0 || e != api.ErrArg {
			t.Errorf("%s: %.80q %d", print(x), b, e)
		}
		if b, e := batch.Frame(x); len(b) != 0 || e != api.ErrArg {
			t.Errorf("%s: %.80q %d", print(x), b, e)
		}
	}
}

func TestP802Take(t *testing.T) {
	for _, g := range good {
		r := wire.Open([]byte(g.bytes + "\x01\x07"))
		if x := batch.Take(r); !alike(x, g.x) || r.Err() != api.OK || r.Left() != 2 {
			t.Errorf("%.200q: %s %d, %d left", g.bytes, print(x), r.Err(), r.Left())
		}
		if n := r.Num(); n != 7 || r.Done() != api.OK {
			t.Errorf("behind %.200q: %d %d", g.bytes, n, r.Done())
		}
	}
}

// refuses asks that the bytes are no batch's, told by this error, where so many bytes are left.
func refuses(t *testing.T, b string, want api.Errno, left int) {
	t.Helper()
	r := wire.Open([]byte(b))
	for range 2 {
		if x := batch.Take(r); !alike(x, batch.Batch{}) || r.Err() != want || r.Left() != left {
			t.Errorf("%.60q: %s %d, %d left, want error %d and %d left", b, print(x), r.Err(), r.Left(), want, left)
		}
	}
	// In a frame all of these say nothing.
	if x, size, e := batch.Unframe([]byte(framed(b))); !alike(x, batch.Batch{}) || size != 0 || e != api.ErrForm {
		t.Errorf("%.60q framed: %s %d %d", b, print(x), size, e)
	}
}

func TestP802TakeEnds(t *testing.T) {
	for _, g := range good {
		for i := range g.bytes {
			r := wire.Open([]byte(g.bytes[:i]))
			if x := batch.Take(r); !alike(x, batch.Batch{}) || r.Err() != api.ErrEnd {
				t.Errorf("%.200q: %s %d", g.bytes[:i], print(x), r.Err())
			}
		}
	}
	refuses(t, "", api.ErrEnd, 0)
	refuses(t, "\x00", api.ErrEnd, 0)
	refuses(t, "\x00\x01\x01\x01", api.ErrEnd, 1)
	refuses(t, "\x00\x01\x01\x01\x01\x01", api.ErrEnd, 1)
	refuses(t, "\x00\x01\x01\x01\x01\x01\x02"+madeBytes, api.ErrEnd, 0)
	// What ends too early is told so, also where a part ahead may not be.
	refuses(t, "\x00\x00\x00", api.ErrEnd, 0)
	refuses(t, "\x00\x00\x01\x01\x01\x02"+madeBytes, api.ErrEnd, 0)
	refuses(t, "\x00\x01\x01\x00\x01\x02"+madeBytes, api.ErrEnd, 0)
	refuses(t, "\x00\x01\x01\x06\xff\xff\xff\xff\xff\xff\x01\x02"+madeBytes, api.ErrEnd, 0)
}

func TestP802TakeOfTooMuch(t *testing.T) {
	one := "\x01\x01" + madeBytes
	for _, n := range []string{"\x01\x10", "\x01\xff", "\x02\x01\x00", "\x06\xff\xff\xff\xff\xff\xff"} {
		refuses(t, n+"\x01\x01\x01\x01"+one, api.ErrOver, len(n)+4+len(one))
		refuses(t, n, api.ErrOver, len(n))
	}
	for _, n := range []string{"\x02\x02\x01", "\x02\x03\x00", "\x02\xff\xff", "\x03\x01\x00\x01", "\x06\xff\xff\xff\xff\xff\xff"} {
		refuses(t, "\x00"+n+"\x01\x01"+one, api.ErrOver, len(n)+2+len(one))
		refuses(t, "\x01\x0f"+n, api.ErrOver, len(n))
	}
	for _, n := range []string{"\x01\x41", "\x01\xff", "\x02\x01\x00", "\x02\x01\x01", "\x06\xff\xff\xff\xff\xff\xff"} {
		refuses(t, "\x00\x01\x01\x01\x01"+n+strings.Repeat(madeBytes, 65), api.ErrOver, len(n)+65*len(madeBytes))
		refuses(t, "\x00\x01\x01\x01\x01"+n, api.ErrOver, len(n))
		// That is told, also where a part ahead may not be.
		refuses(t, "\x00\x00\x00"+n, api.ErrOver, len(n))
	}
	// The first one too great is told where it stands, also if one behind it has no form.
	refuses(t, "\x01\x10\x07", api.ErrOver, 3)
	refuses(t, "\x00\x02\x02\x01\x07", api.ErrOver, 4)
	// A number within an op is read as chapter 7 reads it.
	refuses(t, "\x00\x01\x01\x01\x01\x01\x01\x01\x04\x01\x05\x01\x10\x01\x01", api.ErrOver, 4)
}

func TestP802TakeOfWrongForms(t *testing.T) {
	one := "\x01\x01" + madeBytes
	for _, n := range []string{"\x07", "\xff", "\x01\x00", "\x02\x00\x01", "\x06\x00\x00\x00\x00\x00\x01"} {
		refuses(t, n+"\x01\x01\x01\x01"+one, api.ErrForm, len(n)+4+len(one))
		refuses(t, "\x00"+n+"\x01\x01"+one, api.ErrForm, len(n)+2+len(one))
		refuses(t, "\x00\x01\x01"+n+one, api.ErrForm, len(n)+len(one))
		refuses(t, "\x00\x01\x01\x01\x01"+n+madeBytes, api.ErrForm, len(n)+len(madeBytes))
		refuses(t, "\x00\x01\x01\x01\x01\x01\x02"+madeBytes+n+markedBytes, api.ErrForm, len(n)+len(markedBytes))
	}
}

// Parts of its own that may not be are told when all of the batch is read.
func TestP802TakeOfWhatMayNotBe(t *testing.T) {
	wrong := func(b string) {
		t.Helper()
		refuses(t, b, api.ErrForm, 0)
		refuses(t, b+"\x01\x04", api.ErrForm, 2)
	}
	for _, rest := range []string{"\x01\x01" + madeBytes, "\x01\x02" + madeBytes + changedBytes, "\x01\x40" + strings.Repeat(madeBytes, 64)} {
		wrong("\x00\x00\x01\x01" + rest)
		wrong("\x01\x0f\x00\x01\x05" + rest)
		wrong("\x00\x01\x01\x00" + rest)
		wrong("\x00\x01\x01\x06\x01\x00\x00\x00\x00\x01" + rest)
		wrong("\x00\x01\x01\x06\xff\xff\xff\xff\xff\xff" + rest)
	}
	wrong("\x00\x01\x01\x01\x01\x00")
	wrong("\x00\x00\x00\x00")
	wrong("\x00\x01\x01\x06\x01\x00\x00\x00\x00\x00\x01\x02" + madeBytes + madeBytes)
	wrong("\x00\x01\x01\x05\xff\xff\xff\xff\xff\x01\x03" + strings.Repeat(madeBytes, 3))
	wrong("\x00\x01\x01\x05\xff\xff\xff\xff\xc2\x01\x40" + strings.Repeat(madeBytes, 64))
}

// An op that may not be ends the reading where it ends.
func TestP802TakeOfOpsThatMayNotBe(t *testing.T) {
	for _, bad := range []string{"\x00", "\x01\x07", "\x06\xff\xff\xff\xff\xff\xff", "\x01\x01\x00\x00\x00", "\x01\x04\x00\x00\x01\x01", "\x01\x04\x01\x05\x01\x02\x01\x02"} {
		for ahead := range 4 {
			b := "\x00\x01\x01\x01\x01\x01\x04" + strings.Repeat(madeBytes, ahead) + bad
			refuses(t, b, api.ErrForm, 0)
			refuses(t, b+strings.Repeat(markedBytes, 3-ahead), api.ErrForm, (3-ahead)*len(markedBytes))
			refuses(t, b+"\x01\x10\x00\xff", api.ErrForm, 4)
		}
	}
}

func TestP802TakeBehindAnError(t *testing.T) {
	for _, g := range good {
		for _, e := range []api.Errno{api.ErrKey, api.ErrOver, -1} {
			r := wire.Open([]byte(g.bytes))
			r.Fail(e)
			if x := batch.Take(r); !alike(x, batch.Batch{}) || r.Err() != e || r.Left() != len(g.bytes) {
				t.Errorf("%.200q: %s %d, %d left", g.bytes, print(x), r.Err(), r.Left())
			}
		}
	}
}

// notFramed asks that the bytes begin no batch's frame, told by this error.
func notFramed(t *testing.T, b string, want api.Errno) {
	t.Helper()
	if x, size, e := batch.Unframe([]byte(b)); !alike(x, batch.Batch{}) || size != 0 || e != want {
		t.Errorf("%.60q: %s %d %d, want error %d", b, print(x), size, e, want)
	}
}

func TestP802Unframe(t *testing.T) {
	for _, g := range good {
		b := framed(g.bytes)
		for _, behind := range []string{"", "\x00", b, "\x01\x07"} {
			if x, size, e := batch.Unframe([]byte(b + behind)); !alike(x, g.x) || size != len(b) || e != api.OK {
				t.Errorf("%.200q: %s %d %d", b, print(x), size, e)
			}
		}
		// Bytes behind the batch's within the frame make it none.
		notFramed(t, framed(g.bytes+"\x00"), api.ErrForm)
		notFramed(t, framed(g.bytes+g.bytes), api.ErrForm)
		notFramed(t, framed(b), api.ErrForm)
		notFramed(t, g.bytes, api.ErrForm)
		for i := range min(len(b), 200) {
			notFramed(t, b[:i], api.ErrEnd)
		}
		notFramed(t, b[:len(b)-1], api.ErrEnd)
		last := []byte(b)
		last[len(b)-1] ^= 1
		notFramed(t, string(last), api.ErrSum)
		notFramed(t, string(last)+b, api.ErrSum)
	}
	if _, _, e := batch.Unframe(nil); e != api.ErrEnd {
		t.Error(e)
	}
	notFramed(t, framed(""), api.ErrForm)
	notFramed(t, framed(strings.Repeat("\x00", 1<<20)), api.ErrForm)
	notFramed(t, "\x5d\x03\x10\x00\x01", api.ErrForm)
	// The frame's errors are told ahead of those of what is in it.
	notFramed(t, "\x5d\x01\x02\x00\x07\x00\x00\x00\x00", api.ErrSum)
	notFramed(t, "\x5d\x01\x02\x00\x07\x00\x00\x00", api.ErrEnd)
}

// anyBatch answers one that may be.
func anyBatch(rnd *rand.Rand) batch.Batch {
	x := batch.Batch{Replica: rnd.Intn(16), Seq: 1 + rnd.Intn(mostBatches)}
	kinds := []op.Op{made, marked, named, changed, longest, {Kind: op.Point, Node: at(1+rnd.Intn(1<<40), rnd.Intn(16))}, {Kind: op.Move, Node: at(7, 1), Ref: at(0, 1), Key: "b"}}
	for range 1 + rnd.Intn(1+rnd.Intn(mostOps)) {
		x.Ops = append(x.Ops, kinds[rnd.Intn(len(kinds))])
	}
	x.Time = 1 + rnd.Intn(1<<rnd.Intn(40))
	if rnd.Intn(4) == 0 {
		x.Time = mostTime + 1 - len(x.Ops) - rnd.Intn(2)
	}
	return x
}

func TestP803ThereAndBack(t *testing.T) {
	rnd := rand.New(rand.NewSource(803))
	for range 1000 {
		l := make([]batch.Batch, 1+rnd.Intn(4))
		var all, frames []byte
		for i := range l {
			l[i] = anyBatch(rnd)
			b, e := batch.Put(l[i])
			f, g := batch.Frame(l[i])
			if !batch.Right(l[i]) || e != api.OK || g != api.OK {
				t.Fatal(print(l[i]), e, g)
			}
			all = append(all, b...)
			frames = append(frames, f...)
		}
		behind := make([]byte, rnd.Intn(20))
		rnd.Read(behind)
		frames = append(frames, behind...)
		r := wire.Open(append(all, behind...))
		for _, want := range l {
			if x := batch.Take(r); !alike(x, want) || !batch.Same(x, want) || !batch.Right(x) {
				t.Fatal(print(x), print(want))
			}
			x, size, e := batch.Unframe(frames)
			if !alike(x, want) || e != api.OK {
				t.Fatal(print(x), print(want), size, e)
			}
			frames = frames[size:]
		}
		if r.Err() != api.OK || r.Left() != len(behind) || !bytes.Equal(frames, behind) {
			t.Fatal(r.Err(), r.Left(), len(frames))
		}
	}
}

// Bytes that are read as a batch are those of that batch.
func TestP803NothingElse(t *testing.T) {
	rnd := rand.New(rand.NewSource(8030))
	read, others := 0, 0
	for range 20000 {
		x := anyBatch(rnd)
		x.Ops = x.Ops[:min(len(x.Ops), 2)]
		b, _ := batch.Put(x)
		for range rnd.Intn(4) {
			b[rnd.Intn(min(len(b), 30))] = []byte{0, 1, 2, 4, 5, 6, 8, byte(rnd.Intn(256))}[rnd.Intn(8)]
		}
		r := wire.Open(b)
		x = batch.Take(r)
		if r.Err() != api.OK {
			others++
			if !alike(x, batch.Batch{}) {
				t.Fatalf("%q: %v %d", b, x, r.Err())
			}
			continue
		}
		read++
		if again, e := batch.Put(x); string(again) != string(b[:len(b)-r.Left()]) || e != api.OK || !batch.Right(x) {
			t.Fatalf("%q: %v, whose bytes are %q %d", b, x, again, e)
		}
	}
	if read < 1000 || others < 1000 {
		t.Error("few were read, or few refused:", read, others)
	}
}

func TestP804Stamps(t *testing.T) {
	x := batch.Batch{Replica: 1, Seq: 1, Time: 5, Ops: []op.Op{made, marked}}
	if batch.Stamp(x, 0) != at(5, 1) || batch.Stamp(x, 1) != at(6, 1) || batch.Stamp(x, 2) != at(0, 0) || batch.End(x) != at(6, 1) {
		t.Error("two ops", batch.Stamp(x, 0), batch.Stamp(x, 1), batch.End(x))
	}
	rnd := rand.New(rand.NewSource(804))
	l := make([]batch.Batch, 300)
	for i := range l {
		l[i] = anyBatch(rnd)
	}
	for _, g := range good {
		l = append(l, g.x)
	}
	for _, x := range l {
		for i := range x.Ops {
			if s := batch.Stamp(x, i); s != at(x.Time+i, x.Replica) {
				t.Fatal(print(x), i, s)
			}
		}
		if s := batch.End(x); s != at(x.Time+len(x.Ops)-1, x.Replica) || s.Time > mostTime {
			t.Fatal(print(x), s)
		}
	}
}
