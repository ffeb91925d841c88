package edit_test

import (
	"fmt"
	"math"
	"slices"
	"strings"
	"sync"
	"testing"

	"diorama/api"
	"diorama/batch"
	"diorama/doc"
	"diorama/edit"
	"diorama/graph"
	"diorama/op"
	"diorama/value"
)

const (
	mostOps  = 64
	mostPath = 8
	mostKey  = 24
	mostTime = 1 << 40
)

func at(time, replica int) api.Stamp { return api.Stamp{Time: time, Replica: replica} }

var (
	root, trash = at(0, 0), at(0, 1)
	gone        = at(777, 7) // no test makes this one
	none        = api.Value{}
	yes         = api.Value{Kind: value.Flag, N: 1}
	no          = api.Value{Kind: value.Flag}
)

// kinds are all that there are, in their order.
var kinds = []int{edit.Create, edit.Move, edit.Delete, edit.Restore, edit.Set, edit.Mark, edit.Instance, edit.Override, edit.Swap, edit.Group, edit.Ungroup, edit.Duplicate, edit.Detach}

func whole(n int) api.Value { return api.Value{Kind: value.Int, N: n} }

func fixed(n int) api.Value { return api.Value{Kind: value.Fixed, N: n} }

func text(s string) api.Value { return api.Value{Kind: value.Text, T: s} }

func list(l ...api.Stamp) []api.Stamp { return l }

// draft writes a document, by ops that no editor has to write; each call is a batch of its own, of the replica 0.
type draft struct {
	t    *testing.T
	doc  *doc.Doc
	seq  int
	time int
}

func newDraft(t *testing.T) *draft { return &draft{t: t, doc: doc.New()} }

func (f *draft) do(l ...op.Op) api.Stamp {
	f.t.Helper()
	f.seq++
	x := batch.Batch{Replica: 0, Seq: f.seq, Time: f.time + 1, Ops: l}
	if n, e := f.doc.Apply(x); n != 1 || e != api.OK {
		f.t.Fatalf("Apply of %v: %d %d", x, n, e)
	}
	f.time += len(l)
	return at(x.Time, 0)
}

func (f *draft) create(p api.Stamp, key string) api.Stamp {
	f.t.Helper()
	return f.do(op.Op{Kind: op.Create, Ref: p, Key: key})
}

// many creates nodes below p with rising keys, and answers their stamps.
func (f *draft) many(p api.Stamp, count int) (all []api.Stamp) {
	f.t.Helper()
	for len(all) < count {
		var ops []op.Op
		for range min(mostOps, count-len(all)) {
			i := len(all)
			all = append(all, at(f.time+1+len(ops), 0))
			ops = append(ops, op.Op{Kind: op.Create, Ref: p, Key: string([]byte{byte(1 + i/200), byte(1 + i%200)})})
		}
		f.do(ops...)
	}
	return all
}

func (f *draft) move(n, p api.Stamp, key string) {
	f.t.Helper()
	f.do(op.Op{Kind: op.Move, Node: n, Ref: p, Key: key})
}

func (f *draft) set(n api.Stamp, prop int, v api.Value) {
	f.t.Helper()
	f.do(op.Op{Kind: op.Set, Node: n, Prop: prop, Value: v})
}

func (f *draft) lock(n api.Stamp) { f.t.Helper(); f.set(n, value.Locked, yes) }

func (f *draft) mark(n api.Stamp) {
	f.t.Helper()
	f.do(op.Op{Kind: op.Mark, Node: n, On: true})
}

// master creates a node that is marked.
func (f *draft) master(p api.Stamp, key string) api.Stamp {
	f.t.Helper()
	n := f.create(p, key)
	f.mark(n)
	return n
}

func (f *draft) point(n, master api.Stamp) {
	f.t.Helper()
	f.do(op.Op{Kind: op.Point, Node: n, Ref: master})
	if got, _ := f.doc.Ref(n); got != master {
		f.t.Fatalf("%v points to %v, not to %v", n, got, master)
	}
}

func (f *draft) instance(p api.Stamp, key string, master api.Stamp) api.Stamp {
	f.t.Helper()
	n := f.create(p, key)
	f.point(n, master)
	return n
}

func (f *draft) over(n api.Stamp, l []api.Stamp, prop int, v api.Value) {
	f.t.Helper()
	f.do(op.Op{Kind: op.Override, Node: n, Path: l, Prop: prop, Value: v})
}

// next is a stamp behind all of a document.
func next(d *doc.Doc) api.Stamp { return at(d.Time()+1, 9) }

func sameOps(a, b []op.Op) bool { return slices.EqualFunc(a, b, op.Same) }

// wants asks for just these ops, and that they are done; it answers the document with them.
func wants(t *testing.T, d *doc.Doc, c edit.Cmd, want ...op.Op) *doc.Doc {
	t.Helper()
	l, e := edit.Compile(d, next(d), c)
	if e != api.OK || !sameOps(l, want) {
		t.Fatalf("Compile of %v: %d\n%+v\nwant\n%+v", c, e, l, want)
	}
	return done(t, d, next(d), l)
}

// refuses asks for an error alone, and that the document stays.
func refuses(t *testing.T, d *doc.Doc, c edit.Cmd, want api.Errno) {
	t.Helper()
	before, digest := d.Clone(), d.Log().Digest()
	if l, e := edit.Compile(d, next(d), c); e != want || len(l) != 0 {
		t.Fatalf("Compile of %v: %d, want %d: %+v", c, e, want, l)
	}
	if !d.Same(before) || d.Log().Digest() != digest {
		t.Fatalf("Compile of %v changes the document", c)
	}
}

// done applies ops as a batch to a clone, and asks for each whether it was done.
func done(t *testing.T, d *doc.Doc, first api.Stamp, l []op.Op) *doc.Doc {
	t.Helper()
	other := d.Clone()
	x := batch.Batch{Replica: first.Replica, Seq: d.Vector()[first.Replica] + 1, Time: first.Time, Ops: l}
	if n, e := other.Apply(x); n != 1 || e != api.OK {
		t.Fatalf("Apply of %+v: %d %d", x, n, e)
	}
	g := graph.New()
	for _, y := range other.Log().Entries() {
		g.Insert(y.Stamp, y.Op)
	}
	for i, y := range l {
		s := at(first.Time+i, first.Replica)
		switch y.Kind {
		case op.Set:
			if other.Value(y.Node, y.Prop) != y.Value {
				t.Fatalf("not done: %+v", y)
			}
		case op.Mark:
			if other.Marked(y.Node) != y.On {
				t.Fatalf("not done: %+v", y)
			}
		case op.Override:
			if v, _ := other.Over(y.Node, y.Path, y.Prop); v != y.Value {
				t.Fatalf("not done: %+v", y)
			}
		default:
			if !g.Done(s) {
				t.Fatalf("passed over: %+v", y)
			}
			if spot, _ := other.Spot(s); y.Kind == op.Create && spot.Parent != y.Ref {
				t.Fatalf("created elsewhere: %+v", y)
			}
		}
	}
	return other
}

// row is the text of a row: its nodes' Times.
func row(d *doc.Doc, p api.Stamp) string {
	var l []string
	for _, x := range d.Row(p) {
		l = append(l, fmt.Sprint(x.Node.Time))
	}
	return strings.Join(l, " ")
}

func rowIs(t *testing.T, d *doc.Doc, p api.Stamp, want string) {
	t.Helper()
	if got := row(d, p); got != want {
		t.Fatalf("below %v stand %q, want %q", p, got, want)
	}
}

// high is a key behind which there is none, low one ahead of which there is none.
var high, low = strings.Repeat("\xff", mostKey), strings.Repeat("\x00", mostKey-1) + "\x01"

// unmade are documents that neither New nor Of made.
func unmade() map[string]*doc.Doc {
	return map[string]*doc.Doc{"nil": nil, "new": new(doc.Doc), "literal": {}, "clone": new(doc.Doc).Clone()}
}

// wrong are stamps that no node may have.
var wrong = []api.Stamp{
	{}, trash, at(0, 15), at(-1, 0), at(1, -1), at(1, 16), at(mostTime+1, 0), at(mostTime, 16), at(math.MinInt, math.MinInt), at(math.MaxInt, math.MaxInt), at(math.MaxInt, 0), at(1, math.MaxInt), at(1, 1<<32), at(1<<32+1, 1<<32),
}

var numbers = []int{math.MinInt, -1 << 32, -2, -1, 0, 1, 2, 9, 1 << 32, 1<<32 + 1, math.MaxInt}

// scene: below the root a page, 1@0, with the rows 2@0 3@0 4@0; 3@0 has 5@0 and 6@0; 7@0 is a master with 8@0, of which 10@0 is an instance; 12@0 is locked, with 13@0; 15@0 is in the trash, with 16@0.
func scene(t *testing.T) *draft {
	f := newDraft(t)
	page := f.create(root, "\x80")
	f.create(page, "\x40")
	group := f.create(page, "\x80")
	f.create(page, "\xc0")
	f.create(group, "a")
	f.create(group, "b")
	master := f.create(root, "\xa0")
	f.create(master, "\x80")
	f.mark(master)
	f.instance(root, "\xc0", master)
	locked := f.create(root, "\xd0")
	f.create(locked, "\x80")
	f.lock(locked)
	thrown := f.create(trash, "\x80")
	f.create(thrown, "\x80")
	return f
}

// commands are one of each kind that can be done in a scene.
func commands() []edit.Cmd {
	return []edit.Cmd{
		{Kind: edit.Create, Ref: at(1, 0), At: 1},
		{Kind: edit.Move, Node: at(5, 0), Ref: at(1, 0), At: 1},
		{Kind: edit.Delete, Node: at(5, 0)},
		{Kind: edit.Restore, Node: at(15, 0), Ref: at(1, 0), At: 3},
		{Kind: edit.Set, Node: at(5, 0), Prop: value.Name, Value: text("x")},
		{Kind: edit.Mark, Node: at(5, 0), On: true},
		{Kind: edit.Instance, Node: at(1, 0), Ref: at(7, 0), At: 2},
		{Kind: edit.Override, Node: at(10, 0), List: list(at(8, 0)), Prop: value.Fill, Value: whole(3)},
		{Kind: edit.Swap, Node: at(10, 0), Ref: at(7, 0)},
		{Kind: edit.Group, List: list(at(4, 0), at(2, 0))},
		{Kind: edit.Ungroup, Node: at(3, 0)},
		{Kind: edit.Duplicate, Node: at(3, 0)},
		{Kind: edit.Detach, Node: at(10, 0)},
	}
}

func TestP1601KindsAreAsTheChapterSays(t *testing.T) {
	for i, kind := range kinds {
		if kind != i+1 {
			t.Error(kind, "want", i+1)
		}
	}
	d := scene(t).doc
	for _, c := range commands() {
		if l, e := edit.Compile(d, next(d), c); e != api.OK || len(l) == 0 {
			t.Error(c, e, l)
		}
	}
}

func TestP1601AnyArguments(t *testing.T) {
	f := scene(t)
	before, digest := f.doc.Clone(), f.doc.Log().Digest()
	nodes := append(list(at(1, 0), at(3, 0), at(7, 0), at(10, 0), at(12, 0), at(15, 0), gone), wrong...)
	lists := [][]api.Stamp{nil, {}, {root}, {trash}, {at(2, 0), at(4, 0)}, {at(2, 0), root}, wrong, nodes, slices.Repeat(nodes, 1000)}
	values := []api.Value{none, yes, text("a"), fixed(1), {Kind: -1}, {Kind: math.MaxInt, N: math.MinInt, T: strings.Repeat("x", 100)}, {N: 1}, {T: "a"}}
	for _, kind := range append(slices.Clone(numbers), kinds...) {
		for i, n := range nodes {
			for j, m := range nodes {
				for k, number := range numbers {
					c := edit.Cmd{Kind: kind, Node: n, Ref: m, At: number, Prop: numbers[(i+k)%len(numbers)], Value: values[(j+k)%len(values)], On: i%2 == 0, List: lists[(i+j+k)%len(lists)]}
					l, e := edit.Compile(f.doc, next(f.doc), c)
					if e != api.OK && len(l) != 0 || e == api.OK && (len(l) == 0 || len(l) > mostOps || slices.ContainsFunc(l, func(x op.Op) bool { return !op.Right(x) })) {
						t.Fatal(c, e, l)
					}
				}
			}
		}
	}
	if !f.doc.Same(before) || f.doc.Log().Digest() != digest || f.doc.Vector() != before.Vector() {
		t.Fatal("the document was changed")
	}
}

func TestP1601ArgumentsStay(t *testing.T) {
	f := scene(t)
	room := list(at(4, 0), at(2, 0), at(88, 0), at(99, 0))
	kept := slices.Clone(room)
	before, digest := f.doc.Clone(), f.doc.Log().Digest()
	for _, c := range commands() {
		for end := range len(room) + 1 {
			c.List = room[:end]
			edit.Compile(f.doc, next(f.doc), c)
			if !slices.Equal(room, kept) {
				t.Fatal("a list, or the room behind it, was changed")
			}
		}
	}
	if !f.doc.Same(before) || f.doc.Log().Digest() != digest || f.doc.Vector() != before.Vector() {
		t.Fatal("the document was changed")
	}
}

// scribble writes over ops, and over all the room behind them and behind their paths.
func scribble(l []op.Op) {
	l = l[:cap(l)]
	for i := range l {
		p := l[i].Path[:cap(l[i].Path)]
		for j := range p {
			p[j] = at(66, 6)
		}
		l[i] = op.Op{Kind: -1, Key: "scribbled"}
	}
}

func TestP1601AnswersAreNew(t *testing.T) {
	f := scene(t)
	for _, c := range commands() {
		first := next(f.doc)
		room := append(slices.Clone(c.List), at(88, 0), at(99, 0))
		kept := slices.Clone(room)
		if len(c.List) > 0 {
			c.List = room[:len(c.List)]
		}
		one, _ := edit.Compile(f.doc, first, c)
		two, _ := edit.Compile(f.doc, first, c)
		before := f.doc.Clone()
		scribble(one)
		if !slices.Equal(room, kept) {
			t.Fatal("an answer shares memory with the list that was handed in", c)
		}
		three, _ := edit.Compile(f.doc, first, c)
		if !sameOps(two, three) || !f.doc.Same(before) {
			t.Fatal("an answer shares memory with another one, or with the document", c)
		}
		room[0] = at(55, 5)
		if !sameOps(two, three) || slices.ContainsFunc(two, func(x op.Op) bool { return slices.Contains(x.Path, at(55, 5)) }) {
			t.Fatal("the list that was handed in is kept", c)
		}
	}
}

// Compile is pure: several may ask one document at once, also where nobody looked at it before.
func TestP1601LooksAtOnce(t *testing.T) {
	f := scene(t)
	var want [][]op.Op
	for _, c := range commands() {
		l, _ := edit.Compile(f.doc, next(f.doc), c)
		want = append(want, l)
	}
	for range 10 {
		d := doc.Of(f.doc.Log().Since([api.MaxReplicas]int{}, 512)...)
		var all sync.WaitGroup
		start := make(chan struct{})
		for range 8 {
			all.Add(1)
			go func() {
				defer all.Done()
				<-start
				for i, c := range commands() {
					if l, e := edit.Compile(d, at(f.time+1, 9), c); e != api.OK || !sameOps(l, want[i]) {
						t.Error(c, e, l)
					}
				}
			}()
		}
		close(start)
		all.Wait()
	}
}

func TestP1601SameStepsSameAnswers(t *testing.T) {
	for _, c := range commands() {
		first := scene(t).doc
		want, _ := edit.Compile(first, next(first), c)
		for range 20 {
			d := scene(t).doc
			if l, e := edit.Compile(d, next(d), c); e != api.OK || !sameOps(l, want) {
				t.Fatal("the same steps have other answers", c, e, l)
			}
		}
	}
}

func TestP1602Example(t *testing.T) {
	wants(t, doc.New(), edit.Cmd{Kind: edit.Create}, op.Op{Kind: op.Create, Key: "\x80"})
}

func TestP1602ErrArgOfNoDocument(t *testing.T) {
	for name, d := range unmade() {
		for _, c := range append(commands(), edit.Cmd{}, edit.Cmd{Kind: 14}) {
			if l, e := edit.Compile(d, at(100, 0), c); e != api.ErrArg || len(l) != 0 {
				t.Error(name, c, e, l)
			}
		}
	}
}

func TestP1602ErrArgOfFirst(t *testing.T) {
	d := scene(t).doc
	for _, c := range append(commands(), edit.Cmd{Kind: edit.Delete, Node: gone}, edit.Cmd{Kind: edit.Delete, Node: at(12, 0)}) {
		for _, first := range wrong {
			if l, e := edit.Compile(d, first, c); e != api.ErrArg || len(l) != 0 {
				t.Error(first, c, e, l)
			}
		}
	}
	for _, first := range list(at(1, 0), at(1, 15), at(mostTime, 0), at(mostTime, 15)) {
		if _, e := edit.Compile(doc.New(), first, edit.Cmd{Kind: edit.Create}); e != api.OK {
			t.Error(first, e)
		}
	}
}

func TestP1602ErrArgOfKind(t *testing.T) {
	d := scene(t).doc
	for _, c := range commands() {
		for _, kind := range []int{math.MinInt, -1, 0, 14, 15, 1 << 32, 1<<32 + 1, math.MaxInt} {
			c.Kind = kind
			refuses(t, d, c, api.ErrArg)
		}
	}
}

// What is not named by a kind does not matter to it.
func TestP1602OtherFieldsDoNotMatter(t *testing.T) {
	d := scene(t).doc
	for _, c := range commands() {
		want, _ := edit.Compile(d, next(d), c)
		for _, junk := range []edit.Cmd{{Node: gone, Ref: gone, At: -1, Prop: -1, Value: api.Value{Kind: 9}, On: true, List: list(gone, gone)}, {}} {
			x := junk
			x.Kind = c.Kind
			switch c.Kind {
			case edit.Create:
				x.Ref, x.At = c.Ref, c.At
			case edit.Move, edit.Restore, edit.Instance:
				x.Node, x.Ref, x.At = c.Node, c.Ref, c.At
			case edit.Set:
				x.Node, x.Prop, x.Value = c.Node, c.Prop, c.Value
			case edit.Mark:
				x.Node, x.On = c.Node, c.On
			case edit.Override:
				x.Node, x.List, x.Prop, x.Value = c.Node, c.List, c.Prop, c.Value
			case edit.Swap:
				x.Node, x.Ref = c.Node, c.Ref
			case edit.Group:
				x.List = c.List
			default:
				x.Node = c.Node
			}
			if l, e := edit.Compile(d, next(d), x); e != api.OK || !sameOps(l, want) {
				t.Error(x, e, l, want)
			}
		}
	}
}

func TestP1602Create(t *testing.T) {
	f := newDraft(t)
	page := f.create(root, "\x80")
	create := func(p api.Stamp, i int) edit.Cmd { return edit.Cmd{Kind: edit.Create, Ref: p, At: i} }
	for i, key := range map[int]string{0: "\x40", 1: "\xc0"} {
		d := wants(t, f.doc, create(root, i), op.Op{Kind: op.Create, Key: key})
		if got := d.Row(root)[i].Node; got != next(f.doc) {
			t.Error(i, got)
		}
	}
	wants(t, f.doc, create(page, 0), op.Op{Kind: op.Create, Ref: page, Key: "\x80"})
	behind := f.create(root, "\xc0")
	wants(t, f.doc, create(root, 1), op.Op{Kind: op.Create, Key: "\xa0"})
	wants(t, f.doc, create(root, 2), op.Op{Kind: op.Create, Key: "\xe0"})
	for _, i := range []int{math.MinInt, -1, 3, 1 << 32, math.MaxInt} {
		refuses(t, f.doc, create(root, i), api.ErrArg)
	}
	for _, p := range append(list(gone), wrong[1:]...) {
		refuses(t, f.doc, create(p, 0), api.ErrNone)
		refuses(t, f.doc, create(p, -1), api.ErrNone)
	}
	within := f.create(behind, "a")
	f.move(behind, trash, "a")
	refuses(t, f.doc, create(behind, 0), api.ErrNone)
	refuses(t, f.doc, create(within, 0), api.ErrNone)
	f.lock(behind) // also what is locked is none, if it is not Alive
	refuses(t, f.doc, create(within, 0), api.ErrNone)
	inner := f.create(page, "a")
	f.lock(page)
	for _, p := range list(page, inner) {
		refuses(t, f.doc, create(p, 0), api.ErrLock)
		refuses(t, f.doc, create(p, -1), api.ErrLock)
	}
	wants(t, f.doc, create(root, 0), op.Op{Kind: op.Create, Key: "\x40"})
	f.set(page, value.Locked, no)
	wants(t, f.doc, create(inner, 0), op.Op{Kind: op.Create, Ref: inner, Key: "\x80"})
}

func TestP1602CreateErrKey(t *testing.T) {
	f := newDraft(t)
	for _, key := range []string{low, "a", "a", "b", high} {
		f.create(root, key)
	}
	for i, want := range []api.Errno{api.ErrKey, api.OK, api.ErrKey, api.OK, api.OK, api.ErrKey} {
		c := edit.Cmd{Kind: edit.Create, At: i}
		if l, e := edit.Compile(f.doc, next(f.doc), c); e != want || (e == api.OK) != (len(l) == 1) {
			t.Error(i, e, l)
		}
	}
}

func TestP1602Move(t *testing.T) {
	f := scene(t)
	move := func(n, p api.Stamp, i int) edit.Cmd { return edit.Cmd{Kind: edit.Move, Node: n, Ref: p, At: i} }
	moved := func(n, p api.Stamp, key string) op.Op { return op.Op{Kind: op.Move, Node: n, Ref: p, Key: key} }
	page, a, b, c := at(1, 0), at(2, 0), at(3, 0), at(4, 0)
	// In its own row a node does not count.
	rowIs(t, wants(t, f.doc, move(b, page, 0), moved(b, page, "\x20")), page, "3 2 4")
	rowIs(t, wants(t, f.doc, move(b, page, 1), moved(b, page, "\x80")), page, "2 3 4")
	rowIs(t, wants(t, f.doc, move(b, page, 2), moved(b, page, "\xe0")), page, "2 4 3")
	rowIs(t, wants(t, f.doc, move(a, page, 0), moved(a, page, "\x40")), page, "2 3 4")
	rowIs(t, wants(t, f.doc, move(a, page, 2), moved(a, page, "\xe0")), page, "3 4 2")
	refuses(t, f.doc, move(b, page, 3), api.ErrArg)
	// In another one's all count.
	rowIs(t, wants(t, f.doc, move(c, b, 2), moved(c, b, "\xb1")), b, "5 6 4")
	refuses(t, f.doc, move(c, b, 3), api.ErrArg)
	refuses(t, f.doc, move(c, b, -1), api.ErrArg)
	wants(t, f.doc, move(at(5, 0), root, 0), moved(at(5, 0), root, "\x40"))
	// The node comes ahead of the place, the place ahead of a ring, and a ring ahead of the spot.
	for _, n := range append(list(gone, at(15, 0), at(16, 0)), wrong...) {
		refuses(t, f.doc, move(n, at(12, 0), 0), api.ErrNone)
	}
	refuses(t, f.doc, move(at(12, 0), gone, 0), api.ErrLock)
	refuses(t, f.doc, move(at(13, 0), gone, 0), api.ErrLock)
	for _, p := range append(list(gone, at(15, 0), at(16, 0)), wrong[1:]...) {
		refuses(t, f.doc, move(a, p, -1), api.ErrNone)
	}
	refuses(t, f.doc, move(a, at(12, 0), -1), api.ErrLock)
	refuses(t, f.doc, move(a, at(13, 0), -1), api.ErrLock)
	for _, p := range list(page, b, at(5, 0)) {
		refuses(t, f.doc, move(page, p, 0), api.ErrCycle)
		refuses(t, f.doc, move(page, p, -1), api.ErrCycle)
	}
}

func TestP1602MoveErrCycleThroughMasters(t *testing.T) {
	f := scene(t)
	master, within, one := at(7, 0), at(8, 0), at(10, 0)
	move := func(n, p api.Stamp) edit.Cmd { return edit.Cmd{Kind: edit.Move, Node: n, Ref: p} }
	refuses(t, f.doc, move(one, master), api.ErrCycle) // steps down: one, its master
	refuses(t, f.doc, move(one, within), api.ErrCycle)
	refuses(t, f.doc, move(master, one), api.ErrCycle) // steps up: one, its master
	below := f.create(one, "a")
	refuses(t, f.doc, move(master, below), api.ErrCycle)
	outer := f.create(root, "a")
	f.move(one, outer, "a")
	refuses(t, f.doc, move(outer, within), api.ErrCycle)
	refuses(t, f.doc, move(master, below), api.ErrCycle)
	// Into what an instance stands in, aside of it, a master may go; and what an instance has of its own anywhere.
	wants(t, f.doc, move(master, outer), op.Op{Kind: op.Move, Node: master, Ref: outer, Key: "\x30"})
	wants(t, f.doc, move(below, master), op.Op{Kind: op.Move, Node: below, Ref: master, Key: "\x40"})
	// Through a master of a master, too.
	second := f.master(root, "b")
	f.move(outer, second, "a")
	other := f.instance(root, "c", second)
	refuses(t, f.doc, move(other, within), api.ErrCycle)
	refuses(t, f.doc, move(second, other), api.ErrCycle)
	refuses(t, f.doc, move(second, within), api.ErrCycle)
	wants(t, f.doc, move(within, other), op.Op{Kind: op.Move, Node: within, Ref: other, Key: "\x80"})
}

func TestP1602MoveErrKey(t *testing.T) {
	f := newDraft(t)
	a, b, c := f.create(root, "a"), f.create(root, "a"), f.create(root, "a")
	d := wants(t, f.doc, edit.Cmd{Kind: edit.Move, Node: b, At: 2}, op.Op{Kind: op.Move, Node: b, Key: "\xb0"})
	rowIs(t, d, root, "1 3 2")
	refuses(t, f.doc, edit.Cmd{Kind: edit.Move, Node: b, At: 1}, api.ErrKey) // between both others
	f.move(c, a, "a")
	wants(t, f.doc, edit.Cmd{Kind: edit.Move, Node: b, At: 1}, op.Op{Kind: op.Move, Node: b, Key: "\xb0"})
	wants(t, f.doc, edit.Cmd{Kind: edit.Move, Node: b, At: 0}, op.Op{Kind: op.Move, Node: b, Key: "\x30"})
	refuses(t, f.doc, edit.Cmd{Kind: edit.Move, Node: c, At: 1}, api.ErrKey)
	f.move(a, root, high)
	refuses(t, f.doc, edit.Cmd{Kind: edit.Move, Node: b, At: 1}, api.ErrKey)
}

func TestP1602Delete(t *testing.T) {
	f := scene(t)
	throw := func(n api.Stamp) edit.Cmd { return edit.Cmd{Kind: edit.Delete, Node: n} }
	thrown := func(n api.Stamp, key string) op.Op { return op.Op{Kind: op.Move, Node: n, Ref: trash, Key: key} }
	d := wants(t, f.doc, throw(at(3, 0)), thrown(at(3, 0), "\xc0"))
	rowIs(t, d, trash, "15 3")
	rowIs(t, d, at(3, 0), "5 6")
	wants(t, f.doc, throw(at(7, 0)), thrown(at(7, 0), "\xc0")) // a master with an instance
	wants(t, f.doc, throw(at(10, 0)), thrown(at(10, 0), "\xc0"))
	for _, n := range append(list(gone, at(15, 0), at(16, 0)), wrong...) {
		refuses(t, f.doc, throw(n), api.ErrNone)
	}
	refuses(t, f.doc, throw(at(12, 0)), api.ErrLock)
	refuses(t, f.doc, throw(at(13, 0)), api.ErrLock)
	f.lock(at(15, 0))
	f.lock(at(5, 0))
	wants(t, f.doc, throw(at(3, 0)), thrown(at(3, 0), "\xc0")) // with what is locked below it
	refuses(t, f.doc, throw(at(15, 0)), api.ErrNone)
	f.move(at(15, 0), trash, high)
	refuses(t, f.doc, throw(at(3, 0)), api.ErrKey)
	refuses(t, f.doc, throw(at(12, 0)), api.ErrLock)
	f.move(at(15, 0), root, "\x80")
	wants(t, f.doc, throw(at(3, 0)), thrown(at(3, 0), "\x80")) // of an empty trash
}

func TestP1602Restore(t *testing.T) {
	f := scene(t)
	restore := func(n, p api.Stamp, i int) edit.Cmd { return edit.Cmd{Kind: edit.Restore, Node: n, Ref: p, At: i} }
	moved := func(n, p api.Stamp, key string) op.Op { return op.Op{Kind: op.Move, Node: n, Ref: p, Key: key} }
	thrown, within, page := at(15, 0), at(16, 0), at(1, 0)
	d := wants(t, f.doc, restore(thrown, page, 3), moved(thrown, page, "\xe0"))
	rowIs(t, d, page, "2 3 4 15")
	if !d.Alive(within) {
		t.Error("what is below it is not Alive")
	}
	wants(t, f.doc, restore(thrown, root, 0), moved(thrown, root, "\x40"))
	wants(t, f.doc, restore(thrown, page, 1), moved(thrown, page, "\x60"))
	for _, n := range append(list(gone), wrong[2:]...) {
		refuses(t, f.doc, restore(n, gone, 0), api.ErrNone)
	}
	for _, n := range list(page, at(5, 0), within, at(12, 0), at(13, 0)) {
		refuses(t, f.doc, restore(n, gone, 0), api.ErrKind)
	}
	for _, n := range list(root, trash) {
		if l, e := edit.Compile(f.doc, next(f.doc), restore(n, page, 0)); e == api.OK || len(l) != 0 {
			t.Error(n, e, l)
		}
	}
	// Then as a Move.
	for _, p := range append(list(gone, thrown, within), wrong[1:]...) {
		refuses(t, f.doc, restore(thrown, p, -1), api.ErrNone)
	}
	refuses(t, f.doc, restore(thrown, at(12, 0), -1), api.ErrLock)
	refuses(t, f.doc, restore(thrown, at(13, 0), -1), api.ErrLock)
	refuses(t, f.doc, restore(thrown, page, -1), api.ErrArg)
	refuses(t, f.doc, restore(thrown, page, 4), api.ErrArg)
	// Its own lock alone can lock it, since nothing that has one is above it.
	f.lock(within)
	wants(t, f.doc, restore(thrown, page, 0), moved(thrown, page, "\x20"))
	f.lock(thrown)
	refuses(t, f.doc, restore(thrown, gone, -1), api.ErrLock)
	refuses(t, f.doc, restore(thrown, page, 0), api.ErrLock)
	refuses(t, f.doc, restore(within, page, 0), api.ErrKind)
}

func TestP1602RestoreErrCycle(t *testing.T) {
	f := scene(t)
	restore := func(n, p api.Stamp, i int) edit.Cmd { return edit.Cmd{Kind: edit.Restore, Node: n, Ref: p, At: i} }
	master, one := at(7, 0), at(10, 0)
	f.move(master, trash, "a")
	refuses(t, f.doc, restore(master, one, 0), api.ErrCycle)
	refuses(t, f.doc, restore(master, one, -1), api.ErrCycle)
	wants(t, f.doc, restore(master, at(1, 0), 0), op.Op{Kind: op.Move, Node: master, Ref: at(1, 0), Key: "\x20"})
	f.move(master, root, "a")
	f.move(one, trash, "b")
	refuses(t, f.doc, restore(one, master, 0), api.ErrCycle)
	refuses(t, f.doc, restore(one, at(8, 0), -1), api.ErrCycle)
	wants(t, f.doc, restore(one, at(1, 0), 0), op.Op{Kind: op.Move, Node: one, Ref: at(1, 0), Key: "\x20"})
	f.move(master, trash, high)
	wants(t, f.doc, restore(one, at(1, 0), 3), op.Op{Kind: op.Move, Node: one, Ref: at(1, 0), Key: "\xe0"})
	f.move(at(4, 0), at(1, 0), high)
	refuses(t, f.doc, restore(one, at(1, 0), 3), api.ErrKey)
}

func TestP1602Set(t *testing.T) {
	f := scene(t)
	set := func(n api.Stamp, prop int, v api.Value) edit.Cmd {
		return edit.Cmd{Kind: edit.Set, Node: n, Prop: prop, Value: v}
	}
	n := at(5, 0)
	good := []api.Value{yes, no, text("a b"), fixed(-1), fixed(0), fixed(1 << 40), fixed(7), whole(-1 << 40)}
	for i, v := range good {
		for _, v := range []api.Value{v, none} {
			d := wants(t, f.doc, set(n, i+1, v), op.Op{Kind: op.Set, Node: n, Prop: i + 1, Value: v})
			if got := d.Value(n, i+1); got != v {
				t.Error(i+1, got, v)
			}
		}
	}
	bad := []edit.Cmd{
		set(n, 0, none), set(n, 9, none), set(n, -1, none), set(n, math.MaxInt, whole(1)), set(n, 1<<32+1, yes),
		set(n, value.Fill, fixed(1)), set(n, value.Fill, whole(1<<40+1)), set(n, value.Locked, whole(1)), set(n, value.Locked, api.Value{Kind: value.Flag, N: 2}),
		set(n, value.Name, text("\n")), set(n, value.Name, text(strings.Repeat("x", 65))), set(n, value.X, whole(1)), set(n, value.Hidden, text("")), set(n, value.Fill, api.Value{Kind: 5}),
	}
	for _, c := range bad {
		refuses(t, f.doc, c, api.ErrArg)
		c.Node = gone
		refuses(t, f.doc, c, api.ErrArg)
		c.Node = at(12, 0)
		refuses(t, f.doc, c, api.ErrArg)
	}
	for i, v := range good {
		for _, n := range append(list(gone, at(15, 0), at(16, 0)), wrong...) {
			refuses(t, f.doc, set(n, i+1, v), api.ErrNone)
		}
		refuses(t, f.doc, set(at(13, 0), i+1, v), api.ErrLock)
		if i+1 != value.Locked {
			refuses(t, f.doc, set(at(12, 0), i+1, v), api.ErrLock)
		}
	}
}

// Of Locked it is the Parent that is to be at hand: what is locked itself can be unlocked.
func TestP1602SetLocked(t *testing.T) {
	f := scene(t)
	set := func(n api.Stamp, v api.Value) edit.Cmd {
		return edit.Cmd{Kind: edit.Set, Node: n, Prop: value.Locked, Value: v}
	}
	locked, within := at(12, 0), at(13, 0)
	for _, v := range []api.Value{yes, no, none} {
		d := wants(t, f.doc, set(locked, v), op.Op{Kind: op.Set, Node: locked, Prop: value.Locked, Value: v})
		if d.Locked(within) != (v == yes) {
			t.Error(v)
		}
		refuses(t, f.doc, set(within, v), api.ErrLock)
	}
	f.lock(within)
	deep := f.create(within, "a")
	refuses(t, f.doc, set(within, no), api.ErrLock)
	refuses(t, f.doc, set(deep, no), api.ErrLock)
	f.set(locked, value.Locked, no)
	wants(t, f.doc, set(within, no), op.Op{Kind: op.Set, Node: within, Prop: value.Locked, Value: no})
	refuses(t, f.doc, set(deep, yes), api.ErrLock)
	// Two steps up there is a lock, none between.
	f.set(within, value.Locked, no)
	f.lock(locked)
	refuses(t, f.doc, set(deep, yes), api.ErrLock)
	f.lock(at(15, 0))
	refuses(t, f.doc, set(at(15, 0), no), api.ErrNone)
	refuses(t, f.doc, set(at(16, 0), no), api.ErrNone)
}

func TestP1602Mark(t *testing.T) {
	f := scene(t)
	for _, on := range []bool{true, false} {
		for _, n := range list(at(5, 0), at(7, 0), at(10, 0)) {
			d := wants(t, f.doc, edit.Cmd{Kind: edit.Mark, Node: n, On: on}, op.Op{Kind: op.Mark, Node: n, On: on})
			if d.Marked(n) != on {
				t.Error(n, on)
			}
		}
		for _, n := range append(list(gone, at(15, 0), at(16, 0)), wrong...) {
			refuses(t, f.doc, edit.Cmd{Kind: edit.Mark, Node: n, On: on}, api.ErrNone)
		}
		refuses(t, f.doc, edit.Cmd{Kind: edit.Mark, Node: at(12, 0), On: on}, api.ErrLock)
		refuses(t, f.doc, edit.Cmd{Kind: edit.Mark, Node: at(13, 0), On: on}, api.ErrLock)
	}
}

func TestP1602Instance(t *testing.T) {
	f := scene(t)
	instance := func(p, master api.Stamp, i int) edit.Cmd {
		return edit.Cmd{Kind: edit.Instance, Node: p, Ref: master, At: i}
	}
	page, master, within := at(1, 0), at(7, 0), at(8, 0)
	made := func(p, master api.Stamp, key string) []op.Op {
		return []op.Op{{Kind: op.Create, Ref: p, Key: key}, {Kind: op.Point, Node: next(f.doc), Ref: master}}
	}
	d := wants(t, f.doc, instance(page, master, 1), made(page, master, "\x60")...)
	if got, _ := d.Ref(next(f.doc)); got != master {
		t.Error(got)
	}
	rowIs(t, d, page, fmt.Sprintf("2 %d 3 4", next(f.doc).Time))
	wants(t, f.doc, instance(root, master, 0), made(root, master, "\x40")...)
	wants(t, f.doc, instance(at(10, 0), master, 0), made(at(10, 0), master, "\x80")...) // below an instance
	// The place comes ahead of the master, that ahead of a ring, a ring ahead of the spot.
	for _, p := range append(list(gone, at(15, 0), at(16, 0)), wrong[1:]...) {
		refuses(t, f.doc, instance(p, page, -1), api.ErrNone)
	}
	refuses(t, f.doc, instance(at(12, 0), gone, -1), api.ErrLock)
	refuses(t, f.doc, instance(at(13, 0), page, -1), api.ErrLock)
	for _, m := range append(list(gone, at(15, 0), at(16, 0)), wrong...) {
		refuses(t, f.doc, instance(page, m, -1), api.ErrNone)
	}
	refuses(t, f.doc, instance(page, within, -1), api.ErrKind)
	refuses(t, f.doc, instance(page, page, -1), api.ErrKind)
	refuses(t, f.doc, instance(master, master, -1), api.ErrCycle)
	refuses(t, f.doc, instance(within, master, 0), api.ErrCycle)
	refuses(t, f.doc, instance(page, master, -1), api.ErrArg)
	refuses(t, f.doc, instance(page, master, 4), api.ErrArg)
	// A master may be locked, also by what is above it; a dead one is none, though it is marked.
	f.lock(master)
	wants(t, f.doc, instance(page, master, 0), made(page, master, "\x20")...)
	f.mark(at(13, 0))
	wants(t, f.doc, instance(page, at(13, 0), 0), made(page, at(13, 0), "\x20")...)
	f.mark(at(15, 0))
	refuses(t, f.doc, instance(page, at(15, 0), 0), api.ErrNone)
	f.move(at(4, 0), page, "\x80")
	refuses(t, f.doc, instance(page, master, 2), api.ErrKey)
}

func TestP1602InstanceErrCycleThroughMasters(t *testing.T) {
	f := scene(t)
	master, within := at(7, 0), at(8, 0)
	second := f.master(root, "b")
	place := f.create(second, "a")
	one := f.instance(master, "a", second) // steps down: master, one, second, place
	refuses(t, f.doc, edit.Cmd{Kind: edit.Instance, Node: place, Ref: master}, api.ErrCycle)
	refuses(t, f.doc, edit.Cmd{Kind: edit.Instance, Node: second, Ref: master}, api.ErrCycle)
	refuses(t, f.doc, edit.Cmd{Kind: edit.Instance, Node: one, Ref: master}, api.ErrCycle)
	// The other way there are steps up alone.
	first := next(f.doc)
	wants(t, f.doc, edit.Cmd{Kind: edit.Instance, Node: within, Ref: second}, op.Op{Kind: op.Create, Ref: within, Key: "\x80"}, op.Op{Kind: op.Point, Node: first, Ref: second})
	wants(t, f.doc, edit.Cmd{Kind: edit.Instance, Node: at(10, 0), Ref: master}, op.Op{Kind: op.Create, Ref: at(10, 0), Key: "\x80"}, op.Op{Kind: op.Point, Node: first, Ref: master})
}

func TestP1602Override(t *testing.T) {
	f := scene(t)
	one := at(10, 0)
	override := func(n api.Stamp, l []api.Stamp, prop int, v api.Value) edit.Cmd {
		return edit.Cmd{Kind: edit.Override, Node: n, List: l, Prop: prop, Value: v}
	}
	paths := [][]api.Stamp{
		list(at(8, 0)), list(at(8, 0), at(8, 0)), list(one), list(at(15, 0), at(16, 0)), list(at(12, 0)), // in the trash, or locked
		slices.Repeat(list(at(8, 0)), mostPath), list(at(1, 0), at(2, 0), at(3, 0), at(4, 0), at(5, 0), at(6, 0), at(7, 0), at(8, 0)),
	}
	for _, l := range paths {
		for i, v := range []api.Value{yes, no, text("a"), fixed(1), fixed(2), fixed(3), fixed(4), whole(5)} {
			for _, v := range []api.Value{v, none} {
				wants(t, f.doc, override(one, l, i+1, v), op.Op{Kind: op.Override, Node: one, Path: l, Prop: i + 1, Value: v})
			}
		}
	}
	long := slices.Repeat(list(at(8, 0)), mostPath+1)
	for _, n := range list(one, at(5, 0), at(12, 0), gone, root) {
		for _, l := range [][]api.Stamp{nil, {}, long, slices.Repeat(long, 10000), slices.Repeat(list(gone), mostPath+1)} {
			refuses(t, f.doc, override(n, l, value.Fill, whole(1)), api.ErrArg)
		}
		refuses(t, f.doc, override(n, list(at(8, 0)), value.Fill, fixed(1)), api.ErrArg)
		refuses(t, f.doc, override(n, list(gone), 0, none), api.ErrArg)
		refuses(t, f.doc, override(n, list(gone), 9, none), api.ErrArg)
	}
	// The node, then whether it is an instance, then the list.
	for _, n := range append(list(gone, at(15, 0), at(16, 0)), wrong...) {
		refuses(t, f.doc, override(n, list(gone), value.Fill, none), api.ErrNone)
	}
	refuses(t, f.doc, override(at(12, 0), list(gone), value.Fill, none), api.ErrLock)
	refuses(t, f.doc, override(at(13, 0), list(gone), value.Fill, none), api.ErrLock)
	refuses(t, f.doc, override(at(7, 0), list(gone), value.Fill, none), api.ErrKind)
	refuses(t, f.doc, override(at(5, 0), list(at(8, 0)), value.Fill, none), api.ErrKind)
	for _, n := range append(list(gone), wrong...) { // the root and the trash are no nodes
		refuses(t, f.doc, override(one, list(n), value.Fill, none), api.ErrNone)
		refuses(t, f.doc, override(one, list(at(8, 0), n), value.Fill, none), api.ErrNone)
		refuses(t, f.doc, override(one, list(n, at(8, 0)), value.Fill, none), api.ErrNone)
	}
	f.lock(one)
	refuses(t, f.doc, override(one, list(gone), value.Fill, none), api.ErrLock)
}

func TestP1602Swap(t *testing.T) {
	f := scene(t)
	one, master := at(10, 0), at(7, 0)
	second := f.master(root, "a")
	swap := func(n, m api.Stamp) edit.Cmd { return edit.Cmd{Kind: edit.Swap, Node: n, Ref: m} }
	pointed := func(n, m api.Stamp) op.Op { return op.Op{Kind: op.Point, Node: n, Ref: m} }
	d := wants(t, f.doc, swap(one, second), pointed(one, second))
	if got, _ := d.Ref(one); got != second {
		t.Error(got)
	}
	wants(t, f.doc, swap(one, master), pointed(one, master))
	for _, n := range append(list(gone, at(15, 0), at(16, 0)), wrong...) {
		refuses(t, f.doc, swap(n, gone), api.ErrNone)
	}
	refuses(t, f.doc, swap(at(12, 0), gone), api.ErrLock)
	refuses(t, f.doc, swap(at(13, 0), gone), api.ErrLock)
	refuses(t, f.doc, swap(at(5, 0), gone), api.ErrKind)
	refuses(t, f.doc, swap(master, master), api.ErrKind)
	for _, m := range append(list(gone, at(15, 0), at(16, 0)), wrong...) {
		refuses(t, f.doc, swap(one, m), api.ErrNone)
	}
	refuses(t, f.doc, swap(one, at(8, 0)), api.ErrKind)
	refuses(t, f.doc, swap(one, one), api.ErrKind)
	f.lock(second)
	wants(t, f.doc, swap(one, second), pointed(one, second))
	f.mark(at(15, 0))
	refuses(t, f.doc, swap(one, at(15, 0)), api.ErrNone)
	f.lock(one)
	refuses(t, f.doc, swap(one, gone), api.ErrLock)
}

func TestP1602SwapErrCycle(t *testing.T) {
	f := scene(t)
	one, master := at(10, 0), at(7, 0)
	swap := func(n, m api.Stamp) edit.Cmd { return edit.Cmd{Kind: edit.Swap, Node: n, Ref: m} }
	f.mark(one)
	refuses(t, f.doc, swap(one, one), api.ErrCycle)
	below := f.master(one, "a") // steps up: below, one
	refuses(t, f.doc, swap(one, below), api.ErrCycle)
	page := at(1, 0) // steps down: page, one
	f.mark(page)
	f.move(one, page, "a")
	refuses(t, f.doc, swap(one, page), api.ErrCycle)
	second := f.master(root, "a")
	within := f.instance(second, "a", page) // steps down: second, within, page, one
	refuses(t, f.doc, swap(one, second), api.ErrCycle)
	wants(t, f.doc, swap(within, master), op.Op{Kind: op.Point, Node: within, Ref: master})
	far := f.master(root, "b")
	f.instance(below, "a", far) // steps up from below, but none from far
	wants(t, f.doc, swap(one, far), op.Op{Kind: op.Point, Node: one, Ref: far})
	up := f.instance(root, "c", below) // steps up: up, below, one
	f.mark(up)
	refuses(t, f.doc, swap(one, up), api.ErrCycle)
}

func TestP1602Group(t *testing.T) {
	f := scene(t)
	page, a, b, c := at(1, 0), at(2, 0), at(3, 0), at(4, 0)
	group := func(l ...api.Stamp) edit.Cmd { return edit.Cmd{Kind: edit.Group, List: l} }
	g := next(f.doc)
	into := func(n api.Stamp, key string) op.Op { return op.Op{Kind: op.Move, Node: n, Ref: g, Key: key} }
	// The row's order, and the place of the one that stands first in the row, whatever the list's order is.
	for _, l := range [][]api.Stamp{{a, c}, {c, a}} {
		d := wants(t, f.doc, group(l...), op.Op{Kind: op.Create, Ref: page, Key: "\x20"}, into(a, "\x80"), into(c, "\xc0"))
		rowIs(t, d, page, fmt.Sprintf("%d 3", g.Time))
		rowIs(t, d, g, "2 4")
	}
	d := wants(t, f.doc, group(c, b), op.Op{Kind: op.Create, Ref: page, Key: "\x60"}, into(b, "\x80"), into(c, "\xc0"))
	rowIs(t, d, page, fmt.Sprintf("2 %d", g.Time))
	rowIs(t, d, b, "5 6")
	wants(t, f.doc, group(c), op.Op{Kind: op.Create, Ref: page, Key: "\xa0"}, into(c, "\x80"))
	d = wants(t, f.doc, group(b, c, a), op.Op{Kind: op.Create, Ref: page, Key: "\x20"}, into(a, "\x40"), into(b, "\x80"), into(c, "\xc0"))
	rowIs(t, d, page, fmt.Sprint(g.Time))
	d = wants(t, f.doc, group(at(10, 0), at(7, 0)), op.Op{Kind: op.Create, Key: "\x90"}, into(at(7, 0), "\x80"), into(at(10, 0), "\xc0")) // below the root: an instance with its master
	rowIs(t, d, root, fmt.Sprintf("1 %d 12", g.Time))
	f.lock(at(5, 0)) // what is below may be locked
	g = next(f.doc)
	wants(t, f.doc, group(b), op.Op{Kind: op.Create, Ref: page, Key: "\x60"}, into(b, "\x80"))
}

func TestP1602GroupErrors(t *testing.T) {
	f := scene(t)
	a, b, locked := at(2, 0), at(3, 0), at(12, 0)
	group := func(l ...api.Stamp) edit.Cmd { return edit.Cmd{Kind: edit.Group, List: l} }
	for _, l := range [][]api.Stamp{nil, {}, {a, a}, {a, b, a}, {gone, gone}, {locked, a, locked}, {root, root}, slices.Repeat(list(a), 70)} {
		refuses(t, f.doc, group(l...), api.ErrArg)
	}
	for _, n := range append(list(gone, at(15, 0), at(16, 0)), wrong...) {
		refuses(t, f.doc, group(n), api.ErrNone)
		refuses(t, f.doc, group(a, n, at(5, 0)), api.ErrNone)
		refuses(t, f.doc, group(n, a, b), api.ErrNone)
		refuses(t, f.doc, group(a, n, locked), api.ErrNone)
		refuses(t, f.doc, group(a, locked, n), api.ErrLock) // in its order
	}
	refuses(t, f.doc, group(a, locked), api.ErrLock)
	refuses(t, f.doc, group(at(13, 0)), api.ErrLock)
	refuses(t, f.doc, group(a, at(5, 0)), api.ErrKind)
	refuses(t, f.doc, group(at(5, 0), a, b), api.ErrKind)
	refuses(t, f.doc, group(b, at(5, 0)), api.ErrKind)
	refuses(t, f.doc, group(at(1, 0), a), api.ErrKind)
	// The spot's error.
	f.move(b, at(1, 0), "\x40")
	refuses(t, f.doc, group(b), api.ErrKey)
	refuses(t, f.doc, group(b, at(4, 0)), api.ErrKey)
	refuses(t, f.doc, group(b, at(5, 0)), api.ErrKind)
	g := next(f.doc)
	d := wants(t, f.doc, group(b, a), op.Op{Kind: op.Create, Ref: at(1, 0), Key: "\x20"}, op.Op{Kind: op.Move, Node: a, Ref: g, Key: "\x80"}, op.Op{Kind: op.Move, Node: b, Ref: g, Key: "\xc0"})
	rowIs(t, d, g, "2 3")
	f.move(a, at(1, 0), low)
	refuses(t, f.doc, group(a), api.ErrKey)
}

func TestP1602GroupErrSize(t *testing.T) {
	f := newDraft(t)
	all := f.many(root, 200)
	for _, count := range []int{1, 2, 62, 63} {
		l, e := edit.Compile(f.doc, next(f.doc), edit.Cmd{Kind: edit.Group, List: all[100 : 100+count]})
		if e != api.OK || len(l) != count+1 {
			t.Fatal(count, e, len(l))
		}
		d := done(t, f.doc, next(f.doc), l)
		if got := d.Row(next(f.doc)); len(got) != count || got[0].Node != all[100] || got[count-1].Node != all[99+count] || len(d.Row(root)) != 201-count {
			t.Fatal(count, got)
		}
	}
	for _, count := range []int{64, 65, 66, 200} {
		refuses(t, f.doc, edit.Cmd{Kind: edit.Group, List: all[:count]}, api.ErrSize)
	}
	many := append(slices.Clone(all[1:70]), gone)
	refuses(t, f.doc, edit.Cmd{Kind: edit.Group, List: many}, api.ErrNone)
	many[69] = f.create(all[0], "a")
	refuses(t, f.doc, edit.Cmd{Kind: edit.Group, List: many}, api.ErrKind)
	refuses(t, f.doc, edit.Cmd{Kind: edit.Group, List: append(many[:69:69], many[0])}, api.ErrArg)
	f.move(all[0], root, f.doc.Row(root)[1].Key) // the spot comes ahead of the size
	refuses(t, f.doc, edit.Cmd{Kind: edit.Group, List: all[1:70]}, api.ErrKey)
}

func TestP1602Ungroup(t *testing.T) {
	f := scene(t)
	page, b := at(1, 0), at(3, 0)
	ungroup := func(n api.Stamp) edit.Cmd { return edit.Cmd{Kind: edit.Ungroup, Node: n} }
	moved := func(n, p api.Stamp, key string) op.Op { return op.Op{Kind: op.Move, Node: n, Ref: p, Key: key} }
	d := wants(t, f.doc, ungroup(b), moved(at(5, 0), page, "\xa0"), moved(at(6, 0), page, "\xb0"), moved(b, trash, "\xc0"))
	rowIs(t, d, page, "2 5 6 4")
	rowIs(t, d, trash, "15 3")
	rowIs(t, d, b, "")
	wants(t, f.doc, ungroup(at(4, 0)), moved(at(4, 0), trash, "\xc0")) // nothing is below it
	d = wants(t, f.doc, ungroup(page), moved(at(2, 0), root, "\x88"), moved(b, root, "\x90"), moved(at(4, 0), root, "\x98"), moved(page, trash, "\xc0"))
	rowIs(t, d, root, "2 3 4 7 10 12")
	rowIs(t, d, b, "5 6")
	wants(t, f.doc, ungroup(at(7, 0)), moved(at(8, 0), root, "\xb0"), moved(at(7, 0), trash, "\xc0")) // a master is none that points
	for _, n := range append(list(gone, at(15, 0), at(16, 0)), wrong...) {
		refuses(t, f.doc, ungroup(n), api.ErrNone)
	}
	refuses(t, f.doc, ungroup(at(12, 0)), api.ErrLock)
	refuses(t, f.doc, ungroup(at(13, 0)), api.ErrLock)
	refuses(t, f.doc, ungroup(at(10, 0)), api.ErrKind)
	f.lock(at(5, 0)) // what is below may be locked
	wants(t, f.doc, ungroup(b), moved(at(5, 0), page, "\xa0"), moved(at(6, 0), page, "\xb0"), moved(b, trash, "\xc0"))
	// At the end of a row, and ahead of a key that is near.
	f.move(b, page, "\xd0")
	d = wants(t, f.doc, ungroup(b), moved(at(5, 0), page, "\xe8"), moved(at(6, 0), page, "\xf4"), moved(b, trash, "\xc0"))
	rowIs(t, d, page, "2 4 5 6")
}

func TestP1602UngroupErrKey(t *testing.T) {
	f := scene(t)
	page, b := at(1, 0), at(3, 0)
	ungroup := edit.Cmd{Kind: edit.Ungroup, Node: b}
	f.move(at(4, 0), page, "\x80")
	refuses(t, f.doc, ungroup, api.ErrKey) // the one behind has its key
	f.move(at(4, 0), page, "\x80"+strings.Repeat("\x00", mostKey-2)+"\x01")
	refuses(t, f.doc, ungroup, api.ErrKey)
	f.move(at(4, 0), page, "\x80"+strings.Repeat("\x00", mostKey-2)+"\x02")
	refuses(t, f.doc, ungroup, api.ErrKey) // one fits, not two
	f.move(at(6, 0), root, "a")
	rowIs(t, wants(t, f.doc, ungroup,
		op.Op{Kind: op.Move, Node: at(5, 0), Ref: page, Key: "\x80" + strings.Repeat("\x00", mostKey-2) + "\x01"},
		op.Op{Kind: op.Move, Node: b, Ref: trash, Key: "\xc0"}), page, "2 5 4")
	f.move(at(15, 0), trash, high)
	refuses(t, f.doc, ungroup, api.ErrKey) // no room in the trash
	refuses(t, f.doc, edit.Cmd{Kind: edit.Ungroup, Node: at(2, 0)}, api.ErrKey)
	refuses(t, f.doc, edit.Cmd{Kind: edit.Ungroup, Node: at(10, 0)}, api.ErrKind)
}

func TestP1602UngroupErrSize(t *testing.T) {
	for _, count := range []int{61, 62, 63, 64, 65, 66, 300} {
		f := newDraft(t)
		n := f.create(root, "a")
		f.create(root, "b")
		f.many(n, count)
		c := edit.Cmd{Kind: edit.Ungroup, Node: n}
		if count > 63 {
			refuses(t, f.doc, c, api.ErrSize)
			f.move(f.create(root, "c"), root, "a") // the size comes ahead of the keys
			refuses(t, f.doc, c, api.ErrSize)
			f.point(n, f.master(root, "z"))
			refuses(t, f.doc, c, api.ErrKind)
			continue
		}
		l, e := edit.Compile(f.doc, next(f.doc), c)
		if e != api.OK || len(l) != count+1 || len(done(t, f.doc, next(f.doc), l).Row(root)) != count+1 {
			t.Fatal(count, e, len(l))
		}
	}
}

func TestP1602Duplicate(t *testing.T) {
	f := scene(t)
	page, b := at(1, 0), at(3, 0)
	duplicate := func(n api.Stamp) edit.Cmd { return edit.Cmd{Kind: edit.Duplicate, Node: n} }
	first := next(f.doc)
	d := wants(t, f.doc, duplicate(b),
		op.Op{Kind: op.Create, Ref: page, Key: "\xa0"},
		op.Op{Kind: op.Create, Ref: first, Key: "a"},
		op.Op{Kind: op.Create, Ref: first, Key: "b"})
	rowIs(t, d, page, fmt.Sprintf("2 3 %d 4", first.Time))
	rowIs(t, d, b, "5 6")
	wants(t, f.doc, duplicate(at(2, 0)), op.Op{Kind: op.Create, Ref: page, Key: "\x60"})
	wants(t, f.doc, duplicate(at(4, 0)), op.Op{Kind: op.Create, Ref: page, Key: "\xe0"})
	wants(t, f.doc, duplicate(at(10, 0)), op.Op{Kind: op.Create, Key: "\xc8"}, op.Op{Kind: op.Point, Node: first, Ref: at(7, 0)})
	wants(t, f.doc, duplicate(at(7, 0)), op.Op{Kind: op.Create, Key: "\xb0"}, op.Op{Kind: op.Create, Ref: first, Key: "\x80"}) // a mark is not copied
	for _, n := range append(list(gone, at(15, 0), at(16, 0)), wrong...) {
		refuses(t, f.doc, duplicate(n), api.ErrNone)
	}
	refuses(t, f.doc, duplicate(at(12, 0)), api.ErrLock)
	refuses(t, f.doc, duplicate(at(13, 0)), api.ErrLock)
	f.move(at(4, 0), page, "\x80")
	refuses(t, f.doc, duplicate(b), api.ErrKey)
	f.move(at(4, 0), page, high)
	refuses(t, f.doc, duplicate(at(4, 0)), api.ErrKey)
}

// A copy: of each node its Create, its values but Locked, its master, and then what is below it.
func TestP1602DuplicateOfAll(t *testing.T) {
	f := scene(t)
	n, master := at(3, 0), at(7, 0)
	deep := f.create(at(5, 0), "x")
	twin := f.create(at(5, 0), "x")
	values := []api.Value{yes, no, text(""), fixed(-1), fixed(0), fixed(3), fixed(4), whole(9)}
	for i := len(values); i > 0; i-- {
		f.set(n, i, values[i-1])
	}
	f.set(n, value.Locked, no)
	f.set(n, value.X, none)
	f.lock(at(6, 0))
	f.set(at(6, 0), value.Hidden, yes)
	f.point(at(5, 0), master)
	f.set(deep, value.Name, text("deep"))
	f.mark(n)
	f.over(at(5, 0), list(at(8, 0)), value.Fill, whole(1))
	s := func(i int) api.Stamp { return at(next(f.doc).Time+i, 9) }
	set := func(i, prop int, v api.Value) op.Op { return op.Op{Kind: op.Set, Node: s(i), Prop: prop, Value: v} }
	d := wants(t, f.doc, edit.Cmd{Kind: edit.Duplicate, Node: n},
		op.Op{Kind: op.Create, Ref: at(1, 0), Key: "\xa0"},
		set(0, value.Hidden, no), set(0, value.Name, text("")), set(0, value.Y, fixed(0)), set(0, value.Width, fixed(3)), set(0, value.Height, fixed(4)), set(0, value.Fill, whole(9)),
		op.Op{Kind: op.Create, Ref: s(0), Key: "a"},
		op.Op{Kind: op.Point, Node: s(7), Ref: master},
		op.Op{Kind: op.Create, Ref: s(7), Key: "x"},
		set(9, value.Name, text("deep")),
		op.Op{Kind: op.Create, Ref: s(7), Key: "x"},
		op.Op{Kind: op.Create, Ref: s(0), Key: "b"},
		set(12, value.Hidden, yes))
	if d.Locked(s(12)) || !d.Locked(at(6, 0)) || d.Marked(s(0)) {
		t.Error("locks or marks were copied")
	}
	rowIs(t, d, s(7), fmt.Sprint(s(9).Time, " ", s(11).Time))
	rowIs(t, d, at(5, 0), fmt.Sprint(deep.Time, " ", twin.Time))
}

// A copy of an instance whose values have overrides has the registers' own values.
func TestP1602DuplicateHasRegistersValues(t *testing.T) {
	f := scene(t)
	one, own := at(10, 0), f.create(at(10, 0), "a")
	f.set(own, value.Fill, whole(1))
	f.over(one, list(own), value.Fill, whole(2))
	s := next(f.doc)
	wants(t, f.doc, edit.Cmd{Kind: edit.Duplicate, Node: one},
		op.Op{Kind: op.Create, Key: "\xc8"}, op.Op{Kind: op.Point, Node: s, Ref: at(7, 0)},
		op.Op{Kind: op.Create, Ref: s, Key: "a"}, op.Op{Kind: op.Set, Node: at(s.Time+2, 9), Prop: value.Fill, Value: whole(1)})
}

func TestP1602DuplicateErrSize(t *testing.T) {
	for _, count := range []int{62, 63, 64, 65, 300} {
		f := newDraft(t)
		n := f.create(root, "a")
		f.many(n, count)
		c := edit.Cmd{Kind: edit.Duplicate, Node: n}
		if count > 63 {
			refuses(t, f.doc, c, api.ErrSize)
			f.create(root, "a") // the spot comes ahead of the size
			refuses(t, f.doc, c, api.ErrKey)
			f.lock(n)
			refuses(t, f.doc, c, api.ErrLock)
			continue
		}
		l, e := edit.Compile(f.doc, next(f.doc), c)
		if e != api.OK || len(l) != count+1 || len(done(t, f.doc, next(f.doc), l).Row(next(f.doc))) != count {
			t.Fatal(count, e, len(l))
		}
		f.set(n, value.Fill, whole(1))
		if count < 63 {
			continue
		}
		refuses(t, f.doc, c, api.ErrSize) // a Set is one op more
		f.set(n, value.Fill, none)
		f.point(n, f.master(trash, "z"))
		refuses(t, f.doc, c, api.ErrSize) // so is a Point
	}
	// As deep as may be, and one deeper.
	f := newDraft(t)
	top := f.create(root, "a")
	last := top
	for range 63 {
		last = f.create(last, "a")
	}
	l, e := edit.Compile(f.doc, next(f.doc), edit.Cmd{Kind: edit.Duplicate, Node: top})
	if e != api.OK || len(l) != mostOps || len(done(t, f.doc, next(f.doc), l).Above(at(next(f.doc).Time+63, 9))) != mostOps {
		t.Fatal(e, len(l))
	}
	for range 200 {
		last = f.create(last, "a")
	}
	refuses(t, f.doc, edit.Cmd{Kind: edit.Duplicate, Node: top}, api.ErrSize)
}

func TestP1602Detach(t *testing.T) {
	f := scene(t)
	one, master := at(10, 0), at(7, 0)
	detach := func(n api.Stamp) edit.Cmd { return edit.Cmd{Kind: edit.Detach, Node: n} }
	s := func(i int) api.Stamp { return at(next(f.doc).Time+i, 9) }
	off := op.Op{Kind: op.Point, Node: one}
	d := wants(t, f.doc, detach(one), off, op.Op{Kind: op.Create, Ref: one, Key: "\x80"})
	if _, points := d.Ref(one); points {
		t.Error("it points still")
	}
	rowIs(t, d, one, fmt.Sprint(s(1).Time))
	rowIs(t, d, master, "8")
	// Behind what it has of its own, with other keys than those of the master's row; of what is deeper their own.
	f.create(one, "\xc0")
	ahead := f.create(master, "\x20")
	f.create(ahead, "q")
	d = wants(t, f.doc, detach(one), off,
		op.Op{Kind: op.Create, Ref: one, Key: "\xe0"}, op.Op{Kind: op.Create, Ref: s(1), Key: "q"}, op.Op{Kind: op.Create, Ref: one, Key: "\xf0"})
	rowIs(t, d, one, fmt.Sprintf("17 %d %d", s(1).Time, s(3).Time))
	// The master's own values, its mark and its lock don't matter; it may be in the trash.
	f.set(master, value.Fill, whole(1))
	f.lock(master)
	f.move(master, trash, "a")
	wants(t, f.doc, detach(one), off,
		op.Op{Kind: op.Create, Ref: one, Key: "\xe0"}, op.Op{Kind: op.Create, Ref: s(1), Key: "q"}, op.Op{Kind: op.Create, Ref: one, Key: "\xf0"})
	empty := f.create(trash, "b")
	f.point(one, empty)
	wants(t, f.doc, detach(one), off)
	for _, n := range append(list(gone, at(15, 0), at(16, 0)), wrong...) {
		refuses(t, f.doc, detach(n), api.ErrNone)
	}
	refuses(t, f.doc, detach(at(12, 0)), api.ErrLock)
	refuses(t, f.doc, detach(at(13, 0)), api.ErrLock)
	refuses(t, f.doc, detach(at(5, 0)), api.ErrKind)
	refuses(t, f.doc, detach(at(1, 0)), api.ErrKind)
	f.lock(one)
	refuses(t, f.doc, detach(one), api.ErrLock)
}

// What is copied has the values that were drawn: overrides of the path of the instance alone.
func TestP1602DetachValues(t *testing.T) {
	f := scene(t)
	one, master, leaf := at(10, 0), at(7, 0), at(8, 0)
	deep := f.create(leaf, "d")
	inner := f.instance(master, "\xa0", f.master(trash, "m"))
	f.set(leaf, value.Fill, whole(1))
	f.set(leaf, value.X, fixed(1))
	f.over(one, list(leaf), value.Fill, whole(2))
	f.over(one, list(leaf), value.X, none) // none any more: the node's own
	f.over(one, list(leaf), value.Locked, yes)
	f.over(one, list(leaf), value.Hidden, yes)
	f.lock(leaf)
	f.over(one, list(deep), value.Name, text("over"))
	f.over(one, list(leaf, deep), value.Fill, whole(3)) // of another path
	f.over(inner, list(leaf), value.Fill, whole(4))     // of another instance
	f.over(one, list(inner), value.Width, fixed(5))
	s := func(i int) api.Stamp { return at(next(f.doc).Time+i, 9) }
	set := func(i, prop int, v api.Value) op.Op { return op.Op{Kind: op.Set, Node: s(i), Prop: prop, Value: v} }
	to, _ := f.doc.Ref(inner)
	d := wants(t, f.doc, edit.Cmd{Kind: edit.Detach, Node: one},
		op.Op{Kind: op.Point, Node: one},
		op.Op{Kind: op.Create, Ref: one, Key: "\x80"}, set(1, value.Hidden, yes), set(1, value.X, fixed(1)), set(1, value.Fill, whole(2)),
		op.Op{Kind: op.Create, Ref: s(1), Key: "d"}, set(5, value.Name, text("over")),
		op.Op{Kind: op.Create, Ref: one, Key: "\xc0"}, set(7, value.Width, fixed(5)), op.Op{Kind: op.Point, Node: s(7), Ref: to})
	if d.Locked(s(1)) || !d.Locked(leaf) {
		t.Error("a lock was copied")
	}
}

func TestP1602DetachErrors(t *testing.T) {
	for _, count := range []int{62, 63, 64, 65, 300} {
		f := newDraft(t)
		master := f.master(root, "a")
		all := f.many(master, count)
		one := f.instance(root, "b", master)
		c := edit.Cmd{Kind: edit.Detach, Node: one}
		if count > 63 {
			refuses(t, f.doc, c, api.ErrSize)
			f.create(one, high) // the size comes ahead of the keys
			refuses(t, f.doc, c, api.ErrSize)
			f.lock(one)
			refuses(t, f.doc, c, api.ErrLock)
			continue
		}
		l, e := edit.Compile(f.doc, next(f.doc), c)
		if e != api.OK || len(l) != count+1 || len(done(t, f.doc, next(f.doc), l).Row(one)) != count {
			t.Fatal(count, e, len(l))
		}
		if count < 63 {
			continue
		}
		f.over(one, list(all[62]), value.Fill, whole(1))
		refuses(t, f.doc, c, api.ErrSize) // one Set too many
		own := f.create(one, high)
		refuses(t, f.doc, c, api.ErrKey) // the keys come ahead of the size at the end
		f.move(own, root, "z")
		f.over(one, list(all[62]), value.Fill, none)
		f.create(all[7], "a")
		refuses(t, f.doc, c, api.ErrSize) // one deeper is one too many
	}
	// A row at whose end one key fits, not two.
	f := scene(t)
	one := at(10, 0)
	f.create(one, strings.Repeat("\xff", mostKey-1)+"\xfe")
	wants(t, f.doc, edit.Cmd{Kind: edit.Detach, Node: one}, op.Op{Kind: op.Point, Node: one}, op.Op{Kind: op.Create, Ref: one, Key: high})
	f.create(at(7, 0), "z")
	refuses(t, f.doc, edit.Cmd{Kind: edit.Detach, Node: one}, api.ErrKey)
}

// Stamps end at the greatest Time: who has no room for all ops is told so at the end.
func TestP1602ErrSizeOfTimes(t *testing.T) {
	d := scene(t).doc
	for _, c := range commands() {
		want, _ := edit.Compile(d, next(d), c)
		last := mostTime - len(want) + 1
		for _, replica := range []int{0, 15} {
			l, e := edit.Compile(d, at(last, replica), c)
			if e != api.OK || len(l) != len(want) {
				t.Error(c, e, l)
			}
			for time := last + 1; time <= mostTime; time++ {
				if l, e := edit.Compile(d, at(time, replica), c); e != api.ErrSize || len(l) != 0 {
					t.Error(c, time, e, l)
				}
			}
		}
	}
	for _, c := range []struct {
		cmd  edit.Cmd
		want api.Errno
	}{
		{edit.Cmd{Kind: edit.Instance, Node: at(1, 0), Ref: at(7, 0), At: -1}, api.ErrArg},
		{edit.Cmd{Kind: edit.Instance, Node: at(8, 0), Ref: at(7, 0)}, api.ErrCycle},
		{edit.Cmd{Kind: edit.Group, List: list(at(2, 0), gone)}, api.ErrNone},
		{edit.Cmd{Kind: edit.Ungroup, Node: at(12, 0)}, api.ErrLock},
		{edit.Cmd{Kind: edit.Detach, Node: at(3, 0)}, api.ErrKind},
	} {
		if l, e := edit.Compile(d, at(mostTime, 0), c.cmd); e != c.want || len(l) != 0 {
			t.Error(c.cmd, e, l)
		}
	}
}

// The ops' stamps are those of first's replica, whichever wrote the nodes.
func TestP1602StampsOfFirst(t *testing.T) {
	d := scene(t).doc
	for _, first := range list(at(100, 0), at(101, 3), at(1000, 15)) {
		l, e := edit.Compile(d, first, edit.Cmd{Kind: edit.Group, List: list(at(2, 0))})
		if e != api.OK || len(l) != 2 || l[1].Ref != first {
			t.Error(first, e, l)
		}
		l, e = edit.Compile(d, first, edit.Cmd{Kind: edit.Detach, Node: at(10, 0)})
		if e != api.OK || len(l) != 2 {
			t.Error(first, e, l)
		}
		l, e = edit.Compile(d, first, edit.Cmd{Kind: edit.Duplicate, Node: at(1, 0)})
		if e != api.OK || len(l) != 6 || l[1].Ref != first || l[3].Ref != at(first.Time+2, first.Replica) {
			t.Error(first, e, l)
		}
		done(t, d, first, l)
	}
}
