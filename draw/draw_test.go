package draw_test

import (
	"fmt"
	"math"
	"math/rand"
	"slices"
	"sync"
	"testing"

	"diorama/api"
	"diorama/batch"
	"diorama/doc"
	"diorama/draw"
	"diorama/op"
	"diorama/value"
)

const (
	mostDraw = 512
	mostPath = 8
	mostOps  = 64
	mostTime = 1 << 40
)

func at(time, replica int) api.Stamp { return api.Stamp{Time: time, Replica: replica} }

var (
	root, trash = at(0, 0), at(0, 1)
	none        = api.Value{}
	yes         = api.Value{Kind: value.Flag, N: 1}
	no          = api.Value{Kind: value.Flag}
)

func whole(n int) api.Value { return api.Value{Kind: value.Int, N: n} }

func fixed(n int) api.Value { return api.Value{Kind: value.Fixed, N: n} }

func text(s string) api.Value { return api.Value{Kind: value.Text, T: s} }

func path(l ...api.Stamp) []api.Stamp { return l }

// draft writes a document op by op; each op is a batch of its own, of the replica 0.
type draft struct {
	t    *testing.T
	doc  *doc.Doc
	time int
	all  []batch.Batch
}

func newDraft(t *testing.T) *draft { return &draft{t: t, doc: doc.New()} }

func (f *draft) do(l ...op.Op) api.Stamp {
	f.t.Helper()
	x := batch.Batch{Replica: 0, Seq: len(f.all) + 1, Time: f.time + 1, Ops: l}
	if n, e := f.doc.Apply(x); n != 1 || e != api.OK {
		f.t.Fatalf("Apply of %v: %d %d", x, n, e)
	}
	f.all = append(f.all, x)
	f.time += len(l)
	return at(x.Time, 0)
}

func (f *draft) create(p api.Stamp, key string) api.Stamp {
	f.t.Helper()
	return f.do(op.Op{Kind: op.Create, Ref: p, Key: key})
}

// many creates nodes with one key, and answers the first one's and the last one's stamp.
func (f *draft) many(p api.Stamp, key string, count int) (api.Stamp, api.Stamp) {
	f.t.Helper()
	first := at(f.time+1, 0)
	for count > 0 {
		some := min(count, mostOps)
		f.do(slices.Repeat([]op.Op{{Kind: op.Create, Ref: p, Key: key}}, some)...)
		count -= some
	}
	return first, at(f.time, 0)
}

func (f *draft) move(n, p api.Stamp, key string) {
	f.t.Helper()
	f.do(op.Op{Kind: op.Move, Node: n, Ref: p, Key: key})
}

func (f *draft) set(n api.Stamp, prop int, v api.Value) {
	f.t.Helper()
	f.do(op.Op{Kind: op.Set, Node: n, Prop: prop, Value: v})
}

func (f *draft) mark(n api.Stamp) {
	f.t.Helper()
	f.do(op.Op{Kind: op.Mark, Node: n, On: true})
}

// point is done, or the test that asks for it is wrong.
func (f *draft) point(n, master api.Stamp) {
	f.t.Helper()
	f.do(op.Op{Kind: op.Point, Node: n, Ref: master})
	if got, _ := f.doc.Ref(n); got != master {
		f.t.Fatalf("%v points to %v, not to %v", n, got, master)
	}
}

func (f *draft) instance(p api.Stamp, key string, master api.Stamp) api.Stamp {
	f.t.Helper()
	n := f.create(p, key)
	f.point(n, master)
	return n
}

func (f *draft) over(n api.Stamp, l []api.Stamp, prop int, v api.Value) {
	f.t.Helper()
	f.do(op.Op{Kind: op.Override, Node: n, Path: l, Prop: prop, Value: v})
}

// resolved is what the words say of a value, of a path as long as it is.
func resolved(d *doc.Doc, l []api.Stamp, n api.Stamp, prop int) api.Value {
	for i, instance := range l {
		if v, there := d.Over(instance, slices.Concat(l[i+1:], path(n)), prop); there {
			return v
		}
	}
	return d.Value(n, prop)
}

// drawn is what the words say of an unfolding. What is still to be told waits in a list, the next one last.
func drawn(d *doc.Doc, most int) []draw.Item {
	var all, wait []draw.Item
	push := func(p api.Stamp, l []api.Stamp, depth int) {
		row := d.Row(p)
		slices.Reverse(row)
		for _, x := range row {
			wait = append(wait, draw.Item{Path: l, Node: x.Node, Depth: depth})
		}
	}
	for push(root, nil, 1); len(wait) > 0 && len(all) <= most; {
		x := wait[len(wait)-1]
		wait = wait[:len(wait)-1]
		if resolved(d, x.Path, x.Node, value.Hidden) == yes {
			continue
		}
		for prop := 1; prop <= api.MaxProps; prop++ {
			x.Values[prop-1] = resolved(d, x.Path, x.Node, prop)
		}
		all = append(all, x)
		if master, points := d.Ref(x.Node); points {
			push(master, slices.Concat(x.Path, path(x.Node)), x.Depth+1)
		}
		push(x.Node, x.Path, x.Depth+1)
	}
	return all
}

func sameItem(a, b draw.Item) bool {
	return slices.Equal(a.Path, b.Path) && a.Node == b.Node && a.Depth == b.Depth && a.Values == b.Values
}

func sameList(a, b []draw.Item) bool { return slices.EqualFunc(a, b, sameItem) }

func built(t *testing.T, d *doc.Doc) []draw.Item {
	t.Helper()
	l, e := draw.Build(d, mostDraw)
	if e != api.OK {
		t.Fatalf("Build: %d", e)
	}
	return l
}

// short is a list's text: of each item its depth, its path and its node.
func short(l []draw.Item) string {
	s := ""
	for _, x := range l {
		s += fmt.Sprint(x.Depth)
		for _, n := range append(slices.Clone(x.Path), x.Node) {
			s += fmt.Sprint("/", n.Time)
			if n.Replica != 0 {
				s += fmt.Sprint("@", n.Replica)
			}
		}
		s += " "
	}
	return s
}

func tells(t *testing.T, d *doc.Doc, want string) {
	t.Helper()
	if got := short(built(t, d)); got != want {
		t.Fatalf("told %q, want %q", got, want)
	}
	holds(t, d)
}

// holds asks all calls whether they tell what the words say of this document.
func holds(t *testing.T, d *doc.Doc) {
	t.Helper()
	want := drawn(d, mostDraw)
	bounds := []int{1, 2, len(want) - 1, len(want), len(want) + 1, mostDraw - 1, mostDraw}
	for _, most := range bounds {
		if most < 1 || most > mostDraw {
			continue
		}
		l, e := draw.Build(d, most)
		if len(want) > most && (e != api.ErrSize || len(l) != 0) {
			t.Fatalf("Build of %d items, at most %d: %d items, %d", len(want), most, len(l), e)
		}
		if len(want) <= most && (e != api.OK || !sameList(l, want)) {
			t.Fatalf("Build, at most %d: %d\n%s\nwant\n%s", most, e, fmt.Sprint(l), fmt.Sprint(want))
		}
		if got := draw.Count(d, most); got != min(len(want), most+1) {
			t.Fatalf("Count of %d items, at most %d: %d", len(want), most, got)
		}
	}
	for i, x := range want {
		for prop := -1; prop <= api.MaxProps+1; prop++ {
			if got, v := draw.Resolve(d, x.Path, x.Node, prop), resolved(d, x.Path, x.Node, prop); got != v {
				t.Fatalf("Resolve of %v, %v, %d: %v, want %v", x.Path, x.Node, prop, got, v)
			}
		}
		if got := draw.Place(want, x.Path, x.Node); got != i {
			t.Fatalf("Place of the item %d: %d", i, got)
		}
	}
}

// family: 1@0 with 2@0 and, of that, 3@0; 4@0 and 9@0 point to 1@0, and 4@0 has 6@0 of its own; 7@0 is hidden, with 8@0; 4@0 overrides 3@0's Fill.
func family(t *testing.T) *draft {
	f := newDraft(t)
	master := f.create(root, "a")
	group := f.create(master, "a")
	leaf := f.create(group, "a")
	first := f.instance(root, "b", master)
	f.create(first, "a")
	veiled := f.create(root, "d")
	f.create(veiled, "a")
	f.instance(root, "c", master)
	f.mark(master)
	f.set(veiled, value.Hidden, yes)
	f.set(leaf, value.Fill, whole(5))
	f.set(leaf, value.Name, text("leaf"))
	f.set(group, value.X, fixed(-7))
	f.over(first, path(leaf), value.Fill, whole(9))
	return f
}

const familyText = "1/1 2/2 3/3 1/4 2/6 2/4/2 3/4/3 1/9 2/9/2 3/9/3 "

// unmade are documents that neither New nor Of made.
func unmade() map[string]*doc.Doc {
	return map[string]*doc.Doc{"nil": nil, "new": new(doc.Doc), "literal": {}}
}

// strange are stamps that may not be, huge ones, and such of which no test makes nodes.
var strange = []api.Stamp{
	at(-1, 0), at(0, -1), at(0, 16), at(1, -1), at(1, 16), at(mostTime+1, 0), at(mostTime, 16), at(-1, 1), at(0, 2), at(0, 15), at(777, 7), at(mostTime, 15),
	at(math.MinInt, math.MinInt), at(math.MaxInt, math.MaxInt), at(math.MaxInt, 0), at(0, math.MaxInt), at(math.MinInt, 1), at(1, 1<<32), at(1<<32, 1<<32),
}

var numbers = []int{math.MinInt, -1 << 32, -2, -1, 0, 513, 1024, 1 << 32, 1<<32 + 1, 1<<32 + 2, math.MaxInt}

func TestP1501NilAndUnmadeDocs(t *testing.T) {
	for name, d := range unmade() {
		for _, most := range append([]int{1, 2, mostDraw}, numbers...) {
			if l, e := draw.Build(d, most); len(l) != 0 || e != api.ErrArg {
				t.Error(name, "Build", most, l, e)
			}
			if got := draw.Count(d, most); got != 0 {
				t.Error(name, "Count", most, got)
			}
		}
		for prop := -1; prop <= api.MaxProps+1; prop++ {
			for _, l := range [][]api.Stamp{nil, {}, {at(1, 0)}, strange} {
				if v := draw.Resolve(d, l, at(1, 0), prop); v != none {
					t.Error(name, "Resolve", v)
				}
			}
		}
	}
}

func TestP1501CopyOfTheStruct(t *testing.T) {
	f := family(t)
	c := *f.doc
	tells(t, &c, familyText)
}

func TestP1501AnyArguments(t *testing.T) {
	d := family(t).doc
	for _, most := range numbers {
		if l, e := draw.Build(d, most); len(l) != 0 || e != api.ErrArg {
			t.Error("Build", most, l, e)
		}
		if got := draw.Count(d, most); got != 0 {
			t.Error("Count", most, got)
		}
	}
	long := slices.Repeat(path(at(4, 0)), 100000)
	for _, n := range append(path(root, trash, at(3, 0), at(4, 0)), strange...) {
		for _, l := range [][]api.Stamp{nil, {}, {root}, {trash}, strange, long, long[:mostPath], long[:mostPath+1]} {
			for _, prop := range append([]int{0, 9, 10, 64}, numbers...) {
				if v := draw.Resolve(d, l, n, prop); v != none {
					t.Error("Resolve", n, prop, v)
				}
			}
			if v := draw.Resolve(d, l, n, value.Hidden); v != none {
				t.Error("Resolve", n, v)
			}
		}
	}
	if v := draw.Resolve(d, long, at(3, 0), value.Fill); v != whole(9) {
		t.Error("Resolve on a long path", v)
	}
	l := built(t, d)
	for _, n := range append(path(root, trash), strange...) {
		for _, p := range [][]api.Stamp{nil, {at(4, 0)}, strange, long} {
			if draw.Place(l, p, n) != -1 || draw.Place(nil, p, n) != -1 {
				t.Error("Place", n)
			}
		}
	}
}

func TestP1501ArgumentsStay(t *testing.T) {
	f := family(t)
	before, digest := f.doc.Clone(), f.doc.Log().Digest()
	room := path(at(9, 0), at(4, 0), at(88, 0), at(99, 0))
	kept := slices.Clone(room)
	for end := range len(room) + 1 {
		draw.Resolve(f.doc, room[:end], at(3, 0), value.Fill)
		draw.Place(built(t, f.doc), room[:end], at(3, 0))
		if !slices.Equal(room, kept) {
			t.Fatal("a path, or the room behind it, was changed")
		}
	}
	l := built(t, f.doc)
	room = l[5].Path
	draw.Place(l[:5], room, at(2, 0))
	if !sameList(l, drawn(f.doc, mostDraw)) {
		t.Fatal("Place changes its list")
	}
	draw.Build(f.doc, 1)
	draw.Count(f.doc, 1)
	if !f.doc.Same(before) || f.doc.Log().Digest() != digest || f.doc.Vector() != before.Vector() {
		t.Fatal("the document was changed")
	}
}

// scribble writes over a list, and over all the room behind it and behind its paths.
func scribble(l []draw.Item) {
	l = l[:cap(l)]
	for i := range l {
		p := l[i].Path[:cap(l[i].Path)]
		for j := range p {
			p[j] = at(77, 7)
		}
		l[i] = draw.Item{Node: at(66, 6), Depth: -1}
	}
}

func TestP1501AnswersAreNew(t *testing.T) {
	d := family(t).doc
	want := drawn(d, mostDraw)
	for range 3 {
		one, two := built(t, d), built(t, d)
		scribble(one)
		if !sameList(two, want) || !sameList(built(t, d), want) {
			t.Fatal("two lists share memory")
		}
		for i := range two {
			scribble(two[i : i+1 : i+1])
			if !sameList(two[i+1:], want[i+1:]) {
				t.Fatal("two paths of one list share memory")
			}
		}
	}
	holds(t, d)
}

// Nodes on one long path, some with more behind them: an append to one's path must not be seen in the others.
func TestP1501PathsAreApart(t *testing.T) {
	f := newDraft(t)
	inner := f.create(trash, "a")
	f.many(inner, "a", 3)
	for range 9 {
		outer := f.create(trash, "a")
		f.instance(outer, "a", inner)
		f.create(outer, "b")
		f.instance(outer, "c", outerLeaf(f))
		inner = outer
	}
	f.instance(root, "a", inner)
	want := drawn(f.doc, mostDraw)
	l := built(t, f.doc)
	if !sameList(l, want) {
		t.Fatal(short(l))
	}
	for i := range l {
		_ = append(l[i].Path, at(77, 7))
		scribble(l[i : i+1 : i+1])
		if !sameList(l[i+1:], want[i+1:]) {
			t.Fatal("two paths of one list share memory")
		}
	}
}

// outerLeaf is a master in the trash with one node.
func outerLeaf(f *draft) api.Stamp {
	n := f.create(trash, "b")
	f.create(n, "a")
	return n
}

// All are pure: several may ask one document at once, also where nobody looked at it before.
func TestP1501LooksAtOnce(t *testing.T) {
	for range 10 {
		d := doc.Of(family(t).all...)
		var all sync.WaitGroup
		start := make(chan struct{})
		for range 8 {
			all.Add(1)
			go func() {
				defer all.Done()
				<-start
				l, e := draw.Build(d, mostDraw)
				if e != api.OK || short(l) != familyText || draw.Count(d, mostDraw) != 10 || draw.Resolve(d, path(at(4, 0)), at(3, 0), value.Fill) != whole(9) {
					t.Error(short(l), e)
				}
			}()
		}
		close(start)
		all.Wait()
	}
}

func TestP1501SameStepsSameAnswers(t *testing.T) {
	first := built(t, family(t).doc)
	for range 20 {
		d := family(t).doc
		if !sameList(built(t, d), first) || !sameList(built(t, d), first) {
			t.Fatal("the same steps have other answers")
		}
	}
}

func TestP1502Examples(t *testing.T) {
	f := newDraft(t)
	tells(t, f.doc, "")
	n := f.create(root, "a")
	f.create(n, "a")
	tells(t, f.doc, "1/1 2/2 ")
	l := built(t, f.doc)
	if len(l) != 2 || l[0].Depth != 1 || l[1].Depth != 2 || l[0].Node != n || len(l[0].Path)+len(l[1].Path) != 0 || l[0].Values != [api.MaxProps]api.Value{} {
		t.Error(l)
	}
	tells(t, family(t).doc, familyText)
}

func TestP1502ErrArgAheadOfErrSize(t *testing.T) {
	f := newDraft(t)
	f.many(root, "a", 3)
	for most, want := range map[int]api.Errno{-1: api.ErrArg, 0: api.ErrArg, 1: api.ErrSize, 2: api.ErrSize, 3: api.OK, 512: api.OK, 513: api.ErrArg} {
		l, e := draw.Build(f.doc, most)
		if e != want || want != api.OK && len(l) != 0 || want == api.OK && len(l) != 3 {
			t.Error("Build", most, len(l), e)
		}
	}
	for most, want := range map[int]int{-1: 0, 0: 0, 1: 2, 2: 3, 3: 3, 4: 3, 512: 3, 513: 0} {
		if got := draw.Count(f.doc, most); got != want {
			t.Error("Count", most, got, want)
		}
	}
}

func TestP1502EmptyDocument(t *testing.T) {
	for _, d := range []*doc.Doc{doc.New(), doc.Of()} {
		for _, most := range []int{1, mostDraw} {
			if l, e := draw.Build(d, most); len(l) != 0 || e != api.OK || draw.Count(d, most) != 0 {
				t.Error(l, e)
			}
		}
	}
}

func TestP1502FullList(t *testing.T) {
	for _, depths := range []bool{false, true} {
		f := newDraft(t)
		last := root
		for range mostDraw {
			n := f.create(last, "a")
			if depths {
				last = n
			}
		}
		if l := built(t, f.doc); len(l) != mostDraw || depths && l[mostDraw-1].Depth != mostDraw || draw.Count(f.doc, mostDraw) != mostDraw {
			t.Fatal(len(l))
		}
		holds(t, f.doc)
	}
	f := newDraft(t)
	f.many(root, "a", mostDraw+1)
	if l, e := draw.Build(f.doc, mostDraw); len(l) != 0 || e != api.ErrSize || draw.Count(f.doc, mostDraw) != mostDraw+1 {
		t.Fatal(len(l), e)
	}
	f.set(at(mostDraw/2, 0), value.Hidden, yes)
	if got := len(built(t, f.doc)); got != mostDraw {
		t.Fatal(got)
	}
	f.many(root, "a", 5000)
	if l, e := draw.Build(f.doc, mostDraw); len(l) != 0 || e != api.ErrSize || draw.Count(f.doc, mostDraw) != mostDraw+1 || draw.Count(f.doc, 7) != 8 {
		t.Fatal(len(l), e)
	}
}

// Masters that have two instances of the next one each, forty deep: nobody could tell all of them.
func TestP1502NoEndOfInstances(t *testing.T) {
	f := newDraft(t)
	inner := outerLeaf(f)
	for range 40 {
		outer := f.create(trash, "a")
		f.instance(outer, "a", inner)
		f.instance(outer, "b", inner)
		inner = outer
	}
	top := f.instance(root, "a", inner)
	for _, most := range []int{1, 40, 41, mostDraw} {
		if l, e := draw.Build(f.doc, most); len(l) != 0 || e != api.ErrSize || draw.Count(f.doc, most) != most+1 {
			t.Fatal(len(l), e)
		}
	}
	f.set(top, value.Hidden, yes)
	tells(t, f.doc, "")
}

func TestP1502Place(t *testing.T) {
	d := family(t).doc
	l := built(t, d)
	for i, x := range l {
		if got := draw.Place(l, x.Path, x.Node); got != i {
			t.Error(i, got)
		}
		if draw.Place(l[:i], x.Path, x.Node) != -1 || draw.Place(l[i+1:], x.Path, x.Node) != -1 {
			t.Error("told where it is not")
		}
	}
	for _, c := range []struct {
		path []api.Stamp
		node api.Stamp
		want int
	}{
		{nil, at(2, 0), 1}, {path(), at(2, 0), 1}, {path(at(4, 0)), at(2, 0), 5}, {path(at(9, 0)), at(3, 0), 9},
		{path(at(4, 0)), at(1, 0), -1}, {path(at(1, 0)), at(2, 0), -1}, {path(at(4, 0), at(4, 0)), at(2, 0), -1}, {path(at(9, 0), at(4, 0)), at(2, 0), -1},
		{path(root), at(2, 0), -1}, {nil, at(7, 0), -1}, {nil, at(8, 0), -1}, {nil, at(2, 1), -1}, {path(at(4, 0)), at(6, 0), -1}, {nil, root, -1},
	} {
		if got := draw.Place(l, c.path, c.node); got != c.want {
			t.Error(c.path, c.node, got, c.want)
		}
	}
	// A list that nobody built: the first of several.
	other := []draw.Item{{Node: at(5, 5)}, {Path: path(at(1, 0)), Node: at(5, 5)}, {Path: path(), Node: at(5, 5), Depth: 9}, {Path: path(at(1, 0)), Node: at(5, 5)}}
	if draw.Place(other, nil, at(5, 5)) != 0 || draw.Place(other[1:], nil, at(5, 5)) != 1 || draw.Place(other, path(at(1, 0)), at(5, 5)) != 1 {
		t.Error("not the first of several")
	}
}

func TestP1502RowsAndDepths(t *testing.T) {
	f := newDraft(t)
	c, a := f.create(root, "c"), f.create(root, "a")
	first, second := f.create(root, "b"), f.create(root, "b")
	f.create(a, "z")
	deep := f.create(a, "y")
	f.create(deep, "a")
	f.create(c, "a")
	tells(t, f.doc, "1/2 2/6 3/7 2/5 1/3 1/4 1/1 2/8 ")
	f.move(second, c, "A")
	f.move(first, trash, "a")
	tells(t, f.doc, "1/2 2/6 3/7 2/5 1/1 2/4 2/8 ")
	f.move(a, deep, "a") // passed over: a ring would close
	tells(t, f.doc, "1/2 2/6 3/7 2/5 1/1 2/4 2/8 ")
}

// What a node has of its own stands ahead of what its master has; the master's own node is not told.
func TestP1502Instances(t *testing.T) {
	f := newDraft(t)
	master := f.create(trash, "a")
	f.create(master, "b")
	f.create(master, "a")
	one := f.instance(root, "a", master)
	f.create(one, "c")
	own := f.create(one, "a")
	f.create(own, "a")
	tells(t, f.doc, "1/4 2/7 3/8 2/6 2/4/3 2/4/2 ")
	f.do(op.Op{Kind: op.Point, Node: one})
	tells(t, f.doc, "1/4 2/7 3/8 2/6 ")
	empty := f.create(trash, "b")
	f.point(one, empty)
	tells(t, f.doc, "1/4 2/7 3/8 2/6 ")
	f.point(one, master)
	f.point(own, empty)
	f.create(empty, "a")
	tells(t, f.doc, "1/4 2/7 3/8 3/7/14 2/6 2/4/3 2/4/2 ")
}

// A master may be drawn itself, be marked or not, and its nodes may be instances, too.
func TestP1502NestedInstances(t *testing.T) {
	f := newDraft(t)
	button := f.create(root, "a")
	f.create(button, "a")
	card := f.create(root, "b")
	within := f.instance(card, "a", button)
	label := f.create(within, "a")
	one := f.instance(root, "c", card)
	tells(t, f.doc, "1/1 2/2 1/3 2/4 3/6 3/4/2 1/7 2/7/4 3/7/6 3/7/4/2 ")
	f.point(label, button)
	tells(t, f.doc, "1/1 2/2 1/3 2/4 3/6 4/6/2 3/4/2 1/7 2/7/4 3/7/6 4/7/6/2 3/7/4/2 ")
	f.move(one, button, "b")
	tells(t, f.doc, "1/1 2/2 1/3 2/4 3/6 4/6/2 3/4/2 1/7 2/7/4 3/7/6 4/7/6/2 3/7/4/2 ") // passed over: card would be within itself
	f.move(card, trash, "a")
	tells(t, f.doc, "1/1 2/2 1/7 2/7/4 3/7/6 4/7/6/2 3/7/4/2 ")
	f.move(button, trash, "a")
	tells(t, f.doc, "1/7 2/7/4 3/7/6 4/7/6/2 3/7/4/2 ")
}

func TestP1502Values(t *testing.T) {
	f := newDraft(t)
	n := f.create(root, "a")
	want := [api.MaxProps]api.Value{yes, no, text("a b"), fixed(-1), fixed(0), fixed(1 << 40), fixed(7), whole(-1 << 40)}
	for i, v := range want {
		f.set(n, i+1, v)
	}
	if l := built(t, f.doc); l[0].Values != want {
		t.Error(l)
	}
	holds(t, f.doc)
	f.set(n, value.Fill, none)
	want[value.Fill-1] = none
	if l := built(t, f.doc); l[0].Values != want {
		t.Error(l)
	}
}

func resolves(t *testing.T, d *doc.Doc, l []api.Stamp, n api.Stamp, prop int, want api.Value) {
	t.Helper()
	if got := draw.Resolve(d, l, n, prop); got != want {
		t.Fatalf("Resolve on %v of %v, %d: %v, want %v", l, n, prop, got, want)
	}
	items, _ := draw.Build(d, mostDraw)
	if i := draw.Place(items, l, n); i >= 0 && items[i].Values[prop-1] != want {
		t.Fatalf("%v of the item %d, want %v", items[i].Values[prop-1], i, want)
	}
}

// nest: a master with a node; a second one with an instance of that; a third one with an instance of the second; and one instance of the third below the root.
func nest(t *testing.T) (f *draft, leaf api.Stamp, all []api.Stamp) {
	f = newDraft(t)
	inner := f.create(trash, "a")
	leaf = f.create(inner, "a")
	for range 3 {
		outer := f.create(trash, "a")
		all = append(path(f.instance(outer, "a", inner)), all...)
		inner = outer
	}
	f.move(inner, root, "z")
	return f, leaf, all
}

func TestP1502OutermostOverrideFirst(t *testing.T) {
	f, leaf, all := nest(t)
	resolves(t, f.doc, all, leaf, value.Fill, none)
	f.set(leaf, value.Fill, whole(1))
	resolves(t, f.doc, all, leaf, value.Fill, whole(1))
	f.over(all[2], path(leaf), value.Fill, whole(2))
	resolves(t, f.doc, all, leaf, value.Fill, whole(2))
	f.over(all[1], path(all[2], leaf), value.Fill, whole(3))
	resolves(t, f.doc, all, leaf, value.Fill, whole(3))
	f.over(all[0], path(all[1], all[2], leaf), value.Fill, whole(4))
	resolves(t, f.doc, all, leaf, value.Fill, whole(4))
	resolves(t, f.doc, all[1:], leaf, value.Fill, whole(3))
	resolves(t, f.doc, all[2:], leaf, value.Fill, whole(2))
	resolves(t, f.doc, nil, leaf, value.Fill, whole(1))
	resolves(t, f.doc, path(), leaf, value.Fill, whole(1))
	resolves(t, f.doc, all, leaf, value.X, none)
	f.over(all[2], path(leaf), value.Fill, whole(5)) // the outermost one stands, though this one was written last
	resolves(t, f.doc, all, leaf, value.Fill, whole(4))
	f.over(all[0], path(all[1], all[2], leaf), value.Fill, none) // no override any more
	resolves(t, f.doc, all, leaf, value.Fill, whole(3))
	f.over(all[1], path(all[2], leaf), value.Fill, none)
	f.over(all[2], path(leaf), value.Fill, none)
	resolves(t, f.doc, all, leaf, value.Fill, whole(1))
	holds(t, f.doc)
}

// An override holds for its own path alone: not for a part of it, nor for one that goes on, nor one that begins further out.
func TestP1502OverridesOfOtherPaths(t *testing.T) {
	f, leaf, all := nest(t)
	f.over(all[0], path(leaf), value.Fill, whole(1))
	f.over(all[0], path(all[1], leaf), value.Fill, whole(2))
	f.over(all[0], path(all[2], leaf), value.Fill, whole(3))
	f.over(all[0], path(all[2], all[1], leaf), value.Fill, whole(4))
	f.over(all[0], path(all[1], all[2]), value.Fill, whole(5))
	f.over(all[0], path(all[1], all[2], leaf, leaf), value.Fill, whole(6))
	f.over(all[1], path(all[0], all[2], leaf), value.Fill, whole(7))
	f.over(leaf, path(leaf), value.Fill, whole(8))
	f.over(leaf, all, value.Fill, whole(9))
	resolves(t, f.doc, all, leaf, value.Fill, none)
	resolves(t, f.doc, all[:2], all[2], value.Fill, whole(5))
	resolves(t, f.doc, all[:1], leaf, value.Fill, whole(1))
	resolves(t, f.doc, path(leaf), leaf, value.Fill, whole(8))
	holds(t, f.doc)
}

// An override may be of an instance within: of its values, and of whether it is drawn at all.
func TestP1502OverridesOfInstances(t *testing.T) {
	f, _, all := nest(t)
	tells(t, f.doc, "1/9 2/10 3/10/7 4/10/7/4 5/10/7/4/2 ")
	f.over(all[0], path(all[1], all[2]), value.Name, text("x"))
	resolves(t, f.doc, all[:2], all[2], value.Name, text("x"))
	f.over(all[0], path(all[1], all[2]), value.Hidden, yes)
	tells(t, f.doc, "1/9 2/10 3/10/7 ")
	f.over(all[0], path(all[1]), value.Hidden, yes)
	tells(t, f.doc, "1/9 2/10 ")
	f.over(all[0], path(all[1]), value.Hidden, no)
	f.set(all[1], value.Hidden, yes)
	f.over(all[0], path(all[1], all[2]), value.Hidden, none)
	tells(t, f.doc, "1/9 2/10 3/10/7 4/10/7/4 5/10/7/4/2 ")
	f.over(all[0], path(all[1]), value.Hidden, none)
	tells(t, f.doc, "1/9 2/10 ")
}

// Overrides have paths of at most eight nodes: of nine instances the second one's is the outermost that there may be.
func TestP1502LongPaths(t *testing.T) {
	f := newDraft(t)
	inner := f.create(trash, "a")
	leaf := f.create(inner, "a")
	var all []api.Stamp
	for i := range mostPath + 4 {
		outer := root
		if i < mostPath+3 {
			outer = f.create(trash, "a")
		}
		all = append(path(f.instance(outer, "a", inner)), all...)
		inner = outer
	}
	last := all[len(all)-mostPath:]
	f.over(last[1], append(slices.Clone(last[2:]), leaf), value.Fill, whole(7))
	resolves(t, f.doc, all, leaf, value.Fill, whole(7))
	f.over(last[0], append(slices.Clone(last[1:]), leaf), value.Fill, whole(8))
	resolves(t, f.doc, all, leaf, value.Fill, whole(8))
	resolves(t, f.doc, last, leaf, value.Fill, whole(8))
	resolves(t, f.doc, last[1:], leaf, value.Fill, whole(7))
	f.over(all[0], append(slices.Clone(last[1:]), leaf), value.Fill, whole(9)) // of a path that begins elsewhere
	resolves(t, f.doc, all, leaf, value.Fill, whole(8))
	f.over(last[0], last, value.Fill, whole(10))
	resolves(t, f.doc, all, leaf, value.Fill, whole(8))
	holds(t, f.doc)
}

func TestP1502Hidden(t *testing.T) {
	f := family(t)
	f.set(at(8, 0), value.Hidden, no)
	tells(t, f.doc, familyText)
	f.set(at(7, 0), value.Hidden, no)
	tells(t, f.doc, familyText+"1/7 2/8 ")
	f.set(at(7, 0), value.Hidden, none)
	tells(t, f.doc, familyText+"1/7 2/8 ")
	f.set(at(7, 0), value.Hidden, yes)
	f.set(at(7, 0), value.Locked, yes)
	tells(t, f.doc, familyText)
	// The master hides what is below it, of the master's own place and of each instance.
	f.set(at(2, 0), value.Hidden, yes)
	tells(t, f.doc, "1/1 1/4 2/6 1/9 ")
	f.over(at(4, 0), path(at(2, 0)), value.Hidden, no)
	tells(t, f.doc, "1/1 1/4 2/6 2/4/2 3/4/3 1/9 ")
	f.over(at(4, 0), path(at(3, 0)), value.Hidden, yes)
	tells(t, f.doc, "1/1 1/4 2/6 2/4/2 1/9 ")
	f.set(at(2, 0), value.Hidden, no)
	tells(t, f.doc, "1/1 2/2 3/3 1/4 2/6 2/4/2 1/9 2/9/2 3/9/3 ")
	f.set(at(4, 0), value.Hidden, yes) // an instance that is hidden unfolds nothing
	tells(t, f.doc, "1/1 2/2 3/3 1/9 2/9/2 3/9/3 ")
	f.set(at(1, 0), value.Hidden, yes) // a master that is hidden is unfolded still
	tells(t, f.doc, "1/9 2/9/2 3/9/3 ")
}

// Resolve is asked also of what is not drawn, or not there: registers have what was written.
func TestP1502ResolveOfWhatIsNotDrawn(t *testing.T) {
	f := family(t)
	resolves(t, f.doc, path(at(9, 0)), at(7, 0), value.Hidden, yes)
	resolves(t, f.doc, path(at(4, 0)), at(3, 0), value.Fill, whole(9))
	f.move(at(4, 0), trash, "a")
	resolves(t, f.doc, path(at(4, 0)), at(3, 0), value.Fill, whole(9))
	f.do(op.Op{Kind: op.Point, Node: at(4, 0)})
	resolves(t, f.doc, path(at(4, 0)), at(3, 0), value.Fill, whole(9))
	f.over(at(500, 5), path(at(600, 6), at(700, 7)), value.Fill, whole(3))
	f.set(at(700, 7), value.X, fixed(3))
	resolves(t, f.doc, path(at(500, 5), at(600, 6)), at(700, 7), value.Fill, whole(3))
	resolves(t, f.doc, path(at(1, 0), at(500, 5), at(600, 6)), at(700, 7), value.Fill, whole(3))
	resolves(t, f.doc, path(at(500, 5)), at(700, 7), value.Fill, none)
	resolves(t, f.doc, nil, at(700, 7), value.X, fixed(3))
}

// once asks whether a list holds what is promised of it, by what the document tells.
func once(t *testing.T, d *doc.Doc, l []draw.Item) {
	t.Helper()
	for i, x := range l {
		if draw.Place(l, x.Path, x.Node) != i {
			t.Fatalf("%v on %v stands twice", x.Node, x.Path)
		}
		if x.Values[value.Hidden-1] == yes {
			t.Fatalf("%v on %v is hidden", x.Node, x.Path)
		}
		spot, there := d.Spot(x.Node)
		if !there {
			t.Fatalf("%v is not there", x.Node)
		}
		from, depth := draw.Place(l[:i], x.Path, spot.Parent), 1
		if len(x.Path) > 0 {
			last := x.Path[len(x.Path)-1]
			master, points := d.Ref(last)
			if !points || !slices.Contains(d.Above(x.Node), master) {
				t.Fatalf("%v is not within the master %v of %v", x.Node, master, last)
			}
			if spot.Parent == master {
				from = draw.Place(l[:i], x.Path[:len(x.Path)-1], last)
			}
		}
		if from >= 0 {
			depth = l[from].Depth + 1
		}
		if from < 0 && (len(x.Path) > 0 || spot.Parent != root) || x.Depth != depth {
			t.Fatalf("%v on %v, of depth %d: nothing ahead is above it", x.Node, x.Path, x.Depth)
		}
	}
	for _, n := range d.Nodes() {
		hides := func(m api.Stamp) bool { return d.Value(m, value.Hidden) == yes }
		want := d.Alive(n) && !hides(n) && !slices.ContainsFunc(d.Above(n), hides)
		if got := draw.Place(l, nil, n) >= 0; got != want {
			t.Fatalf("%v on the empty path: %t, want %t", n, got, want)
		}
	}
}

// anyOp is an op on nodes that are there, mostly one that is done and seen.
func anyOp(r *rand.Rand, d *doc.Doc) op.Op {
	nodes := d.Nodes()
	some := func() api.Stamp { return nodes[r.Intn(len(nodes))] }
	place := func() api.Stamp {
		if k := r.Intn(8); len(nodes) == 0 || k < 2 {
			return []api.Stamp{root, root, root, trash}[r.Intn(4)]
		}
		return some()
	}
	key := string(rune('a' + r.Intn(4)))
	if len(nodes) < 4 || r.Intn(4) == 0 {
		return op.Op{Kind: op.Create, Ref: place(), Key: key}
	}
	prop, v := value.Fill, whole(r.Intn(9))
	if r.Intn(3) == 0 {
		prop, v = value.Hidden, []api.Value{yes, no, no, none}[r.Intn(4)]
	}
	switch r.Intn(10) {
	case 0:
		return op.Op{Kind: op.Move, Node: some(), Ref: place(), Key: key}
	case 1, 2, 3, 4:
		return op.Op{Kind: op.Point, Node: some(), Ref: some()}
	case 5:
		return op.Op{Kind: op.Set, Node: some(), Prop: prop, Value: v}
	}
	l, _ := draw.Build(d, mostDraw)
	x := op.Op{Kind: op.Override, Node: some(), Path: path(some()), Prop: prop, Value: v}
	if len(l) > 0 {
		item := l[r.Intn(len(l))]
		whole := append(slices.Clone(item.Path), item.Node)
		i := r.Intn(len(whole))
		if rest := whole[i+1:]; len(rest) > 0 && len(rest) <= mostPath {
			x.Node, x.Path = whole[i], rest
		}
	}
	return x
}

func TestP1503LawsOfAnyDocument(t *testing.T) {
	r := rand.New(rand.NewSource(15))
	long := 0
	for range 40 {
		f := newDraft(t)
		for step := range 140 {
			f.do(anyOp(r, f.doc))
			if step%10 != 9 {
				continue
			}
			holds(t, f.doc)
			l := built(t, f.doc)
			once(t, f.doc, l)
			for _, x := range l {
				if len(x.Path) > 2 {
					long++
				}
			}
		}
	}
	if long == 0 {
		t.Error("no path of three")
	}
}

func TestP1503Examples(t *testing.T) {
	f, _, all := nest(t)
	once(t, f.doc, built(t, f.doc))
	f.instance(root, "a", all[0])
	f.instance(all[0], "a", at(1, 0))
	once(t, f.doc, built(t, f.doc))
	once(t, family(t).doc, built(t, family(t).doc))
}

// Batches of several replicas, in any order: one document, one list.
func TestP1504AnyOrder(t *testing.T) {
	r := rand.New(rand.NewSource(1504))
	for range 30 {
		d := doc.New()
		var all []batch.Batch
		var seq [3]int
		for time := 1; time <= 80; time++ {
			replica := r.Intn(3)
			seq[replica]++
			x := batch.Batch{Replica: replica, Seq: seq[replica], Time: time, Ops: []op.Op{anyOp(r, d)}}
			if n, e := d.Apply(x); n != 1 || e != api.OK {
				t.Fatal(n, e)
			}
			all = append(all, x)
		}
		want, e := draw.Build(d, mostDraw)
		for range 5 {
			r.Shuffle(len(all), func(i, j int) { all[i], all[j] = all[j], all[i] })
			other := doc.Of(slices.Concat(all, all)...)
			if !other.Same(d) {
				t.Fatal("the documents are not the same")
			}
			got, f := draw.Build(other, mostDraw)
			if f != e || !sameList(got, want) || draw.Count(other, mostDraw) != draw.Count(d, mostDraw) {
				t.Fatalf("%d %s\nwant\n%d %s", f, short(got), e, short(want))
			}
		}
	}
}

// Documents of other batches that are the same, too: what was passed over or written again is not seen.
func TestP1504OtherBatches(t *testing.T) {
	a, b := family(t), family(t)
	b.do(op.Op{Kind: op.Point, Node: at(1, 0), Ref: at(3, 0)}, op.Op{Kind: op.Move, Node: at(1, 0), Ref: at(3, 0), Key: "z"})
	b.set(at(3, 0), value.Fill, whole(6))
	b.set(at(3, 0), value.Fill, whole(5))
	b.set(at(500, 5), value.Fill, none)
	b.over(at(9, 0), path(at(3, 0)), value.Fill, none)
	if !a.doc.Same(b.doc) || a.doc.Vector() == b.doc.Vector() {
		t.Fatal("the documents are not the same, or have the same batches")
	}
	if !sameList(built(t, a.doc), built(t, b.doc)) || !sameList(built(t, a.doc), built(t, a.doc.Clone())) {
		t.Error("two lists")
	}
}
