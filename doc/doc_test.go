package doc_test

import (
	"fmt"
	"math"
	"math/rand"
	"slices"
	"strings"
	"sync"
	"testing"

	"diorama/api"
	"diorama/batch"
	"diorama/doc"
	"diorama/graph"
	"diorama/op"
	"diorama/oplog"
	"diorama/order"
	"diorama/props"
	"diorama/tree"
	"diorama/value"
	"diorama/vector"
)

const (
	mostTime    = 1 << 40
	mostOps     = 64
	mostBatches = 512
	mostWaiting = 64
)

func at(time, replica int) api.Stamp { return api.Stamp{Time: time, Replica: replica} }

var (
	root, trash = at(0, 0), at(0, 1)
	none        = api.Value{}
	yes         = api.Value{Kind: value.Flag, N: 1}
	no          = api.Value{Kind: value.Flag}
)

func whole(n int) api.Value { return api.Value{Kind: value.Int, N: n} }

func create(p api.Stamp, key string) op.Op { return op.Op{Kind: op.Create, Ref: p, Key: key} }

func move(n, p api.Stamp, key string) op.Op {
	return op.Op{Kind: op.Move, Node: n, Ref: p, Key: key}
}

func point(n, master api.Stamp) op.Op { return op.Op{Kind: op.Point, Node: n, Ref: master} }

func mark(n api.Stamp, on bool) op.Op { return op.Op{Kind: op.Mark, Node: n, On: on} }

func set(n api.Stamp, prop int, v api.Value) op.Op {
	return op.Op{Kind: op.Set, Node: n, Prop: prop, Value: v}
}

func over(n api.Stamp, prop int, v api.Value, path ...api.Stamp) op.Op {
	return op.Op{Kind: op.Override, Node: n, Path: path, Prop: prop, Value: v}
}

func made(replica, seq, time int, ops ...op.Op) batch.Batch {
	return batch.Batch{Replica: replica, Seq: seq, Time: time, Ops: ops}
}

// node is a batch that makes the node of the stamp 10 Seq, Replica, below the root.
func node(replica, seq int) batch.Batch { return made(replica, seq, 10*seq, create(root, "a")) }

func applies(t *testing.T, d *doc.Doc, x batch.Batch, came int, want api.Errno) {
	t.Helper()
	if n, e := d.Apply(x); n != came || e != want {
		t.Fatalf("Apply of %.300s: %d %d, want %d %d", fmt.Sprint(x), n, e, came, want)
	}
}

// fill applies batches, each of which comes into the log alone.
func fill(t *testing.T, d *doc.Doc, l ...batch.Batch) *doc.Doc {
	t.Helper()
	for _, x := range l {
		applies(t, d, x, 1, api.OK)
	}
	return d
}

// model is what the layers below tell, where each is given its own: the log the batches as they come, graph and registers all ops at once, by rising stamps.
type model struct {
	log   *oplog.Log
	graph *graph.Graph
	regs  *props.Regs
}

func modelOf(l ...batch.Batch) model {
	m := model{log: oplog.New(), graph: graph.New(), regs: props.New()}
	for _, x := range l {
		m.log.Add(x)
	}
	for _, x := range m.log.Entries() {
		switch x.Op.Kind {
		case op.Create, op.Move, op.Point:
			m.graph.Insert(x.Stamp, x.Op)
		case op.Set, op.Mark, op.Override:
			m.regs.Do(x.Stamp, x.Op)
		}
	}
	return m
}

// locked and alive go up step by step.
func (m model) locked(n api.Stamp) bool {
	for spot, there := m.graph.Spot(n); there; spot, there = m.graph.Spot(n) {
		if m.regs.Value(n, value.Locked) == yes {
			return true
		}
		n = spot.Parent
	}
	return false
}

func (m model) alive(n api.Stamp) bool {
	spot, there := m.graph.Spot(n)
	for there && spot.Parent != root {
		spot, there = m.graph.Spot(spot.Parent)
	}
	return there
}

// strange are stamps that may not be, huge ones, and such of which no test makes nodes.
var strange = []api.Stamp{
	at(-1, 0), at(0, -1), at(0, 16), at(1, -1), at(1, 16), at(mostTime+1, 0), at(mostTime, 16), at(-1, 1), at(0, 2), at(0, 15), at(777, 7), at(mostTime, 15),
	at(math.MinInt, math.MinInt), at(math.MaxInt, math.MaxInt), at(math.MaxInt, 0), at(0, math.MaxInt), at(math.MinInt, 1), at(1, 1<<32), at(1<<32, 1<<32),
}

var numbers = []int{math.MinInt, -1 << 32, -2, -1, 0, 9, 10, 64, 1 << 32, 1<<32 + 1, math.MaxInt}

// holds asks every look whether the document is that of the batches, when they come in this order.
func holds(t *testing.T, d *doc.Doc, l ...batch.Batch) {
	t.Helper()
	m := modelOf(l...)
	if d.Vector() != m.log.Vector() || d.Time() != m.log.Time() {
		t.Fatalf("Vector %v, Time %d, want %v, %d", d.Vector(), d.Time(), m.log.Vector(), m.log.Time())
	}
	if log := d.Log(); log.Digest() != m.log.Digest() || log.Total() != m.log.Total() || log.Waiting() != m.log.Waiting() {
		t.Fatalf("Log: %d batches, %d wait, want %d, %d", log.Total(), log.Waiting(), m.log.Total(), m.log.Waiting())
	}
	if got, want := d.Nodes(), m.graph.Nodes(); !slices.Equal(got, want) {
		t.Fatalf("Nodes %v, want %v", got, want)
	}
	places := slices.Concat([]api.Stamp{root, trash}, strange)
	var overs []op.Op
	for _, x := range m.log.Entries() {
		places = append(places, x.Stamp)
		if x.Op.Kind == op.Override {
			overs = append(overs, x.Op)
		}
	}
	for _, p := range places {
		holdsPlace(t, d, m, p)
	}
	for _, x := range overs {
		got, ok := d.Over(x.Node, x.Path, x.Prop)
		want, there := m.regs.Over(x.Node, x.Path, x.Prop)
		if got != want || ok != there {
			t.Fatalf("Over of %v: %v %t, want %v %t", x, got, ok, want, there)
		}
	}
	if !d.Same(d) || !d.Same(d.Clone()) || !d.Clone().Same(d) {
		t.Fatal("a document is not the same as itself")
	}
}

func holdsPlace(t *testing.T, d *doc.Doc, m model, p api.Stamp) {
	t.Helper()
	if d.Has(p) != m.graph.Has(p) || d.Marked(p) != m.regs.Marked(p) || d.Locked(p) != m.locked(p) || d.Alive(p) != m.alive(p) {
		t.Fatalf("%v: Has %t, Marked %t, Locked %t, Alive %t", p, d.Has(p), d.Marked(p), d.Locked(p), d.Alive(p))
	}
	spot, ok := d.Spot(p)
	if want, there := m.graph.Spot(p); spot != want || ok != there {
		t.Fatalf("Spot of %v: %v %t, want %v %t", p, spot, ok, want, there)
	}
	master, ok := d.Ref(p)
	if want, there := m.graph.Ref(p); master != want || ok != there {
		t.Fatalf("Ref of %v: %v %t, want %v %t", p, master, ok, want, there)
	}
	if got, want := d.Row(p), m.graph.Row(p); !slices.Equal(got, want) {
		t.Fatalf("Row of %v: %v, want %v", p, got, want)
	}
	if got, want := d.Above(p), m.graph.Above(p); !slices.Equal(got, want) {
		t.Fatalf("Above %v: %v, want %v", p, got, want)
	}
	for prop := 0; prop <= api.MaxProps+1; prop++ {
		if got, want := d.Value(p, prop), m.regs.Value(p, prop); got != want {
			t.Fatalf("Value of %v, %d: %v, want %v", p, prop, got, want)
		}
	}
	for _, up := range []bool{true, false} {
		for _, q := range append(d.Above(p), p, master, root, trash, at(1, 0)) {
			if d.Reaches(p, q, up) != m.graph.Reaches(p, q, up) || d.Reaches(q, p, up) != m.graph.Reaches(q, p, up) {
				t.Fatalf("Reaches of %v, %v, up %t: %t %t", p, q, up, d.Reaches(p, q, up), d.Reaches(q, p, up))
			}
		}
	}
}

// family: of the root 1@0 (of it 2@0, of that 3@0 and 3@1) and 5@2 (it points to 2@0), of the trash 4@0 (of it 20@1); 2@0 is marked, 1@0 has a Name, 2@0 is Locked, and 5@2 overrides 3@0's Fill.
var family = []batch.Batch{
	made(0, 1, 1, create(root, "a"), create(at(1, 0), "b"), create(at(2, 0), "c"), create(trash, "a")),
	made(1, 1, 3, create(at(2, 0), "b")),
	made(2, 1, 5, create(root, "a"), point(at(5, 2), at(2, 0)), over(at(5, 2), value.Fill, whole(7), at(3, 0))),
	made(0, 2, 9, mark(at(2, 0), true), set(at(1, 0), value.Name, api.Value{Kind: value.Text, T: "top"}), set(at(2, 0), value.Locked, yes)),
	made(1, 2, 20, create(at(99, 0), "d"), move(at(20, 1), at(4, 0), "e"), move(at(1, 0), at(3, 0), "f"), set(at(3, 0), value.Fill, whole(-3))),
}

// unmade are documents that neither New nor Of made.
func unmade() map[string]*doc.Doc {
	return map[string]*doc.Doc{"nil": nil, "new": new(doc.Doc), "literal": {}}
}

func TestP1401NilAndUnmadeDocs(t *testing.T) {
	for name, d := range unmade() {
		for range 2 {
			for _, x := range []batch.Batch{node(0, 1), node(0, 2), node(3, 1), {}} {
				applies(t, d, x, 0, api.ErrArg)
			}
			if d.Log() != nil || d.Clone() != nil || d.Vector() != (vector.Vector{}) || d.Time() != 0 || len(d.Nodes()) != 0 {
				t.Error(name, "Log, Clone, Vector, Time or Nodes")
			}
			for _, n := range append([]api.Stamp{root, trash, at(1, 0), at(10, 0)}, strange...) {
				if got, ok := d.Spot(n); got != (tree.Spot{}) || ok {
					t.Error(name, "Spot", got, ok)
				}
				if got, ok := d.Ref(n); got != (api.Stamp{}) || ok {
					t.Error(name, "Ref", got, ok)
				}
				if got, ok := d.Over(n, []api.Stamp{n}, value.Fill); got != none || ok {
					t.Error(name, "Over", got, ok)
				}
				if d.Has(n) || d.Marked(n) || d.Locked(n) || d.Alive(n) || d.Reaches(n, n, true) || d.Reaches(n, n, false) {
					t.Error(name, "Has, Marked, Locked, Alive or Reaches", n)
				}
				if len(d.Row(n)) != 0 || len(d.Above(n)) != 0 || d.Value(n, value.Locked) != none {
					t.Error(name, "Row, Above or Value", n)
				}
			}
			for _, other := range []*doc.Doc{nil, {}, d, doc.New(), doc.Of(family...)} {
				if d.Same(other) || other.Same(d) {
					t.Error(name, "Same")
				}
			}
		}
	}
}

func TestP1401DocsAreApart(t *testing.T) {
	a, b := doc.New(), doc.New()
	fill(t, a, node(0, 1), node(1, 1))
	applies(t, a, node(2, 2), 0, api.ErrGap)
	holds(t, b)
	fill(t, b, made(0, 1, 10, create(trash, "b"), mark(at(10, 0), true)))
	holds(t, a, node(0, 1), node(1, 1), node(2, 2))
	if a.Marked(at(10, 0)) || !b.Marked(at(10, 0)) || a.Same(b) {
		t.Error("one document's ops are in the other one")
	}
}

// A copy of the struct is the same document: log, graph and registers of both have the same batches.
func TestP1401CopyOfTheStruct(t *testing.T) {
	d := doc.New()
	c := *d
	for i, x := range family {
		fill(t, []*doc.Doc{d, &c}[i%2], x)
		holds(t, d, family[:i+1]...)
		holds(t, &c, family[:i+1]...)
	}
}

func copyOf(l []batch.Batch) []batch.Batch {
	l = slices.Clone(l)
	for i := range l {
		l[i].Ops = slices.Clone(l[i].Ops)
		for j := range l[i].Ops {
			l[i].Ops[j].Path = slices.Clone(l[i].Ops[j].Path)
		}
	}
	return l
}

func scribble(l []batch.Batch) {
	for i := range l {
		for j, y := range l[i].Ops {
			for k := range y.Path {
				y.Path[k] = at(77, 7)
			}
			l[i].Ops[j] = op.Op{Kind: 99}
		}
		l[i] = batch.Batch{Replica: 99}
	}
}

func alike(a, b []batch.Batch) bool { return slices.EqualFunc(a, b, batch.Same) }

func TestP1401NothingIsKept(t *testing.T) {
	l := copyOf(family)
	d := doc.Of(l...)
	scribble(l)
	holds(t, d, family...)
	turned := copyOf(family)
	slices.Reverse(turned)
	d = doc.New()
	for _, x := range turned {
		l := copyOf([]batch.Batch{x})
		d.Apply(l[0])
		scribble(l)
	}
	holds(t, d, turned...)
}

func TestP1401ArgumentsStay(t *testing.T) {
	l := copyOf(family)
	d := doc.Of(l[1:3]...)
	if !alike(l, family) {
		t.Fatal("Of changes its batches, or the room around them")
	}
	room := slices.Concat(l[0].Ops, l[3].Ops, l[4].Ops)
	kept := copyOf([]batch.Batch{{Ops: room}})
	fill(t, d, made(0, 1, 1, room[:4]...))
	fill(t, d, made(0, 2, 9, room[4:7]...))
	applies(t, d, made(0, 2, 9, room[4:7]...), 0, api.ErrThere)
	applies(t, d, made(0, 9, 9, room[4:7]...), 0, api.ErrGap)
	path := []api.Stamp{at(3, 0), at(5, 2), at(2, 0)}
	if v, ok := d.Over(at(5, 2), path[:1], value.Fill); v != whole(7) || !ok {
		t.Error("Over", v, ok)
	}
	if !alike([]batch.Batch{{Ops: room}}, kept) || !slices.Equal(path, []api.Stamp{at(3, 0), at(5, 2), at(2, 0)}) {
		t.Error("ops, a path, or the room around them, were changed")
	}
}

func TestP1401AnswersAreNew(t *testing.T) {
	d := doc.Of(family...)
	for range 2 {
		for _, look := range []func() []api.Stamp{d.Nodes, func() []api.Stamp { return d.Above(at(3, 0)) }} {
			one, two := look(), look()
			kept := slices.Clone(two)
			for i := range one[:cap(one)] {
				one[:cap(one)][i] = at(77, 7)
			}
			if !slices.Equal(two, kept) {
				t.Fatal("two answers share memory")
			}
		}
		one, two := d.Row(at(2, 0)), d.Row(at(2, 0))
		for i := range one[:cap(one)] {
			one[:cap(one)][i] = order.Sib{Key: "z", Node: at(77, 7)}
		}
		if len(two) != 2 || two[0].Node != at(3, 1) {
			t.Fatal("two rows share memory")
		}
		log, other := d.Log(), d.Log()
		if log == other {
			t.Fatal("one log is answered twice")
		}
		log.Add(node(7, 1))
		log.Add(node(8, 2))
		scribble(log.Since(vector.Vector{}, 99))
		if other.Total() != len(family) || other.Waiting() != 0 {
			t.Fatal("two logs share memory")
		}
		holds(t, d, family...)
	}
}

func TestP1401AnyArguments(t *testing.T) {
	d := doc.Of(family...)
	long := slices.Repeat([]api.Stamp{at(3, 0)}, 100)
	for _, n := range append([]api.Stamp{root, trash, at(1, 0), at(5, 2)}, strange...) {
		for _, prop := range numbers {
			if v := d.Value(n, prop); v != none {
				t.Error("Value", n, prop, v)
			}
			for _, path := range [][]api.Stamp{nil, {}, long[:1], long[:8], long[:9], long, strange} {
				if v, ok := d.Over(n, path, prop); v != none || ok {
					t.Error("Over", n, path, prop, v, ok)
				}
			}
		}
		for _, m := range strange {
			if d.Reaches(n, m, true) || d.Reaches(n, m, false) || d.Reaches(m, n, true) || d.Reaches(m, n, false) {
				t.Error("Reaches", n, m)
			}
		}
	}
	if v, ok := d.Over(at(5, 2), append(long[:1:1], api.Stamp{}), value.Fill); v != none || ok {
		t.Error("Over of a longer path", v, ok)
	}
	for _, a := range numbers {
		for _, x := range []batch.Batch{made(a, a, a), made(a, 1, 1, create(root, "a")), made(0, a, 1, create(root, "a"))} {
			if batch.Right(x) {
				continue
			}
			applies(t, d, x, 0, api.ErrArg)
		}
	}
	holds(t, d, family...)
}

// Looks change nothing, so that several may look at once, also where nobody looked since the last batch.
func TestP1401LooksAtOnce(t *testing.T) {
	for range 20 {
		d := doc.Of(family...)
		for seq := 1; seq <= 40; seq++ {
			d.Apply(made(9, seq, 100*seq, slices.Repeat([]op.Op{create(at(1, 0), "a")}, mostOps)...))
		}
		last := at(4000+mostOps-1, 9)
		var all sync.WaitGroup
		start := make(chan struct{})
		for range 8 {
			all.Add(1)
			go func() {
				defer all.Done()
				<-start
				if !d.Alive(last) || d.Locked(last) || !d.Has(last) || !d.Same(d.Clone()) || d.Log().Total() != 45 || !d.Marked(at(2, 0)) {
					t.Error("a look of several at once")
				}
			}()
		}
		close(start)
		all.Wait()
	}
}

func TestP1401SameStepsSameAnswers(t *testing.T) {
	var told []string
	for range 3 {
		rnd := rand.New(rand.NewSource(1401))
		d := doc.New()
		var steps strings.Builder
		for _, x := range anyBatches(rnd, 4, 12) {
			came, e := d.Apply(x)
			n, m := anyStamp(rnd, 12), anyStamp(rnd, 12)
			spot, ok := d.Spot(n)
			fmt.Fprint(&steps, came, e, d.Vector(), d.Time(), d.Nodes(), spot, ok, d.Row(n), d.Row(root), d.Above(m), d.Locked(n), d.Alive(m), d.Reaches(n, m, true), d.Log().Digest())
		}
		told = append(told, steps.String())
	}
	if told[0] != told[1] || told[1] != told[2] {
		t.Error("the same steps have other answers")
	}
}

func TestP1402New(t *testing.T) {
	holds(t, doc.New())
	holds(t, doc.Of())
	holds(t, doc.Of([]batch.Batch{}...))
	d := doc.New()
	if !d.Has(root) || !d.Has(trash) || d.Alive(root) || d.Locked(root) || d.Alive(trash) || !d.Same(doc.Of()) || d.Log() == nil || d.Clone() == nil {
		t.Error("a document of no batches")
	}
}

func TestP1402Of(t *testing.T) {
	for i := range len(family) + 1 {
		holds(t, doc.Of(family[:i]...), family[:i]...)
	}
	// Those that the log refuses are left out, those that wait come with the one ahead, and of two of one number the first one counts.
	second := made(0, 2, 20, mark(at(10, 0), true))
	d := doc.Of(batch.Batch{}, second, node(1, 2), node(0, 1), made(0, 1, 10, create(trash, "z")), node(0, 2), made(0, 3, 20, mark(at(10, 0), false)), node(1, 3))
	holds(t, d, second, node(0, 1), node(1, 2), node(1, 3))
	if !d.Alive(at(10, 0)) || !d.Marked(at(10, 0)) || d.Has(at(20, 0)) || d.Has(at(20, 1)) || d.Log().Waiting() != 2 || d.Time() != 20 {
		t.Error("Of", d.Nodes(), d.Log().Waiting())
	}
	fill(t, d, made(2, 1, 5, create(at(10, 0), "b")))
	applies(t, d, node(1, 1), 3, api.OK)
	if !slices.Equal(d.Nodes(), []api.Stamp{at(5, 2), at(10, 0), at(10, 1), at(20, 1), at(30, 1)}) || d.Alive(at(5, 2)) {
		t.Error("Nodes", d.Nodes())
	}
}

// The chapter's example.
func TestP1402Example(t *testing.T) {
	d := doc.Of(made(0, 1, 1, create(root, "\x80")))
	if l := d.Nodes(); !slices.Equal(l, []api.Stamp{at(1, 0)}) {
		t.Error("Nodes", l)
	}
}

func TestP1402Apply(t *testing.T) {
	d := doc.New()
	var all []batch.Batch
	steps := []struct {
		x    batch.Batch
		came int
		e    api.Errno
	}{
		{node(0, 1), 1, api.OK},
		{node(0, 1), 0, api.ErrThere},
		{made(0, 1, 1, mark(at(1, 0), true)), 0, api.ErrThere},
		{node(0, 3), 0, api.ErrGap},
		{node(0, 3), 0, api.ErrThere},
		{node(0, 4), 0, api.ErrGap},
		{made(0, 2, 10, mark(at(10, 0), true)), 0, api.ErrForm}, // its time does not fit
		{node(0, 2), 3, api.OK},
		{node(0, 4), 0, api.ErrThere},
		{batch.Batch{}, 0, api.ErrArg},
		{made(0, 5, 60), 0, api.ErrArg},
		{made(0, 1, 0, create(root, "a")), 0, api.ErrArg},
		{made(0, 1, 60, create(root, "")), 0, api.ErrArg},
		{made(16, 1, 60, create(root, "a")), 0, api.ErrArg},
		{made(0, mostBatches+1, 60, create(root, "a")), 0, api.ErrArg},
		{made(0, 5, mostTime, create(root, "a"), create(root, "a")), 0, api.ErrArg},
		{made(0, 5, mostTime, create(root, "a")), 1, api.OK},
		{made(0, 6, mostTime, create(root, "a")), 0, api.ErrForm},
		{made(0, mostBatches, 60, create(root, "a")), 0, api.ErrGap},
	}
	for _, s := range steps {
		applies(t, d, s.x, s.came, s.e)
		all = append(all, s.x)
		holds(t, d, all...)
	}
	if d.Time() != mostTime || d.Vector() != (vector.Vector{5}) || d.Log().Waiting() != 1 {
		t.Error("Time, Vector or Log", d.Time(), d.Vector())
	}
}

// full has as many batches as there may be, each with as many ops as there may be.
func full(t *testing.T) *doc.Doc {
	t.Helper()
	d := doc.New()
	for i := range mostBatches {
		replica, time := i%4, 1000*(mostBatches-i%4)+100*(i/4)
		var ops []op.Op
		for j := range mostOps {
			own := at(time+j, replica)
			ops = append(ops, []op.Op{create(at(time, replica), "a"), create(root, "b"), mark(own, true), set(own, value.Fill, whole(i))}[j%4])
		}
		applies(t, d, made(replica, 1+i/4, time, ops...), 1, api.OK)
	}
	return d
}

func TestP1402Full(t *testing.T) {
	d := full(t)
	if len(d.Nodes()) != mostBatches*mostOps/2 || d.Log().Total() != mostBatches || len(d.Row(root)) != mostBatches*mostOps/4 {
		t.Fatal("Nodes, Log or Row", len(d.Nodes()), d.Log().Total(), len(d.Row(root)))
	}
	nodes, c := d.Nodes(), d.Clone()
	for range 2 {
		applies(t, d, node(5, 1), 0, api.ErrFull)
		applies(t, d, made(0, 1+mostBatches/4, mostTime, mark(nodes[0], true)), 0, api.ErrFull)
		applies(t, d, made(0, 1+mostBatches/4, 1, mark(nodes[0], true)), 0, api.ErrFull)
		applies(t, d, node(0, 1), 0, api.ErrThere)
		applies(t, d, batch.Batch{}, 0, api.ErrArg)
	}
	if !slices.Equal(d.Nodes(), nodes) || !d.Same(c) || d.Has(at(10, 5)) || d.Marked(nodes[0]) {
		t.Error("changed by what was refused")
	}
}

func TestP1402TooManyWait(t *testing.T) {
	d := doc.New()
	for seq := 2; seq < 2+mostWaiting; seq++ {
		applies(t, d, node(0, seq), 0, api.ErrGap)
	}
	applies(t, d, node(0, 2+mostWaiting), 0, api.ErrFull)
	applies(t, d, node(1, 2), 0, api.ErrFull)
	if len(d.Nodes()) != 0 {
		t.Error("Nodes", d.Nodes())
	}
	applies(t, d, node(0, 1), 1+mostWaiting, api.OK)
	if len(d.Nodes()) != 1+mostWaiting {
		t.Error("Nodes", d.Nodes())
	}
}

func TestP1402Looks(t *testing.T) {
	d := doc.Of(family...)
	holds(t, d, family...)
	if v := d.Vector(); v != (vector.Vector{2, 2, 1}) || d.Time() != 23 {
		t.Error("Vector or Time", v, d.Time())
	}
	if l := d.Nodes(); !slices.Equal(l, []api.Stamp{at(1, 0), at(2, 0), at(3, 0), at(3, 1), at(4, 0), at(5, 2), at(20, 1)}) {
		t.Error("Nodes", l)
	}
	if !d.Has(root) || !d.Has(trash) || !d.Has(at(20, 1)) || d.Has(at(99, 0)) || d.Has(at(6, 2)) || d.Has(at(9, 0)) {
		t.Error("Has")
	}
	if s, ok := d.Spot(at(20, 1)); s != (tree.Spot{Parent: at(4, 0), Key: "e"}) || !ok {
		t.Error("Spot", s, ok)
	}
	if s, ok := d.Spot(at(1, 0)); s != (tree.Spot{Parent: root, Key: "a"}) || !ok {
		t.Error("Spot of what would stand within itself", s, ok)
	}
	if l := d.Row(at(2, 0)); !slices.Equal(l, []order.Sib{{Key: "b", Node: at(3, 1)}, {Key: "c", Node: at(3, 0)}}) {
		t.Error("Row", l)
	}
	if l := d.Above(at(3, 1)); !slices.Equal(l, []api.Stamp{at(2, 0), at(1, 0), root}) {
		t.Error("Above", l)
	}
	if m, ok := d.Ref(at(5, 2)); m != at(2, 0) || !ok {
		t.Error("Ref", m, ok)
	}
	if v := d.Value(at(1, 0), value.Name); v != (api.Value{Kind: value.Text, T: "top"}) {
		t.Error("Value", v)
	}
	if !d.Marked(at(2, 0)) || d.Marked(at(1, 0)) || d.Marked(root) {
		t.Error("Marked")
	}
	if v, ok := d.Over(at(5, 2), []api.Stamp{at(3, 0)}, value.Fill); v != whole(7) || !ok || d.Value(at(3, 0), value.Fill) != whole(-3) {
		t.Error("Over", v, ok)
	}
	if v, ok := d.Over(at(5, 2), []api.Stamp{at(3, 1)}, value.Fill); v != none || ok {
		t.Error("Over of another path", v, ok)
	}
	if !d.Reaches(at(5, 2), at(3, 1), false) || d.Reaches(at(5, 2), at(3, 1), true) || !d.Reaches(at(5, 2), at(1, 0), true) || d.Reaches(at(3, 1), at(5, 2), true) {
		t.Error("Reaches")
	}
}

// Registers are those of any node, also of one that is not there, or comes later.
func TestP1402RegistersOfWhatIsNotThere(t *testing.T) {
	l := []batch.Batch{made(1, 1, 5, set(at(10, 0), value.Locked, yes), mark(at(10, 0), true), over(at(10, 0), value.X, api.Value{Kind: value.Fixed, N: 3}, at(9, 9)))}
	d := doc.Of(l...)
	v, ok := d.Over(at(10, 0), []api.Stamp{at(9, 9)}, value.X)
	if d.Value(at(10, 0), value.Locked) != yes || !d.Marked(at(10, 0)) || v.N != 3 || !ok {
		t.Error("Value, Marked or Over")
	}
	if d.Has(at(10, 0)) || d.Locked(at(10, 0)) || d.Alive(at(10, 0)) || len(d.Nodes()) != 0 {
		t.Error("a node that nobody made")
	}
	fill(t, d, node(0, 1))
	if !d.Has(at(10, 0)) || !d.Locked(at(10, 0)) || !d.Alive(at(10, 0)) || !d.Marked(at(10, 0)) {
		t.Error("what was written ahead of the node's making is not there")
	}
	holds(t, d, append(l, node(0, 1))...)
}

func TestP1402LongestPath(t *testing.T) {
	path := slices.Repeat([]api.Stamp{at(3, 0)}, api.MaxPath+1)
	d := doc.Of(made(0, 1, 1, over(at(1, 0), value.Fill, whole(4), path[:api.MaxPath]...)))
	for i := range path {
		if v, ok := d.Over(at(1, 0), path[:i+1], value.Fill); ok != (i+1 == api.MaxPath) || ok && v != whole(4) || !ok && v != none {
			t.Error("Over of a path of", i+1, v, ok)
		}
	}
}

func TestP1402Locked(t *testing.T) {
	// Of the root a, of it b, of that c, and aside d; of the trash e.
	a, b, c, aside, e := at(1, 0), at(2, 0), at(3, 0), at(4, 0), at(5, 0)
	base := made(0, 1, 1, create(root, "a"), create(a, "b"), create(b, "c"), create(a, "d"), create(trash, "e"))
	all := []api.Stamp{a, b, c, aside, e}
	for name, k := range map[string]struct {
		ops    []op.Op
		locked []api.Stamp
	}{
		"nothing":                     {[]op.Op{mark(a, true)}, nil},
		"itself alone":                {[]op.Op{set(c, value.Locked, yes)}, []api.Stamp{c}},
		"what is below":               {[]op.Op{set(b, value.Locked, yes)}, []api.Stamp{b, c}},
		"far below":                   {[]op.Op{set(a, value.Locked, yes)}, []api.Stamp{a, b, c, aside}},
		"in the trash":                {[]op.Op{set(e, value.Locked, yes), move(aside, e, "k")}, []api.Stamp{aside, e}},
		"moved out":                   {[]op.Op{set(b, value.Locked, yes), move(c, root, "k")}, []api.Stamp{b}},
		"moved in":                    {[]op.Op{set(e, value.Locked, yes), move(a, e, "k")}, all},
		"the Flag 0":                  {[]op.Op{set(a, value.Locked, no)}, nil},
		"the Flag 0 below the Flag 1": {[]op.Op{set(a, value.Locked, yes), set(b, value.Locked, no)}, []api.Stamp{a, b, c, aside}},
		"no more":                     {[]op.Op{set(a, value.Locked, yes), set(a, value.Locked, none)}, nil},
		"another property":            {[]op.Op{set(a, value.Hidden, yes)}, nil},
		"an override":                 {[]op.Op{over(b, value.Locked, yes, c)}, nil},
		"its master":                  {[]op.Op{set(b, value.Locked, yes), point(aside, c)}, []api.Stamp{b, c}},
	} {
		d := doc.Of(base, made(0, 2, 10, k.ops...))
		for _, n := range all {
			if got, want := d.Locked(n), slices.Contains(k.locked, n); got != want {
				t.Errorf("%s: Locked of %v: %t", name, n, got)
			}
		}
		if d.Locked(root) || d.Locked(trash) || d.Locked(at(10, 0)) {
			t.Error(name, "what is no node there is Locked")
		}
	}
}

func TestP1402Alive(t *testing.T) {
	a, b, c, e, f := at(1, 0), at(2, 0), at(3, 0), at(4, 0), at(5, 0)
	base := made(0, 1, 1, create(root, "a"), create(a, "b"), create(b, "c"), create(trash, "e"), create(e, "f"))
	all := []api.Stamp{a, b, c, e, f}
	for name, k := range map[string]struct {
		ops   []op.Op
		alive []api.Stamp
	}{
		"at first":          {[]op.Op{mark(a, true)}, []api.Stamp{a, b, c}},
		"in the trash":      {[]op.Op{move(b, trash, "k")}, []api.Stamp{a}},
		"far in the trash":  {[]op.Op{move(a, f, "k")}, nil},
		"out of the trash":  {[]op.Op{move(f, c, "k")}, []api.Stamp{a, b, c, f}},
		"with what's below": {[]op.Op{move(e, c, "k")}, all},
		"hidden":            {[]op.Op{set(a, value.Hidden, yes)}, []api.Stamp{a, b, c}},
		"a master":          {[]op.Op{point(a, e)}, []api.Stamp{a, b, c}},
	} {
		d := doc.Of(base, made(0, 2, 10, k.ops...))
		for _, n := range all {
			if got, want := d.Alive(n), slices.Contains(k.alive, n); got != want {
				t.Errorf("%s: Alive of %v: %t", name, n, got)
			}
		}
		if d.Alive(root) || d.Alive(trash) || d.Alive(at(10, 0)) || d.Alive(at(99, 0)) {
			t.Error(name, "what is no node there is Alive")
		}
	}
}

func TestP1402Same(t *testing.T) {
	a, b := at(1, 0), at(2, 0)
	base := made(0, 1, 1, create(root, "a"), create(root, "b"))
	d := doc.Of(base)
	for name, k := range map[string]struct {
		more []batch.Batch
		same bool
	}{
		"nothing":                      {nil, true},
		"one more node":                {[]batch.Batch{node(1, 1)}, false},
		"a Move":                       {[]batch.Batch{made(0, 2, 3, move(b, a, "b"))}, false},
		"a Move to the spot it has":    {[]batch.Batch{made(0, 2, 3, move(b, root, "b"))}, true},
		"a Move that is passed over":   {[]batch.Batch{made(0, 2, 3, move(a, a, "b"))}, true},
		"a Move and back":              {[]batch.Batch{made(0, 2, 3, move(b, a, "b"), move(b, root, "b"))}, true},
		"a Point":                      {[]batch.Batch{made(0, 2, 3, point(b, a))}, false},
		"a Point and back":             {[]batch.Batch{made(0, 2, 3, point(b, a), point(b, api.Stamp{}))}, true},
		"a Set":                        {[]batch.Batch{made(0, 2, 3, set(a, value.Fill, whole(0)))}, false},
		"a Set of None":                {[]batch.Batch{made(0, 2, 3, set(a, value.Fill, none))}, true},
		"a Set of what is not there":   {[]batch.Batch{made(0, 2, 3, set(at(9, 9), value.Fill, whole(1)))}, false},
		"a Mark":                       {[]batch.Batch{made(0, 2, 3, mark(a, true))}, false},
		"a Mark and back":              {[]batch.Batch{made(0, 2, 3, mark(a, true)), made(0, 3, 4, mark(a, false))}, true},
		"an Override":                  {[]batch.Batch{made(0, 2, 3, over(a, value.Fill, whole(1), b))}, false},
		"one that waits":               {[]batch.Batch{made(0, 3, 3, mark(a, true))}, true},
		"one that is refused":          {[]batch.Batch{made(0, 2, 2, mark(a, true))}, true},
		"the same one again":           {[]batch.Batch{base}, true},
		"two that differ in how it is": {[]batch.Batch{made(0, 2, 3, set(a, value.Fill, whole(1)), set(b, value.Fill, whole(1)), move(b, trash, "b"))}, false},
	} {
		e := doc.Of(append([]batch.Batch{base}, k.more...)...)
		if d.Same(e) != k.same || e.Same(d) != k.same {
			t.Errorf("%s: Same %t", name, !k.same)
		}
	}
	// Who wrote it, and when, says nothing: of other batches the same may be made.
	if !doc.Of(base, made(0, 2, 9, mark(a, true))).Same(doc.Of(base, made(5, 1, 3, mark(a, true)))) {
		t.Error("Same of other batches")
	}
}

func TestP1402CloneIsApart(t *testing.T) {
	rnd := rand.New(rand.NewSource(1402))
	for range 60 {
		l := anyBatches(rnd, 4, 8)
		part := rnd.Intn(len(l))
		d := doc.Of(l[:part]...)
		if rnd.Intn(2) == 0 {
			d.Nodes()
		}
		c := d.Clone()
		log := d.Log()
		if !d.Same(c) || c.Log().Digest() != d.Log().Digest() {
			t.Fatal("a clone is another one")
		}
		mine, yours := slices.Clone(l[:part]), slices.Clone(l[:part])
		for _, x := range l[part:] {
			if rnd.Intn(2) == 0 {
				d.Apply(x)
				mine = append(mine, x)
			} else {
				c.Apply(x)
				yours = append(yours, x)
			}
		}
		holds(t, d, mine...)
		holds(t, c, yours...)
		if m := modelOf(l[:part]...); log.Digest() != m.log.Digest() || log.Waiting() != m.log.Waiting() {
			t.Fatal("a log that was answered goes on with the document")
		}
	}
}

// anyStamp answers one of few stamps, so that ops name each other.
func anyStamp(rnd *rand.Rand, times int) api.Stamp { return at(1+rnd.Intn(times), rnd.Intn(4)) }

// anyOp answers an op that may be, of few nodes.
func anyOp(rnd *rand.Rand, times int) op.Op {
	n, p := anyStamp(rnd, times), anyStamp(rnd, times)
	key := string(rune('a' + rnd.Intn(4)))
	switch rnd.Intn(9) {
	case 0, 1, 2:
		return create([]api.Stamp{root, trash, p, p}[rnd.Intn(4)], key)
	case 3, 4:
		return move(n, []api.Stamp{root, trash, p, p, p}[rnd.Intn(5)], key)
	case 5:
		return point(n, []api.Stamp{{}, p, p}[rnd.Intn(3)])
	case 6:
		return mark(n, rnd.Intn(2) == 0)
	case 7:
		return set(n, value.Locked, []api.Value{yes, yes, no, none}[rnd.Intn(4)])
	}
	return over(n, value.Fill, []api.Value{whole(rnd.Intn(3)), none}[rnd.Intn(2)], p)
}

// anyBatches answers so many of each of so many replicas, no two of one number, in any order: the early ones make nodes, so that there is something to move.
func anyBatches(rnd *rand.Rand, replicas, count int) (l []batch.Batch) {
	for replica := range replicas {
		time := 1 + rnd.Intn(3)
		for seq := 1; seq <= count; seq++ {
			x := made(replica, seq, time)
			for range 1 + rnd.Intn(3) {
				y := anyOp(rnd, count)
				if 3*seq <= count {
					y = create([]api.Stamp{root, trash, root, anyStamp(rnd, count)}[rnd.Intn(4)], "k")
				}
				x.Ops = append(x.Ops, y)
			}
			time += len(x.Ops) + rnd.Intn(2)
			l = append(l, x)
		}
	}
	rnd.Shuffle(len(l), func(i, j int) { l[i], l[j] = l[j], l[i] })
	return l
}

// orders calls each with every order of a list.
func orders(l []batch.Batch, each func([]batch.Batch)) {
	if len(l) == 0 {
		each(nil)
		return
	}
	for i := range l {
		rest := slices.Delete(slices.Clone(l), i, i+1)
		orders(rest, func(m []batch.Batch) { each(append([]batch.Batch{l[i]}, m...)) })
	}
}

func TestP1403EveryOrder(t *testing.T) {
	d := doc.Of(family...)
	orders(family, func(l []batch.Batch) {
		e := doc.Of(l...)
		if !e.Same(d) || e.Log().Digest() != d.Log().Digest() {
			t.Fatalf("another document in the order of %v", l)
		}
		holds(t, e, family...)
	})
}

// Behind each batch that comes, whichever way and however often, the document is that of those that its log has.
func TestP1403StepByStep(t *testing.T) {
	rnd := rand.New(rand.NewSource(1403))
	for range 25 {
		l := anyBatches(rnd, 3, 6)
		l = append(l, l[:5]...)
		rnd.Shuffle(len(l), func(i, j int) { l[i], l[j] = l[j], l[i] })
		d := doc.New()
		for i, x := range l {
			before := modelOf(l[:i]...)
			came, e := before.log.Add(x)
			applies(t, d, x, len(came), e)
			holds(t, d, l[:i+1]...)
			// The batches that it has, without those that wait, replica by replica, make the same one.
			if again := doc.Of(d.Log().Since(vector.Vector{}, mostBatches)...); !again.Same(d) {
				t.Fatal("the log's batches make another document")
			}
		}
	}
}

func TestP1403AnyOrder(t *testing.T) {
	rnd := rand.New(rand.NewSource(14030))
	nodes, locked, masters := 0, 0, 0
	for range 60 {
		l := anyBatches(rnd, 4, 10)
		d := doc.Of(l...)
		holds(t, d, l...)
		for range 4 {
			rnd.Shuffle(len(l), func(i, j int) { l[i], l[j] = l[j], l[i] })
			e := doc.New()
			for _, x := range l {
				e.Apply(x)
				if rnd.Intn(3) == 0 {
					e.Nodes()
				}
				if rnd.Intn(3) == 0 {
					e = e.Clone()
				}
			}
			if !d.Same(e) || !e.Same(d) || d.Log().Digest() != e.Log().Digest() || !slices.Equal(d.Nodes(), e.Nodes()) {
				t.Fatal("the same batches make another document")
			}
		}
		for _, n := range d.Nodes() {
			nodes++
			if d.Locked(n) {
				locked++
			}
			if _, points := d.Ref(n); points {
				masters++
			}
		}
	}
	if nodes < 1000 || locked < 100 || masters < 50 {
		t.Error("few nodes, few of them locked, or few masters", nodes, locked, masters)
	}
}

// written are ops of every kind, of which each is to be seen: the last of them stands for all.
func written(time, replica int) []op.Op {
	n := at(time, replica)
	return []op.Op{create(root, "n"), move(n, at(1, 0), "m"), point(n, at(2, 0)), set(n, value.Fill, whole(5)), mark(n, true), over(n, value.Fill, whole(6), at(1, 0))}
}

// seen tells how many of the written ops are in the document.
func seen(d *doc.Doc, time, replica int) (count int) {
	n := at(time, replica)
	spot, there := d.Spot(n)
	_, points := d.Ref(n)
	_, over := d.Over(n, []api.Stamp{at(1, 0)}, value.Fill)
	for _, yes := range []bool{there, spot.Key == "m", points, d.Value(n, value.Fill) == whole(5), d.Marked(n), over} {
		if yes {
			count++
		}
	}
	return count
}

func TestP1404AllOrNothing(t *testing.T) {
	base := made(0, 1, 1, create(root, "a"), create(root, "b"))
	fits := made(1, 1, 10, written(10, 1)...)
	d := doc.Of(base)
	// One op that may not be, at any place, and none is done.
	for i := range len(fits.Ops) + 1 {
		for _, wrong := range []op.Op{{}, {Kind: 7}, create(root, ""), move(root, root, "a"), set(at(1, 0), value.Fill, yes), over(at(1, 0), value.Fill, none)} {
			x := fits
			x.Ops = slices.Insert(slices.Clone(fits.Ops), i, wrong)
			applies(t, d, x, 0, api.ErrArg)
			if seen(d, 10, 1) != 0 {
				t.Fatal("ops of a batch that is refused")
			}
		}
	}
	long := fits
	long.Ops = slices.Concat(fits.Ops, slices.Repeat([]op.Op{mark(at(1, 0), true)}, mostOps))
	applies(t, d, long, 0, api.ErrArg)
	late := fits
	late.Time = mostTime - 1
	applies(t, d, late, 0, api.ErrArg)
	if seen(d, 10, 1) != 0 || seen(d, mostTime-1, 1) != 0 || d.Marked(at(1, 0)) || !d.Same(doc.Of(base)) {
		t.Error("ops of a batch that is refused")
	}
	fill(t, d, fits)
	if seen(d, 10, 1) != 6 {
		t.Error("not all ops of a batch", seen(d, 10, 1))
	}
	holds(t, d, base, fits)
}

func TestP1404WaitingAndDropped(t *testing.T) {
	base := made(0, 1, 1, create(root, "a"), create(root, "b"))
	d := doc.Of(base)
	applies(t, d, made(1, 2, 20, written(20, 1)...), 0, api.ErrGap)
	applies(t, d, made(1, 3, 24, written(24, 1)...), 0, api.ErrGap) // its time does not fit behind that
	if seen(d, 20, 1) != 0 || seen(d, 24, 1) != 0 {
		t.Error("ops of a batch that waits")
	}
	applies(t, d, made(1, 1, 10, written(10, 1)...), 2, api.OK)
	if seen(d, 10, 1) != 6 || seen(d, 20, 1) != 6 || seen(d, 24, 1) != 0 || d.Log().Waiting() != 0 {
		t.Error("of those that came into the log all, of the one that was dropped none", seen(d, 10, 1), seen(d, 20, 1), seen(d, 24, 1))
	}
	applies(t, d, made(1, 3, 25, written(25, 1)...), 0, api.ErrForm)
	applies(t, d, made(1, 3, 26, written(26, 1)...), 1, api.OK)
	if seen(d, 25, 1) != 0 || seen(d, 26, 1) != 6 {
		t.Error("ops of a batch whose time does not fit")
	}
}

// As many ops as there may be in one batch; those that the graph passes over are in the document, too: they change nothing yet.
func TestP1404PassedOver(t *testing.T) {
	late := made(1, 1, 100, move(at(10, 0), at(11, 0), "m"), mark(at(10, 0), true), point(at(12, 0), at(11, 0)))
	d := doc.Of(late)
	if !d.Marked(at(10, 0)) || len(d.Nodes()) != 0 || d.Log().Total() != 1 {
		t.Error("ops of what is not there yet")
	}
	fill(t, d, made(0, 1, 10, slices.Repeat([]op.Op{create(root, "a")}, mostOps)...))
	spot, _ := d.Spot(at(10, 0))
	master, _ := d.Ref(at(12, 0))
	if len(d.Nodes()) != mostOps || spot != (tree.Spot{Parent: at(11, 0), Key: "m"}) || master != at(11, 0) {
		t.Error("ops that were passed over are not done", spot, master)
	}
}
