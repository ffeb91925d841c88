package graph_test

import (
	"cmp"
	"fmt"
	"maps"
	"math"
	"math/rand"
	"slices"
	"strings"
	"sync"
	"testing"

	"diorama/api"
	"diorama/graph"
	"diorama/op"
	"diorama/order"
	"diorama/tree"
)

const (
	mostTime = 1 << 40
	mostOps  = 1 << 16
	mostKey  = 24
)

func at(time, replica int) api.Stamp { return api.Stamp{Time: time, Replica: replica} }

var root, trash = at(0, 0), at(0, 1)

func create(p api.Stamp, key string) op.Op { return op.Op{Kind: op.Create, Ref: p, Key: key} }

func move(n, p api.Stamp, key string) op.Op {
	return op.Op{Kind: op.Move, Node: n, Ref: p, Key: key}
}

func point(n, master api.Stamp) op.Op { return op.Op{Kind: op.Point, Node: n, Ref: master} }

// line is an op with its stamp.
type line struct {
	at api.Stamp
	op op.Op
}

func rising(a, b api.Stamp) int {
	return cmp.Or(cmp.Compare(a.Time, b.Time), cmp.Compare(a.Replica, b.Replica))
}

// model is what the chapter's words say of all the ops at once.
type model struct {
	ops     []line // rising
	spots   map[api.Stamp]tree.Spot
	masters map[api.Stamp]api.Stamp
	done    map[api.Stamp]bool
}

func modelOf(l []line) *model {
	m := &model{ops: slices.Clone(l), spots: map[api.Stamp]tree.Spot{}, masters: map[api.Stamp]api.Stamp{}, done: map[api.Stamp]bool{}}
	slices.SortFunc(m.ops, func(a, b line) int { return rising(a.at, b.at) })
	for _, x := range m.ops {
		m.done[x.at] = m.try(x)
	}
	return m
}

func (m *model) has(p api.Stamp) bool {
	_, there := m.spots[p]
	return there || p == root || p == trash
}

// try does an op as if there were no rings, and takes all back if there is one then.
func (m *model) try(x line) bool {
	if x.op.Kind == op.Create {
		to := tree.Spot{Parent: x.op.Ref, Key: x.op.Key}
		if !m.has(to.Parent) {
			to.Parent = trash
		}
		m.spots[x.at] = to
		return true
	}
	nothing := x.op.Kind == op.Point && x.op.Ref == root
	if !m.has(x.op.Node) || !nothing && !m.has(x.op.Ref) {
		return false
	}
	spots, masters := maps.Clone(m.spots), maps.Clone(m.masters)
	switch {
	case x.op.Kind == op.Move:
		m.spots[x.op.Node] = tree.Spot{Parent: x.op.Ref, Key: x.op.Key}
	case nothing:
		delete(m.masters, x.op.Node)
	default:
		m.masters[x.op.Node] = x.op.Ref
	}
	if ring(m.steps(true)) || ring(m.steps(false)) {
		m.spots, m.masters = spots, masters
		return false
	}
	return true
}

// steps answers where all steps up, or down, lead from each place.
func (m *model) steps(up bool) map[api.Stamp][]api.Stamp {
	steps := map[api.Stamp][]api.Stamp{root: nil, trash: nil}
	for n, spot := range m.spots {
		if up {
			steps[n] = append(steps[n], spot.Parent)
		} else {
			steps[spot.Parent] = append(steps[spot.Parent], n)
		}
	}
	for n, master := range m.masters {
		steps[n] = append(steps[n], master)
	}
	return steps
}

// ring takes away those from which no steps lead, till none is left, or only rings and what leads to them.
func ring(steps map[api.Stamp][]api.Stamp) bool {
	left := maps.Clone(steps)
	for {
		count := len(left)
		for n, l := range steps {
			if !slices.ContainsFunc(l, func(to api.Stamp) bool { _, there := left[to]; return there }) {
				delete(left, n)
			}
		}
		if len(left) == count {
			return count > 0
		}
	}
}

// reached answers all to which steps lead, none or more.
func reached(steps map[api.Stamp][]api.Stamp, n api.Stamp) map[api.Stamp]bool {
	all := map[api.Stamp]bool{n: true}
	for wait := []api.Stamp{n}; len(wait) > 0; wait = wait[1:] {
		for _, to := range steps[wait[0]] {
			if !all[to] {
				all[to] = true
				wait = append(wait, to)
			}
		}
	}
	return all
}

func (m *model) nodes() []api.Stamp { return slices.SortedFunc(maps.Keys(m.spots), rising) }

func (m *model) above(n api.Stamp) (l []api.Stamp) {
	for spot, there := m.spots[n]; there; spot, there = m.spots[spot.Parent] {
		l = append(l, spot.Parent)
	}
	return l
}

func (m *model) row(p api.Stamp) (l []order.Sib) {
	for n, spot := range m.spots {
		if spot.Parent == p {
			l = append(l, order.Sib{Key: spot.Key, Node: n})
		}
	}
	slices.SortFunc(l, func(a, b order.Sib) int { return cmp.Or(strings.Compare(a.Key, b.Key), rising(a.Node, b.Node)) })
	return l
}

// behind answers how many of the ops stand behind the stamp.
func (m *model) behind(s api.Stamp) (count int) {
	for _, x := range m.ops {
		if rising(s, x.at) < 0 {
			count++
		}
	}
	return count
}

func inserts(t *testing.T, g *graph.Graph, s api.Stamp, x op.Op, behind int, want api.Errno) {
	t.Helper()
	if n, e := g.Insert(s, x); n != behind || e != want {
		t.Fatalf("Insert of %v at %v: %d %d, want %d %d", x, s, n, e, behind, want)
	}
}

// grown answers a graph into which these were inserted, in this order.
func grown(t *testing.T, l ...line) *graph.Graph {
	t.Helper()
	g := graph.New()
	for i, x := range l {
		inserts(t, g, x.at, x.op, modelOf(l[:i]).behind(x.at), api.OK)
	}
	return g
}

// strange are stamps that may not be, and huge ones.
var strange = []api.Stamp{
	at(-1, 0), at(0, -1), at(0, 16), at(1, -1), at(1, 16), at(mostTime+1, 0), at(mostTime, 16), at(-1, 1),
	at(math.MinInt, math.MinInt), at(math.MaxInt, math.MaxInt), at(math.MaxInt, 0), at(0, math.MaxInt), at(math.MinInt, 1), at(1, 1<<32), at(1<<32, 1<<32),
}

// notThere are stamps of which no test makes nodes.
var notThere = []api.Stamp{at(0, 2), at(0, 15), at(777, 7), at(mostTime, 15)}

// holds asks every look whether just these ops were inserted.
func holds(t *testing.T, g *graph.Graph, l []line) {
	t.Helper()
	m := modelOf(l)
	if g.Count() != len(l) {
		t.Fatalf("Count %d, want %d", g.Count(), len(l))
	}
	if got, want := g.Nodes(), m.nodes(); !slices.Equal(got, want) {
		t.Fatalf("Nodes %v, want %v", got, want)
	}
	places := slices.Concat(m.nodes(), []api.Stamp{root, trash}, notThere, strange)
	for _, x := range m.ops {
		places = append(places, x.at)
	}
	for _, p := range places {
		if g.Done(p) != m.done[p] {
			t.Fatalf("Done of %v: %t", p, g.Done(p))
		}
		spot, there := m.spots[p]
		if got, ok := g.Spot(p); got != spot || ok != there {
			t.Fatalf("Spot of %v: %v %t, want %v %t", p, got, ok, spot, there)
		}
		if g.Has(p) != m.has(p) {
			t.Fatalf("Has %v: %t", p, g.Has(p))
		}
		master, points := m.masters[p]
		if got, ok := g.Ref(p); got != master || ok != points {
			t.Fatalf("Ref of %v: %v %t, want %v %t", p, got, ok, master, points)
		}
		if got, want := g.Row(p), m.row(p); !slices.Equal(got, want) {
			t.Fatalf("Row of %v: %v, want %v", p, got, want)
		}
		if got, want := g.Above(p), m.above(p); !slices.Equal(got, want) {
			t.Fatalf("Above %v: %v, want %v", p, got, want)
		}
	}
	holdsReaches(t, g, m)
	if !g.Same(g) || !g.Same(g.Clone()) {
		t.Fatal("a graph is not the same as itself")
	}
}

func holdsReaches(t *testing.T, g *graph.Graph, m *model) {
	t.Helper()
	places := slices.Concat(m.nodes(), []api.Stamp{root, trash}, notThere[:2], strange[:3])
	for _, up := range []bool{true, false} {
		steps := m.steps(up)
		for _, n := range places {
			all := reached(steps, n)
			for _, to := range places {
				if got, want := g.Reaches(n, to, up), m.has(n) && m.has(to) && all[to]; got != want {
					t.Fatalf("Reaches of %v, %v, up %t: %t", n, to, up, got)
				}
			}
		}
	}
}

// family: of the root 1@0 (of it 2@0, of that 3@0 and 3@1) and 5@2 (it points to 2@0), of the trash 4@0 (of it 6@0), and passed over Moves and Points.
var family = []line{
	{at(1, 0), create(root, "a")},
	{at(2, 0), create(at(1, 0), "b")},
	{at(3, 0), create(at(2, 0), "c")},
	{at(3, 1), create(at(2, 0), "b")},
	{at(4, 0), create(trash, "a")},
	{at(5, 2), create(root, "a")},
	{at(6, 0), create(at(99, 0), "d")},
	{at(7, 0), move(at(6, 0), at(4, 0), "e")},
	{at(7, 1), point(at(5, 2), at(2, 0))},
	{at(8, 0), move(at(1, 0), at(3, 0), "a")},
	{at(9, 0), point(at(3, 1), at(1, 0))},
	{at(9, 1), point(at(8, 8), at(1, 0))},
}

func TestP1301NilAndUnmadeGraphs(t *testing.T) {
	for name, g := range map[string]*graph.Graph{"nil": nil, "new": new(graph.Graph), "literal": {}} {
		for range 2 {
			inserts(t, g, at(1, 0), create(root, "a"), 0, api.ErrArg)
			inserts(t, g, at(1, 0), op.Op{Kind: op.Mark, Node: at(1, 0)}, 0, api.ErrArg)
			inserts(t, g, at(0, 0), op.Op{}, 0, api.ErrArg)
			if g.Count() != 0 || len(g.Nodes()) != 0 || g.Clone() != nil {
				t.Error(name, "Count, Nodes or Clone")
			}
			for _, n := range []api.Stamp{root, trash, at(1, 0)} {
				if got, ok := g.Spot(n); got != (tree.Spot{}) || ok {
					t.Error(name, "Spot", got, ok)
				}
				if got, ok := g.Ref(n); got != (api.Stamp{}) || ok {
					t.Error(name, "Ref", got, ok)
				}
				if g.Done(n) || g.Has(n) || g.Reaches(n, n, true) || g.Reaches(n, n, false) || g.Reaches(root, n, false) {
					t.Error(name, "Done, Has or Reaches", n)
				}
				if len(g.Row(n)) != 0 || len(g.Above(n)) != 0 {
					t.Error(name, "Row or Above", n)
				}
			}
			for _, other := range []*graph.Graph{nil, {}, g, graph.New(), grown(t, family...)} {
				if g.Same(other) || other.Same(g) {
					t.Error(name, "Same")
				}
			}
		}
	}
}

func TestP1301GraphsAreApart(t *testing.T) {
	a, b := graph.New(), graph.New()
	inserts(t, a, at(1, 0), create(root, "a"), 0, api.OK)
	holds(t, b, nil)
	inserts(t, b, at(1, 0), create(trash, "b"), 0, api.OK)
	inserts(t, b, at(2, 0), create(at(1, 0), "b"), 0, api.OK)
	holds(t, a, []line{{at(1, 0), create(root, "a")}})
	holds(t, b, []line{{at(1, 0), create(trash, "b")}, {at(2, 0), create(at(1, 0), "b")}})
}

// A copy of the struct is the same graph: none has a node that the other one's looks do not tell.
func TestP1301CopyOfTheStruct(t *testing.T) {
	g := graph.New()
	c := *g
	for i, x := range slices.Backward(family) {
		if _, e := []*graph.Graph{g, &c}[i%2].Insert(x.at, x.op); e != api.OK {
			t.Fatal(e)
		}
		holds(t, g, family[i:])
		holds(t, &c, family[i:])
	}
}

// An op's Path may be an empty one with room behind it, which is neither changed nor kept.
func TestP1301PathsAreNotKept(t *testing.T) {
	g := graph.New()
	room := []api.Stamp{at(1, 0), at(2, 0)}
	for i, x := range slices.Backward(family) {
		x.op.Path = room[:0]
		inserts(t, g, x.at, x.op, len(family)-1-i, api.OK)
		x.op.Path = append(x.op.Path, at(77, 7))
		if room[1] != at(2, 0) {
			t.Fatal("changed:", room)
		}
	}
	holds(t, g, family)
}

func TestP1301AnswersAreNew(t *testing.T) {
	g := grown(t, family...)
	scribble := func(l []api.Stamp) {
		l = l[:cap(l)]
		for i := range l {
			l[i] = at(77, 7)
		}
	}
	for range 2 {
		for _, look := range []func() []api.Stamp{
			g.Nodes,
			func() []api.Stamp { return g.Above(at(3, 0)) },
			func() []api.Stamp { return g.Above(at(6, 0)) },
		} {
			one, two := look(), look()
			kept := slices.Clone(two)
			scribble(one)
			if !slices.Equal(two, kept) || !slices.Equal(look(), kept) {
				t.Fatal("two answers share memory", kept, two)
			}
		}
		one, two := g.Row(at(2, 0)), g.Row(at(2, 0))
		kept := slices.Clone(two)
		one = one[:cap(one)]
		for i := range one {
			one[i] = order.Sib{Key: "z", Node: at(77, 7)}
		}
		if !slices.Equal(two, kept) {
			t.Fatal("two rows share memory", kept, two)
		}
		holds(t, g, family)
	}
}

// Looks change nothing, so that several may look at once, also where nobody looked since the last insert.
func TestP1301LooksAtOnce(t *testing.T) {
	const count = 3000
	for i := range 10 {
		g := grown(t, family[i%len(family):]...)
		for j := range count {
			g.Insert(at(100+j, 0), create(at(100+j-1, i%2), "a"))
		}
		last := at(100+count-1, 0)
		var all sync.WaitGroup
		start := make(chan struct{})
		for range 8 {
			all.Add(1)
			go func() {
				defer all.Done()
				<-start
				if !g.Done(last) || !g.Has(last) || !g.Reaches(g.Above(last)[0], last, false) || !g.Same(g.Clone()) {
					t.Error("a look of several at once")
				}
			}()
		}
		close(start)
		all.Wait()
	}
}

func TestP1301SameStepsSameAnswers(t *testing.T) {
	var told []string
	for range 3 {
		rnd := rand.New(rand.NewSource(1301))
		g := graph.New()
		var steps strings.Builder
		for range 300 {
			s, n := anyStamp(rnd, 20), anyStamp(rnd, 20)
			behind, e := g.Insert(s, anyOp(rnd, 20))
			spot, ok := g.Spot(n)
			master, points := g.Ref(n)
			fmt.Fprint(&steps, behind, e, spot, ok, master, points, g.Done(s), g.Nodes(), g.Row(n), g.Row(root), g.Above(s), g.Reaches(s, n, true), g.Reaches(n, s, false))
		}
		told = append(told, steps.String())
	}
	if told[0] != told[1] || told[1] != told[2] {
		t.Error("the same steps have other answers")
	}
}

// anyStamp answers one of few stamps, so that ops name each other.
func anyStamp(rnd *rand.Rand, times int) api.Stamp { return at(1+rnd.Intn(times), rnd.Intn(3)) }

// anyOp answers an op that may be, of few nodes.
func anyOp(rnd *rand.Rand, times int) op.Op {
	n, p := anyStamp(rnd, times), anyStamp(rnd, times)
	key := string(rune('a' + rnd.Intn(4)))
	if rnd.Intn(8) == 0 {
		p = []api.Stamp{root, trash}[rnd.Intn(2)]
	}
	if rnd.Intn(20) == 0 {
		p = n
	}
	switch rnd.Intn(7) {
	case 0, 1:
		return create(p, key)
	case 2, 3:
		return move(n, p, key)
	}
	if !op.Node(p) {
		p = api.Stamp{}
	}
	return point(n, p)
}

// anyLines answers ops with stamps that differ, in any order: the early ones make nodes, so that there is something to move.
func anyLines(rnd *rand.Rand, times int) (l []line) {
	for time := 1; time <= times; time++ {
		for replica := range 3 {
			x := anyOp(rnd, []int{times, 1 + times/4}[min(1, rnd.Intn(6))])
			if time <= 1+times/4 {
				x = create([]api.Stamp{root, trash, anyStamp(rnd, time)}[min(2, rnd.Intn(6))], x.Key+"k")
				x.Key = strings.TrimSuffix(x.Key, "kk")
			}
			if !op.Right(x) {
				x = create(root, "a")
			}
			l = append(l, line{at(time, replica), x})
		}
	}
	rnd.Shuffle(len(l), func(i, j int) { l[i], l[j] = l[j], l[i] })
	return l
}

func TestP1302Insert(t *testing.T) {
	g := graph.New()
	holds(t, g, nil)
	for i, x := range family {
		inserts(t, g, x.at, x.op, 0, api.OK)
		holds(t, g, family[:i+1])
	}
	// How many stand behind it, of any kind, done or passed over.
	g = graph.New()
	for i, s := range []struct {
		at     api.Stamp
		behind int
	}{
		{at(5, 5), 0}, {at(5, 4), 1}, {at(6, 0), 0}, {at(4, 15), 3}, {at(5, 15), 1}, {at(mostTime, 15), 0}, {at(mostTime, 14), 1}, {at(1, 0), 7}, {at(1, 1), 7},
	} {
		x := []op.Op{create(root, "a"), move(at(88, 8), root, "a"), point(at(5, 5), at(88, 8))}[i%3]
		inserts(t, g, s.at, x, s.behind, api.OK)
		if g.Count() != i+1 {
			t.Error("Count", g.Count())
		}
	}
	// The edges of stamps and keys.
	edges := []line{
		{at(mostTime, 15), create(at(mostTime, 14), strings.Repeat("\xff", mostKey))},
		{at(mostTime, 14), create(at(1, 0), strings.Repeat("\x00", mostKey-1)+"\x01")},
		{at(1, 15), point(at(1, 0), api.Stamp{})},
		{at(1, 0), create(trash, "\x01")},
	}
	holds(t, grown(t, edges...), edges)
}

// What is refused changes nothing; of several errors the first one that the chapter names is told.
func TestP1302Errors(t *testing.T) {
	g := grown(t, family...)
	wrong := []op.Op{
		{}, {Kind: 7}, {Kind: -1}, {Kind: math.MinInt}, {Kind: math.MaxInt},
		create(root, ""), create(root, "a\x00"), create(root, strings.Repeat("a", mostKey+1)), create(at(0, 2), "a"), create(at(1, 16), "a"),
		{Kind: op.Create, Node: at(1, 0), Key: "a"}, {Kind: op.Create, Key: "a", On: true}, {Kind: op.Create, Key: "a", Prop: 1}, {Kind: op.Create, Key: "a", Path: []api.Stamp{at(1, 0)}},
		move(root, root, "a"), move(trash, root, "a"), move(at(1, 0), root, ""), move(at(1, 0), at(-1, 0), "a"), move(at(1, 16), root, "a"),
		point(root, at(1, 0)), point(root, api.Stamp{}), point(at(1, 0), trash), point(at(1, 0), at(1, -1)), point(at(mostTime+1, 0), at(1, 0)), {Kind: op.Point, Node: at(1, 0), Key: "a"},
		{Kind: op.Mark}, {Kind: op.Set, Node: at(1, 0)}, {Kind: op.Override, Node: at(1, 0), Prop: 1},
	}
	others := []op.Op{
		{Kind: op.Mark, Node: at(1, 0)}, {Kind: op.Mark, Node: at(77, 0), On: true},
		{Kind: op.Set, Node: at(1, 0), Prop: 1},
		{Kind: op.Override, Node: at(1, 0), Path: []api.Stamp{at(2, 0)}, Prop: 8},
	}
	fine := []op.Op{create(root, "a"), move(at(3, 0), root, "z"), point(at(5, 2), api.Stamp{})}
	for _, s := range slices.Concat(strange, []api.Stamp{root, trash, at(0, 2), at(0, 15)}) {
		for _, x := range slices.Concat(wrong, others, fine) {
			inserts(t, g, s, x, 0, api.ErrArg)
		}
	}
	for _, s := range []api.Stamp{at(1, 0), at(8, 0), at(9, 1), at(10, 0), at(1, 1)} {
		for _, x := range wrong {
			inserts(t, g, s, x, 0, api.ErrArg)
		}
		for _, x := range others {
			inserts(t, g, s, x, 0, api.ErrKind)
		}
	}
	for _, l := range family {
		for _, x := range append(fine, l.op) {
			inserts(t, g, l.at, x, 0, api.ErrThere)
		}
	}
	holds(t, g, family)
	if !g.Same(grown(t, family...)) {
		t.Error("not the same behind what was refused")
	}
}

// full has as many ops as there may be: a quarter of them makes nodes, long ways of them one below the other, then come others in one row, Moves and Points; falling, so that each stands ahead of all that were inserted.
func full(t *testing.T) *graph.Graph {
	t.Helper()
	g := graph.New()
	const quarter, long = mostOps / 4, 400
	for i := mostOps; i >= 1; i-- {
		x := create(at(i-1, 0), "a")
		switch (i - 1) / quarter {
		case 0:
			if i%long == 1 {
				x = create(root, "a")
			}
		case 1:
			x = create(root, "b")
		case 2:
			x = move(at(i-quarter, 0), at(i-2*quarter, 0), "c")
		case 3:
			x = point(at(i-2*quarter, 0), at(max(1, i-3*quarter-long), 0))
		}
		inserts(t, g, at(i, 0), x, mostOps-i, api.OK)
	}
	return g
}

func TestP1302Full(t *testing.T) {
	g := full(t)
	if g.Count() != mostOps {
		t.Fatal("Count", g.Count())
	}
	nodes := len(g.Nodes())
	if nodes != mostOps/2 || !g.Done(at(mostOps/2+1, 0)) || g.Done(at(mostOps/4*3+1, 0)) || !g.Done(at(mostOps, 0)) {
		t.Error("Done, or Nodes", nodes)
	}
	for range 2 {
		for _, s := range []api.Stamp{at(1, 1), at(mostTime, 15), at(mostOps/2, 3)} {
			inserts(t, g, s, create(root, "a"), 0, api.ErrFull)
			inserts(t, g, s, move(at(1, 0), root, "b"), 0, api.ErrFull)
			inserts(t, g, s, op.Op{Kind: op.Mark, Node: at(1, 0)}, 0, api.ErrKind)
			inserts(t, g, s, op.Op{}, 0, api.ErrArg)
			if g.Done(s) || g.Has(s) {
				t.Error("what was refused is there")
			}
		}
		inserts(t, g, at(mostOps, 0), create(root, "a"), 0, api.ErrThere)
		inserts(t, g, at(1, 0), create(root, "a"), 0, api.ErrThere)
	}
	if g.Count() != mostOps || len(g.Nodes()) != nodes || !g.Same(g.Clone()) {
		t.Error("changed by what was refused")
	}
	c := g.Clone()
	inserts(t, c, at(1, 1), create(root, "a"), 0, api.ErrFull)
}

// There is room for as many nodes as ops, also for one below the other.
func TestP1302AllNodes(t *testing.T) {
	g := graph.New()
	for i := range mostOps {
		inserts(t, g, at(i+1, 0), create(at(i, 0), "a"), 0, api.OK)
	}
	last := at(mostOps, 0)
	if len(g.Nodes()) != mostOps || len(g.Above(last)) != mostOps || !g.Done(last) {
		t.Error(len(g.Nodes()), len(g.Above(last)))
	}
	if !g.Reaches(last, at(1, 0), true) || !g.Reaches(at(1, 0), last, false) || g.Reaches(at(1, 0), last, true) || g.Reaches(last, at(1, 0), false) {
		t.Error("Reaches from end to end")
	}
	inserts(t, g, at(1, 1), create(root, "a"), 0, api.ErrFull)
}

func TestP1303Looks(t *testing.T) {
	g := grown(t, family...)
	holds(t, g, family)
	for i, want := range []bool{true, true, true, true, true, true, true, true, true, false, false, false} {
		if g.Done(family[i].at) != want {
			t.Errorf("Done of %v: %t", family[i].at, !want)
		}
	}
	if s, ok := g.Spot(at(6, 0)); s != (tree.Spot{Parent: at(4, 0), Key: "e"}) || !ok {
		t.Error("Spot", s, ok)
	}
	if m, ok := g.Ref(at(5, 2)); m != at(2, 0) || !ok {
		t.Error("Ref", m, ok)
	}
	if l := g.Row(at(2, 0)); !slices.Equal(l, []order.Sib{{Key: "b", Node: at(3, 1)}, {Key: "c", Node: at(3, 0)}}) {
		t.Error("Row", l)
	}
	if l := g.Above(at(3, 0)); !slices.Equal(l, []api.Stamp{at(2, 0), at(1, 0), root}) {
		t.Error("Above", l)
	}
}

func TestP1303Reaches(t *testing.T) {
	g := grown(t, family...)
	for _, c := range []struct {
		n, m     api.Stamp
		up, down bool
	}{
		{at(1, 0), at(1, 0), true, true}, {root, root, true, true}, {trash, trash, true, true}, {root, trash, false, false},
		{at(3, 0), at(1, 0), true, false}, {at(1, 0), at(3, 0), false, true}, {at(3, 0), root, true, false}, {root, at(3, 0), false, true},
		{at(6, 0), trash, true, false}, {trash, at(6, 0), false, true}, {at(6, 0), root, false, false}, {root, at(6, 0), false, false},
		// 5@2 points to 2@0.
		{at(5, 2), at(2, 0), true, true}, {at(2, 0), at(5, 2), false, false}, {at(5, 2), at(3, 1), false, true}, {at(5, 2), at(1, 0), true, false},
		{at(3, 1), at(5, 2), false, false}, {at(1, 0), at(5, 2), false, false}, {at(3, 0), at(3, 1), false, false},
		// These are not there.
		{at(99, 0), at(99, 0), false, false}, {at(99, 0), root, false, false}, {root, at(99, 0), false, false}, {at(0, 2), at(0, 2), false, false},
		{at(9, 1), at(9, 1), false, false}, {at(8, 0), at(1, 0), false, false}, {at(math.MinInt, -1), root, false, false}, {root, at(0, -1), false, false},
	} {
		if got := g.Reaches(c.n, c.m, true); got != c.up {
			t.Errorf("%v up to %v: %t", c.n, c.m, got)
		}
		if got := g.Reaches(c.n, c.m, false); got != c.down {
			t.Errorf("%v down to %v: %t", c.n, c.m, got)
		}
	}
}

// Ways that part and meet again, layer by layer, are not gone one by one.
func TestP1303ReachesManyWays(t *testing.T) {
	g := graph.New()
	const layers = 400
	time := 0
	add := func(x op.Op) api.Stamp {
		time++
		inserts(t, g, at(time, 0), x, 0, api.OK)
		return at(time, 0)
	}
	// Steps up from each two lead to the same two: each pair has one Parent and points to another node, which both stand in the pair ahead.
	a, b := add(create(root, "a")), add(create(root, "b"))
	first := a
	for range layers {
		c, d := add(create(a, "a")), add(create(a, "b"))
		add(point(c, b))
		add(point(d, b))
		a, b = c, d
	}
	top := add(create(root, "c"))
	for range 2 {
		if !g.Reaches(b, first, true) || g.Reaches(b, top, true) || g.Reaches(first, top, false) || !g.Reaches(first, b, false) {
			t.Fatal("Reaches")
		}
	}
	if p := add(point(b, top)); !g.Done(p) {
		t.Error("a Point is passed over")
	}
	if p := add(point(top, b)); g.Done(p) {
		t.Error("a ring is closed")
	}
}

func TestP1303Same(t *testing.T) {
	base := []line{{at(1, 0), create(root, "a")}, {at(2, 0), create(root, "b")}, {at(3, 0), create(at(1, 0), "c")}}
	g := grown(t, base...)
	for _, c := range []struct {
		more []line
		same bool
	}{
		{nil, true},
		{[]line{{at(4, 0), create(root, "a")}}, false},
		{[]line{{at(4, 0), move(at(2, 0), root, "c")}}, false},
		{[]line{{at(4, 0), move(at(2, 0), trash, "b")}}, false},
		{[]line{{at(4, 0), move(at(2, 0), root, "b")}}, true},
		{[]line{{at(4, 0), move(at(9, 0), root, "b")}}, true},
		{[]line{{at(4, 0), move(at(1, 0), at(3, 0), "a")}}, true},
		{[]line{{at(4, 0), point(at(2, 0), at(1, 0))}}, false},
		{[]line{{at(4, 0), point(at(2, 0), at(2, 0))}}, true},
		{[]line{{at(4, 0), point(at(2, 0), api.Stamp{})}}, true},
		{[]line{{at(4, 0), point(at(2, 0), at(1, 0))}, {at(5, 0), point(at(2, 0), api.Stamp{})}}, true},
		{[]line{{at(4, 0), move(at(2, 0), trash, "z")}, {at(5, 0), move(at(2, 0), root, "b")}}, true},
	} {
		h := grown(t, append(slices.Clone(base), c.more...)...)
		if g.Same(h) != c.same || h.Same(g) != c.same {
			t.Errorf("with %v: %t", c.more, !c.same)
		}
	}
	a, b := grown(t, base...), grown(t, base...)
	inserts(t, a, at(4, 0), point(at(2, 0), at(1, 0)), 0, api.OK)
	inserts(t, b, at(4, 0), point(at(2, 0), at(3, 0)), 0, api.OK)
	if a.Same(b) || b.Same(a) || !graph.New().Same(graph.New()) || graph.New().Same(a) {
		t.Error("Same")
	}
}

func TestP1303CloneIsApart(t *testing.T) {
	rnd := rand.New(rand.NewSource(1303))
	for range 60 {
		l := anyLines(rnd, 12)
		part := rnd.Intn(len(l))
		g := grown(t, l[:part]...)
		if rnd.Intn(2) == 0 {
			g.Nodes()
		}
		c := g.Clone()
		if !g.Same(c) {
			t.Fatal("a clone is another one")
		}
		// What each of them has from here on is its own, whichever was inserted into first.
		mine, yours := slices.Clone(l[:part]), slices.Clone(l[:part])
		for i, x := range l[part:] {
			to, list := g, &mine
			if i%2 == rnd.Intn(2) {
				to, list = c, &yours
			}
			inserts(t, to, x.at, x.op, modelOf(*list).behind(x.at), api.OK)
			*list = append(*list, x)
		}
		holds(t, g, mine)
		holds(t, c, yours)
		d := c.Clone()
		for _, x := range l[part:] {
			d.Insert(x.at, x.op)
		}
		holds(t, d, l)
		holds(t, c, yours)
	}
}

// orders calls each with every order of a list.
func orders(l []line, each func([]line)) {
	if len(l) == 0 {
		each(nil)
		return
	}
	for i := range l {
		rest := slices.Delete(slices.Clone(l), i, i+1)
		orders(rest, func(m []line) { each(append([]line{l[i]}, m...)) })
	}
}

// alike asks whether two graphs answer the same to every look.
func alike(t *testing.T, g, h *graph.Graph, l []line) {
	t.Helper()
	if !g.Same(h) || !h.Same(g) || !slices.Equal(g.Nodes(), h.Nodes()) {
		t.Fatalf("not the same: %v", l)
	}
	for _, x := range l {
		if g.Done(x.at) != h.Done(x.at) {
			t.Fatalf("Done of %v: %t in the order of %v", x.at, h.Done(x.at), l)
		}
	}
}

func TestP1304EveryOrder(t *testing.T) {
	a, b, c, d := at(1, 0), at(2, 0), at(2, 1), at(3, 0)
	for _, l := range [][]line{
		// The chapter's example, and a Move behind that is done now.
		{{a, create(root, "a")}, {b, create(a, "b")}, {at(3, 0), move(a, b, "c")}, {at(4, 0), move(b, root, "d")}, {at(5, 0), move(a, b, "e")}},
		// Two Moves, each of which would be done without the other one.
		{{a, create(root, "a")}, {b, create(root, "b")}, {at(3, 0), move(a, b, "c")}, {at(3, 1), move(b, a, "d")}},
		{{a, create(root, "a")}, {b, create(root, "b")}, {c, create(root, "c")}, {at(4, 0), point(a, b)}, {at(4, 1), point(b, c)}, {at(4, 2), point(c, a)}},
		{{a, create(root, "a")}, {b, create(a, "b")}, {c, create(b, "c")}, {d, create(c, "d")}, {at(4, 0), move(c, trash, "e")}, {at(5, 0), point(a, d)}},
		// Nodes whose Parents come later, or never.
		{{a, create(b, "a")}, {b, create(a, "b")}, {c, create(c, "c")}, {d, create(at(9, 9), "d")}, {at(4, 0), move(a, c, "e")}},
		{{a, create(root, "a")}, {b, point(a, a)}, {c, point(a, d)}, {d, create(root, "d")}, {at(4, 0), point(a, d)}, {at(5, 0), point(a, api.Stamp{})}},
	} {
		first := grown(t, l...)
		holds(t, first, l)
		orders(l, func(m []line) {
			alike(t, first, grown(t, m...), m)
			// Looks between the inserts change nothing.
			g := graph.New()
			for _, x := range m {
				g.Insert(x.at, x.op)
				g.Nodes()
			}
			alike(t, first, g, m)
		})
	}
}

func TestP1304AnyOrder(t *testing.T) {
	rnd := rand.New(rand.NewSource(1304))
	done, passed := 0, 0
	for range 150 {
		l := anyLines(rnd, 4+rnd.Intn(12))
		g := graph.New()
		looks := rnd.Intn(4)
		for i, x := range l {
			inserts(t, g, x.at, x.op, modelOf(l[:i]).behind(x.at), api.OK)
			if looks > 0 && rnd.Intn(looks) == 0 {
				g.Done(x.at)
			}
		}
		holds(t, g, l)
		for range 5 {
			rnd.Shuffle(len(l), func(i, j int) { l[i], l[j] = l[j], l[i] })
			alike(t, g, grown(t, l...), l)
		}
		for _, x := range l {
			if g.Done(x.at) {
				done++
			} else {
				passed++
			}
		}
	}
	if done < 1000 || passed < 500 {
		t.Error("few ops were done, or few passed over", done, passed)
	}
}

// Each op that comes is looked at, step by step: what was done may be passed over now, and the other way round.
func TestP1304StepByStep(t *testing.T) {
	rnd := rand.New(rand.NewSource(13040))
	turned := [2]int{}
	for i := range 60 {
		l := anyLines(rnd, 9)
		if i%2 == 0 {
			// Where all nodes are there from the beginning, it is the rings that make the difference.
			slices.SortStableFunc(l, func(a, b line) int { return cmp.Compare(min(a.op.Kind, op.Move), min(b.op.Kind, op.Move)) })
		}
		g := graph.New()
		for i, x := range l {
			before := modelOf(l[:i])
			inserts(t, g, x.at, x.op, before.behind(x.at), api.OK)
			holds(t, g, l[:i+1])
			for s, was := range before.done {
				if is := g.Done(s); is != was && is {
					turned[1]++
				} else if is != was {
					turned[0]++
				}
			}
		}
	}
	if turned[0] < 20 || turned[1] < 20 {
		t.Error("few ops were passed over later, or done later", turned)
	}
}

// passes asks whether the last op of the list is done, whichever way they come.
func passes(t *testing.T, name string, done bool, l ...line) {
	t.Helper()
	last := l[len(l)-1].at
	for range 2 {
		g := grown(t, l...)
		if g.Done(last) != done {
			t.Errorf("%s: Done %t", name, !done)
		}
		holds(t, g, l)
		slices.Reverse(l)
	}
}

func TestP1305Rings(t *testing.T) {
	// Of the root a (of it b, of that c) and x (of it y), of the trash z.
	a, b, c, x, y, z := at(1, 0), at(2, 0), at(3, 0), at(4, 0), at(5, 0), at(6, 0)
	base := []line{{a, create(root, "a")}, {b, create(a, "b")}, {c, create(b, "c")}, {x, create(root, "x")}, {y, create(x, "y")}, {z, create(trash, "z")}}
	nothing := api.Stamp{}
	for _, k := range []struct {
		name string
		ops  []op.Op
		done bool
	}{
		{"a Move to itself", []op.Op{move(a, a, "k")}, false},
		{"a Move to what is below", []op.Op{move(a, b, "k")}, false},
		{"a Move far down", []op.Op{move(a, c, "k")}, false},
		{"a Move to the Parent", []op.Op{move(c, b, "k")}, true},
		{"a Move to the same spot", []op.Op{move(c, b, "c")}, true},
		{"a Move up", []op.Op{move(c, a, "k")}, true},
		{"a Move to the root", []op.Op{move(c, root, "k")}, true},
		{"a Move to the trash", []op.Op{move(a, trash, "k")}, true},
		{"a Move out of the trash", []op.Op{move(z, c, "k")}, true},
		{"a Move into the trash's", []op.Op{move(a, z, "k")}, true},
		{"a Move of what is not there", []op.Op{move(at(99, 0), root, "k")}, false},
		{"a Move to what is not there", []op.Op{move(a, at(99, 0), "k")}, false},
		{"a Move of its own stamp", []op.Op{move(at(10, 0), root, "k")}, false},
		{"a Point to itself", []op.Op{point(a, a)}, false},
		{"a Point to the Parent", []op.Op{point(b, a)}, false},
		{"a Point far up", []op.Op{point(c, a)}, false},
		{"a Point to what is below", []op.Op{point(a, b)}, false},
		{"a Point far down", []op.Op{point(a, c)}, false},
		{"a Point aside", []op.Op{point(a, x)}, true},
		{"a Point into what lies aside", []op.Op{point(c, y)}, true},
		{"a Point into the trash", []op.Op{point(c, z)}, true},
		{"a Point out of the trash", []op.Op{point(z, c)}, true},
		{"a Point to nothing", []op.Op{point(c, nothing)}, true},
		{"a Point to nothing in the trash", []op.Op{point(z, nothing)}, true},
		{"a Point of what is not there", []op.Op{point(at(99, 0), a)}, false},
		{"a Point of what is not there to nothing", []op.Op{point(at(99, 0), nothing)}, false},
		{"a Point to what is not there", []op.Op{point(a, at(99, 0))}, false},
		{"Points to each other", []op.Op{point(a, x), point(x, a)}, false},
		{"Points in a ring of three", []op.Op{point(a, x), point(x, z), point(z, a)}, false},
		{"Points one behind the other", []op.Op{point(a, x), point(z, a), point(c, y)}, true},
		{"the same Point again", []op.Op{point(a, x), point(a, x)}, true},
		{"a Point back to one that let go", []op.Op{point(a, x), point(a, nothing), point(x, a)}, true},
		{"a Point back to one that points elsewhere", []op.Op{point(a, x), point(a, z), point(x, a)}, true},
		{"a Point back to one that would have let go", []op.Op{point(a, x), point(a, b), point(x, a)}, false},
		{"a Point from within the master back", []op.Op{point(c, x), point(y, c)}, false},
		{"a Point from within the master to one above the instance", []op.Op{point(c, x), point(y, a)}, false},
		{"a Point from within the master to one below the instance", []op.Op{point(a, x), point(y, c)}, true},
		{"a Point of the master to one below the instance", []op.Op{point(a, x), point(x, c)}, false},
		{"a Point of the master to one above the instance", []op.Op{point(c, x), point(x, a)}, false},
		{"the instance into its master", []op.Op{point(a, x), move(a, x, "k")}, false},
		{"the instance far into its master", []op.Op{point(a, x), move(a, y, "k")}, false},
		{"one above the instance into its master", []op.Op{point(c, x), move(a, y, "k")}, false},
		{"one below the instance into its master", []op.Op{point(a, x), move(c, y, "k")}, true},
		{"the instance to its master's Parent", []op.Op{point(a, y), move(a, x, "k")}, true},
		{"the master into its instance", []op.Op{point(a, x), move(x, a, "k")}, false},
		{"the master far into its instance", []op.Op{point(a, x), move(x, c, "k")}, false},
		{"one above the master into its instance", []op.Op{point(a, y), move(x, c, "k")}, false},
		{"one below the master into its instance", []op.Op{point(a, x), move(y, c, "k")}, true},
		{"the instance of an instance into the master", []op.Op{point(a, z), point(z, x), move(a, y, "k")}, false},
		{"the master into an instance of its instance", []op.Op{point(a, z), point(z, x), move(x, c, "k")}, false},
		{"the trash's instance into its master", []op.Op{point(z, a), move(z, c, "k")}, false},
		{"a Move past what moved away", []op.Op{move(b, root, "k"), move(a, c, "k")}, true},
		{"a Move past a Move that was passed over", []op.Op{move(b, c, "k"), move(a, c, "k")}, false},
		{"a Move past an instance that let go", []op.Op{point(a, x), point(a, nothing), move(a, y, "k")}, true},
	} {
		l := slices.Clone(base)
		for i, x := range k.ops {
			l = append(l, line{at(10+i, 0), x})
		}
		passes(t, k.name, k.done, l...)
	}
}

// A Create makes no ring, whatever it names, and is always done.
func TestP1305Creates(t *testing.T) {
	a, b := at(5, 0), at(5, 1)
	for name, l := range map[string][]line{
		"below itself":           {{a, create(a, "a")}},
		"below what comes later": {{b, create(at(9, 0), "b")}, {a, create(b, "a")}},
		"below a Move":           {{a, move(b, root, "k")}, {b, create(a, "b")}},
		"below the trash":        {{a, create(trash, "a")}, {b, create(a, "b")}},
		"what a Move named":      {{at(4, 0), move(b, root, "k")}, {at(4, 1), point(b, a)}, {a, create(root, "a")}, {b, create(a, "b")}},
	} {
		passes(t, name, true, l...)
	}
}

// wellFormed asks that there is no ring, and that each node's Above ends in the root or the trash, by looks alone.
func wellFormed(t *testing.T, g *graph.Graph) {
	t.Helper()
	nodes := g.Nodes()
	up, down := map[api.Stamp][]api.Stamp{}, map[api.Stamp][]api.Stamp{}
	below := 0
	for _, n := range slices.Concat(nodes, []api.Stamp{root, trash}) {
		up[n], down[n] = nil, nil
		for _, x := range g.Row(n) {
			down[n] = append(down[n], x.Node)
			below++
		}
		if master, points := g.Ref(n); points {
			up[n], down[n] = append(up[n], master), append(down[n], master)
		}
		if spot, there := g.Spot(n); there {
			up[n] = append(up[n], spot.Parent)
			l := g.Above(n)
			if last := l[len(l)-1]; last != root && last != trash || l[0] != spot.Parent {
				t.Fatalf("Above %v: %v", n, l)
			}
		}
	}
	if ring(up) || ring(down) || below != len(nodes) {
		t.Fatal("a ring, or a node that does not stand in one row", nodes, up, down)
	}
}

func TestP1305NoRing(t *testing.T) {
	rnd := rand.New(rand.NewSource(1305))
	for range 40 {
		l := anyLines(rnd, 40)
		g := graph.New()
		for i, x := range l {
			g.Insert(x.at, x.op)
			if i%13 == 0 {
				wellFormed(t, g)
			}
		}
		wellFormed(t, g)
	}
}
