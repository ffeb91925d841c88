package tree_test

import (
	"cmp"
	"fmt"
	"math"
	"math/rand"
	"slices"
	"strings"
	"testing"

	"diorama/api"
	"diorama/tree"
)

const (
	mostTime  = 1 << 40
	mostNodes = 1 << 16
	mostKey   = 24
)

func at(time, replica int) api.Stamp { return api.Stamp{Time: time, Replica: replica} }

var root, trash = at(0, 0), at(0, 1)

func spot(p api.Stamp, key string) tree.Spot { return tree.Spot{Parent: p, Key: key} }

// line is a node and where it is.
type line struct {
	node api.Stamp
	spot tree.Spot
}

// grown answers a tree of these nodes, each behind its parent.
func grown(t *testing.T, l ...line) *tree.Tree {
	t.Helper()
	u := tree.New()
	for _, x := range l {
		adds(t, u, x.node, x.spot, api.OK)
	}
	return u
}

func adds(t *testing.T, u *tree.Tree, n api.Stamp, to tree.Spot, want api.Errno) {
	t.Helper()
	if e := u.Add(n, to); e != want {
		t.Fatalf("Add of %v to %v: %d, want %d", n, to, e, want)
	}
}

func moves(t *testing.T, u *tree.Tree, n api.Stamp, to, was tree.Spot, want api.Errno) {
	t.Helper()
	if got, e := u.Move(n, to); got != was || e != want {
		t.Fatalf("Move of %v to %v: %v %d, want %v %d", n, to, got, e, was, want)
	}
}

func drops(t *testing.T, u *tree.Tree, n api.Stamp, was tree.Spot, want api.Errno) {
	t.Helper()
	if got, e := u.Drop(n); got != was || e != want {
		t.Fatalf("Drop of %v: %v %d, want %v %d", n, got, e, was, want)
	}
}

func rising(a, b api.Stamp) int {
	return cmp.Or(cmp.Compare(a.Time, b.Time), cmp.Compare(a.Replica, b.Replica))
}

// model does what the chapter says, with a list that is searched.
type model []line

func (m model) find(n api.Stamp) int {
	return slices.IndexFunc(m, func(x line) bool { return x.node == n })
}

func (m model) has(p api.Stamp) bool { return p == root || p == trash || m.find(p) >= 0 }

func (m model) above(n api.Stamp) (l []api.Stamp) {
	for i := m.find(n); i >= 0; i = m.find(l[len(l)-1]) {
		l = append(l, m[i].spot.Parent)
	}
	return l
}

func (m model) within(p, n api.Stamp) bool {
	return m.find(n) >= 0 && (p == n || slices.Contains(m.above(n), p))
}

func (m model) below(p api.Stamp) (l []api.Stamp) {
	for _, x := range m {
		if x.spot.Parent == p {
			l = append(l, x.node)
		}
	}
	slices.SortFunc(l, rising)
	return l
}

func (m model) nodes() (l []api.Stamp) {
	for _, x := range m {
		l = append(l, x.node)
	}
	slices.SortFunc(l, rising)
	return l
}

// strange are stamps that may not be, and huge ones.
var strange = []api.Stamp{
	at(-1, 0), at(0, -1), at(0, 16), at(1, -1), at(1, 16), at(mostTime+1, 0), at(mostTime, 16), at(-1, 1),
	at(math.MinInt, math.MinInt), at(math.MaxInt, math.MaxInt), at(math.MaxInt, 0), at(0, math.MaxInt), at(math.MinInt, 1), at(1, 1<<32), at(1<<32, 1<<32),
}

// holds asks every look whether the tree is the model's.
func holds(t *testing.T, u *tree.Tree, m model) {
	t.Helper()
	if got, want := u.Nodes(), m.nodes(); !slices.Equal(got, want) {
		t.Fatalf("Nodes %v, want %v", got, want)
	}
	places := slices.Concat(m.nodes(), []api.Stamp{root, trash, at(0, 2), at(0, 15), at(777, 7), at(mostTime, 15)}, strange)
	for _, p := range places {
		i := m.find(p)
		got, ok := u.Spot(p)
		if ok != (i >= 0) || ok && got != m[i].spot || !ok && got != (tree.Spot{}) {
			t.Fatalf("Spot of %v: %v %t", p, got, ok)
		}
		if u.Has(p) != m.has(p) {
			t.Fatalf("Has %v: %t", p, u.Has(p))
		}
		if got, want := u.Below(p), m.below(p); !slices.Equal(got, want) {
			t.Fatalf("Below %v: %v, want %v", p, got, want)
		}
		if got, want := u.Above(p), m.above(p); !slices.Equal(got, want) {
			t.Fatalf("Above %v: %v, want %v", p, got, want)
		}
		for _, n := range places {
			if got := u.Within(p, n); got != m.within(p, n) {
				t.Fatalf("Within %v of %v: %t", p, n, got)
			}
		}
	}
	if !u.Same(u) || !u.Same(u.Clone()) {
		t.Fatal("a tree is not the same as itself")
	}
}

// family: of the root 1@0 (of it 2@0, of that 3@0 and 3@1) and 5@2, of the trash 4@0 (of it 6@0).
var family = model{
	{at(1, 0), spot(root, "a")},
	{at(2, 0), spot(at(1, 0), "b")},
	{at(3, 1), spot(at(2, 0), "b")},
	{at(3, 0), spot(at(2, 0), "c")},
	{at(4, 0), spot(trash, "a")},
	{at(5, 2), spot(root, "a")},
	{at(6, 0), spot(at(4, 0), "d")},
}

func TestP1001NilAndUnmadeTrees(t *testing.T) {
	for name, u := range map[string]*tree.Tree{"nil": nil, "new": new(tree.Tree), "literal": {}} {
		for range 2 {
			adds(t, u, at(1, 0), spot(root, "a"), api.ErrArg)
			adds(t, u, at(0, 0), tree.Spot{}, api.ErrArg)
			moves(t, u, at(1, 0), spot(root, "a"), tree.Spot{}, api.ErrArg)
			drops(t, u, at(1, 0), tree.Spot{}, api.ErrArg)
			for _, n := range []api.Stamp{root, trash, at(1, 0)} {
				if got, ok := u.Spot(n); got != (tree.Spot{}) || ok {
					t.Error(name, "Spot", got, ok)
				}
				if u.Has(n) || u.Within(n, n) || u.Within(root, n) {
					t.Error(name, "Has or Within", n)
				}
				if len(u.Below(n)) != 0 || len(u.Above(n)) != 0 {
					t.Error(name, "Below or Above", n)
				}
			}
			if len(u.Nodes()) != 0 || u.Clone() != nil {
				t.Error(name, "Nodes or Clone")
			}
			for _, other := range []*tree.Tree{nil, {}, u, tree.New(), grown(t, family...)} {
				if u.Same(other) || other.Same(u) {
					t.Error(name, "Same")
				}
			}
		}
	}
}

func TestP1001TreesAreApart(t *testing.T) {
	a, b := tree.New(), tree.New()
	adds(t, a, at(1, 0), spot(root, "a"), api.OK)
	holds(t, b, nil)
	adds(t, b, at(1, 0), spot(trash, "b"), api.OK)
	adds(t, b, at(2, 0), spot(at(1, 0), "b"), api.OK)
	holds(t, a, model{{at(1, 0), spot(root, "a")}})
	drops(t, a, at(1, 0), spot(root, "a"), api.OK)
	holds(t, b, model{{at(1, 0), spot(trash, "b")}, {at(2, 0), spot(at(1, 0), "b")}})
}

// A copy of the struct is the same tree: none has a node that the other one's looks do not tell.
func TestP1001CopyOfTheStruct(t *testing.T) {
	u := tree.New()
	c := *u
	adds(t, &c, at(1, 0), spot(root, "a"), api.OK)
	adds(t, u, at(2, 0), spot(at(1, 0), "b"), api.OK)
	moves(t, &c, at(2, 0), spot(root, "c"), spot(at(1, 0), "b"), api.OK)
	drops(t, u, at(1, 0), spot(root, "a"), api.OK)
	for _, x := range []*tree.Tree{u, &c} {
		holds(t, x, model{{at(2, 0), spot(root, "c")}})
	}
}

func TestP1001AnswersAreNew(t *testing.T) {
	u := grown(t, family...)
	scribble := func(l []api.Stamp) {
		l = l[:cap(l)]
		for i := range l {
			l[i] = at(77, 7)
		}
	}
	for range 2 {
		for _, look := range []func() []api.Stamp{
			u.Nodes,
			func() []api.Stamp { return u.Below(at(2, 0)) },
			func() []api.Stamp { return u.Below(root) },
			func() []api.Stamp { return u.Above(at(3, 0)) },
			func() []api.Stamp { return u.Above(at(6, 0)) },
		} {
			one, two := look(), look()
			kept := slices.Clone(two)
			scribble(one)
			if !slices.Equal(two, kept) || !slices.Equal(look(), kept) {
				t.Fatal("two answers share memory", kept, two)
			}
		}
		holds(t, u, family)
	}
}

// What is refused changes nothing, and no argument makes a panic.
func TestP1001AnyArguments(t *testing.T) {
	u := grown(t, family...)
	keys := []string{"", "a", "\x00", "a\x00", strings.Repeat("k", mostKey), strings.Repeat("k", mostKey+1), strings.Repeat("k", 1<<20), "\xff\xfe"}
	places := slices.Concat(strange, []api.Stamp{root, trash, at(0, 2), at(0, 15), at(1, 0), at(99, 0)})
	for _, n := range slices.Concat(strange, []api.Stamp{root, trash, at(0, 2), at(1, 0)}) {
		for _, p := range places {
			for _, k := range keys {
				c := u.Clone()
				if e := c.Add(n, spot(p, k)); e == api.OK || !c.Same(u) {
					t.Fatalf("Add of %v to %v %q: %d", n, p, k, e)
				}
				if n == at(1, 0) {
					continue
				}
				if was, e := c.Move(n, spot(p, k)); e != api.ErrArg || was != (tree.Spot{}) || !c.Same(u) {
					t.Fatalf("Move of %v to %v %q: %v %d", n, p, k, was, e)
				}
			}
		}
	}
	for _, n := range strange {
		drops(t, u, n, tree.Spot{}, api.ErrNone)
	}
	holds(t, u, family)
}

func TestP1001SameStepsSameAnswers(t *testing.T) {
	var told []string
	for range 3 {
		rnd := rand.New(rand.NewSource(1001))
		u := tree.New()
		var steps strings.Builder
		for range 400 {
			n, p := anyStamp(rnd), anyStamp(rnd)
			was, e := u.Move(n, spot(p, "m"))
			gone, f := u.Drop(anyStamp(rnd))
			fmt.Fprint(&steps, u.Add(n, spot(p, "a")), was, e, gone, f, u.Nodes(), u.Below(root), u.Below(n), u.Above(n))
		}
		told = append(told, steps.String())
	}
	if told[0] != told[1] || told[1] != told[2] {
		t.Error("the same steps have other answers")
	}
}

func TestP1002Add(t *testing.T) {
	u := tree.New()
	holds(t, u, nil)
	for i, x := range family {
		adds(t, u, x.node, x.spot, api.OK)
		holds(t, u, family[:i+1])
	}
	// The edges of stamps and keys.
	edges := model{
		{at(1, 15), spot(root, strings.Repeat("\x00", mostKey-1)+"\x01")},
		{at(mostTime, 15), spot(trash, strings.Repeat("\xff", mostKey))},
		{at(mostTime, 0), spot(at(mostTime, 15), "\x01")},
		{at(1, 3), spot(at(mostTime, 0), "\x00\x01")},
	}
	holds(t, grown(t, edges...), edges)
}

func TestP1002AddErrors(t *testing.T) {
	u := grown(t, family...)
	long := strings.Repeat("k", mostKey+1)
	for _, n := range slices.Concat(strange, []api.Stamp{root, trash, at(0, 2), at(0, 15)}) {
		adds(t, u, n, spot(root, "a"), api.ErrArg)
		adds(t, u, n, spot(at(99, 0), "a"), api.ErrArg)
	}
	for _, p := range slices.Concat(strange, []api.Stamp{at(0, 2), at(0, 15)}) {
		adds(t, u, at(9, 0), spot(p, "a"), api.ErrArg)
		adds(t, u, at(1, 0), spot(p, "a"), api.ErrArg)
	}
	for _, k := range []string{"", "\x00", "a\x00", strings.Repeat("\x00", mostKey), long, long + "\x00"} {
		adds(t, u, at(9, 0), spot(root, k), api.ErrArg)
		adds(t, u, at(9, 0), spot(at(99, 0), k), api.ErrArg)
		adds(t, u, at(1, 0), spot(root, k), api.ErrArg)
	}
	for _, x := range family {
		adds(t, u, x.node, x.spot, api.ErrThere)
		adds(t, u, x.node, spot(root, "z"), api.ErrThere)
		adds(t, u, x.node, spot(at(99, 0), "z"), api.ErrThere)
		adds(t, u, x.node, spot(x.node, "z"), api.ErrThere)
	}
	adds(t, u, at(9, 0), spot(at(99, 0), "a"), api.ErrNone)
	adds(t, u, at(9, 0), spot(at(1, 1), "a"), api.ErrNone)
	adds(t, u, at(9, 0), spot(at(9, 0), "a"), api.ErrNone) // itself is not there yet
	holds(t, u, family)
}

// full is as wide as long: half of it in one row, half of it one below the other.
func full(t *testing.T) *tree.Tree {
	t.Helper()
	u := tree.New()
	deep := trash
	for i := range mostNodes / 2 {
		adds(t, u, at(mostNodes-i, 0), spot(root, "a"), api.OK)
		adds(t, u, at(1+i, 1), spot(deep, "a"), api.OK)
		deep = at(1+i, 1)
	}
	return u
}

func TestP1002Full(t *testing.T) {
	u := full(t)
	last := at(mostNodes/2, 1) // the deepest one
	for range 2 {
		adds(t, u, at(1, 2), spot(root, "a"), api.ErrFull)
		adds(t, u, at(1, 2), spot(last, "a"), api.ErrFull)
		adds(t, u, at(1, 2), spot(at(3, 3), "a"), api.ErrNone)
		adds(t, u, last, spot(root, "a"), api.ErrThere)
		adds(t, u, at(1, 2), spot(root, ""), api.ErrArg)
	}
	// Moves go on, and what is dropped makes room for one.
	moves(t, u, at(1, 1), spot(root, "b"), spot(trash, "a"), api.OK)
	moves(t, u, at(1, 1), spot(last, "b"), tree.Spot{}, api.ErrCycle)
	drops(t, u, at(mostNodes, 0), spot(root, "a"), api.OK)
	adds(t, u, at(1, 2), spot(last, "a"), api.OK)
	adds(t, u, at(1, 3), spot(root, "a"), api.ErrFull)
	if len(u.Nodes()) != mostNodes || len(u.Below(root)) != mostNodes/2 || len(u.Above(at(1, 2))) != mostNodes/2+1 || len(u.Below(trash)) != 0 {
		t.Error(len(u.Nodes()), len(u.Below(root)), len(u.Above(at(1, 2))))
	}
	if !u.Within(root, at(1, 2)) || !u.Within(at(1, 1), at(1, 2)) || u.Within(trash, at(1, 2)) || !u.Clone().Same(u) {
		t.Error("Within or Same")
	}
}

func TestP1002Move(t *testing.T) {
	u := grown(t, family...)
	m := slices.Clone(family)
	for _, c := range []struct {
		n  api.Stamp
		to tree.Spot
	}{
		{at(3, 0), spot(at(2, 0), "d")}, // another key
		{at(3, 0), spot(at(2, 0), "d")}, // where it is already
		{at(3, 0), spot(at(3, 1), "a")}, // below the one beside it
		{at(2, 0), spot(trash, "x")},    // with all that is below it
		{at(2, 0), spot(at(6, 0), "x")},
		{at(4, 0), spot(at(5, 2), "y")}, // out of the trash
		{at(1, 0), spot(at(3, 0), strings.Repeat("\x01", mostKey))},
		{at(5, 2), spot(trash, "a")},
		{at(5, 2), spot(root, "b")},
	} {
		i := m.find(c.n)
		moves(t, u, c.n, c.to, m[i].spot, api.OK)
		m[i].spot = c.to
		holds(t, u, m)
	}
}

func TestP1002MoveErrors(t *testing.T) {
	u := grown(t, family...)
	none := tree.Spot{}
	for _, n := range slices.Concat(strange, []api.Stamp{root, trash, at(0, 2), at(0, 15)}) {
		moves(t, u, n, spot(root, "a"), none, api.ErrArg)
		moves(t, u, n, spot(at(99, 0), "a"), none, api.ErrArg)
	}
	for _, p := range slices.Concat(strange, []api.Stamp{at(0, 2), at(0, 15)}) {
		moves(t, u, at(1, 0), spot(p, "a"), none, api.ErrArg)
		moves(t, u, at(99, 0), spot(p, "a"), none, api.ErrArg)
	}
	for _, k := range []string{"", "\x00", "a\x00", strings.Repeat("k", mostKey+1)} {
		moves(t, u, at(1, 0), spot(root, k), none, api.ErrArg)
		moves(t, u, at(1, 0), spot(at(1, 0), k), none, api.ErrArg)
		moves(t, u, at(99, 0), spot(root, k), none, api.ErrArg)
	}
	moves(t, u, at(99, 0), spot(root, "a"), none, api.ErrNone)
	moves(t, u, at(99, 0), spot(at(99, 0), "a"), none, api.ErrNone)
	moves(t, u, at(1, 0), spot(at(99, 0), "a"), none, api.ErrNone)
	for _, x := range family {
		moves(t, u, x.node, spot(x.node, "a"), none, api.ErrCycle)
		for _, y := range family {
			if x.node != y.node && family.within(x.node, y.node) {
				moves(t, u, x.node, spot(y.node, "a"), none, api.ErrCycle)
			}
		}
	}
	// The chapter's example.
	u = grown(t, line{at(1, 0), spot(root, "a")}, line{at(2, 0), spot(at(1, 0), "a")})
	moves(t, u, at(1, 0), spot(at(2, 0), "a"), none, api.ErrCycle)
	holds(t, u, model{{at(1, 0), spot(root, "a")}, {at(2, 0), spot(at(1, 0), "a")}})
}

func TestP1002Drop(t *testing.T) {
	u := grown(t, family...)
	none := tree.Spot{}
	for _, n := range slices.Concat(strange, []api.Stamp{root, trash, at(0, 2), at(99, 0), at(1, 1)}) {
		drops(t, u, n, none, api.ErrNone)
	}
	for _, n := range []api.Stamp{at(1, 0), at(2, 0), at(4, 0)} {
		drops(t, u, n, none, api.ErrThere)
	}
	holds(t, u, family)
	m := slices.Clone(family)
	for _, n := range []api.Stamp{at(3, 0), at(6, 0), at(3, 1), at(2, 0), at(5, 2), at(1, 0), at(4, 0)} {
		i := m.find(n)
		drops(t, u, n, m[i].spot, api.OK)
		drops(t, u, n, none, api.ErrNone)
		moves(t, u, n, spot(root, "a"), none, api.ErrNone)
		m = slices.Delete(m, i, i+1)
		holds(t, u, m)
	}
	// What is gone may come again, elsewhere.
	adds(t, u, at(3, 0), spot(trash, "z"), api.OK)
	holds(t, u, model{{at(3, 0), spot(trash, "z")}})
}

// What left a place is no longer below it: then that one can be dropped.
func TestP1002DropWhenAllMovedAway(t *testing.T) {
	u := grown(t, family...)
	moves(t, u, at(3, 0), spot(root, "q"), spot(at(2, 0), "c"), api.OK)
	drops(t, u, at(2, 0), tree.Spot{}, api.ErrThere)
	moves(t, u, at(3, 1), spot(at(3, 0), "q"), spot(at(2, 0), "b"), api.OK)
	drops(t, u, at(2, 0), spot(at(1, 0), "b"), api.OK)
	drops(t, u, at(1, 0), spot(root, "a"), api.OK)
	drops(t, u, at(3, 0), tree.Spot{}, api.ErrThere)
}

func TestP1003Looks(t *testing.T) {
	u := grown(t, family...)
	holds(t, u, family)
	if got := u.Above(at(3, 1)); !slices.Equal(got, []api.Stamp{at(2, 0), at(1, 0), root}) {
		t.Error("Above", got)
	}
	if got := u.Above(at(6, 0)); !slices.Equal(got, []api.Stamp{at(4, 0), trash}) {
		t.Error("Above", got)
	}
	for _, n := range []api.Stamp{root, trash, at(99, 0), at(0, 2)} {
		if got := u.Above(n); len(got) != 0 {
			t.Error("Above", n, got)
		}
		// What is no node there is within nothing, also not within itself.
		for _, p := range []api.Stamp{n, root, trash, at(1, 0)} {
			if u.Within(p, n) {
				t.Error("Within", p, n)
			}
		}
	}
	for _, c := range []struct {
		p, n api.Stamp
		want bool
	}{
		{root, at(3, 0), true}, {at(1, 0), at(3, 0), true}, {at(2, 0), at(3, 0), true}, {at(3, 0), at(3, 0), true},
		{trash, at(3, 0), false}, {at(3, 1), at(3, 0), false}, {at(3, 0), at(2, 0), false}, {at(99, 0), at(3, 0), false},
		{trash, at(6, 0), true}, {root, at(6, 0), false}, {at(4, 0), at(6, 0), true},
	} {
		if got := u.Within(c.p, c.n); got != c.want {
			t.Error("Within", c.p, c.n, got)
		}
	}
	if !u.Has(root) || !u.Has(trash) || u.Has(at(0, 2)) || !u.Has(at(6, 0)) || u.Has(at(6, 1)) {
		t.Error("Has")
	}
}

// Rising is by Times, those of one Time by their Replicas, whichever way nodes came.
func TestP1003Rising(t *testing.T) {
	want := []api.Stamp{at(1, 2), at(1, 10), at(2, 0), at(9, 15), at(10, 0), at(10, 1), at(1<<33, 0), at(mostTime, 3)}
	rnd := rand.New(rand.NewSource(1003))
	for range 30 {
		u := tree.New()
		for i, place := range rnd.Perm(len(want)) {
			adds(t, u, want[place], spot(trash, strings.Repeat("k", 1+i)), api.OK)
		}
		if got := u.Below(trash); !slices.Equal(got, want) {
			t.Fatal("Below", got)
		}
		if got := u.Nodes(); !slices.Equal(got, want) {
			t.Fatal("Nodes", got)
		}
	}
}

func TestP1003Same(t *testing.T) {
	u := grown(t, family...)
	for _, c := range []struct {
		name   string
		change func(v *tree.Tree)
		same   bool
	}{
		{"nothing", func(v *tree.Tree) {}, true},
		{"where it is", func(v *tree.Tree) { v.Move(at(3, 0), spot(at(2, 0), "c")) }, true},
		{"there and back", func(v *tree.Tree) {
			v.Move(at(3, 0), spot(root, "c"))
			v.Move(at(3, 0), spot(at(2, 0), "c"))
		}, true},
		{"another key", func(v *tree.Tree) { v.Move(at(3, 0), spot(at(2, 0), "d")) }, false},
		{"another parent", func(v *tree.Tree) { v.Move(at(3, 0), spot(at(3, 1), "c")) }, false},
		{"one more", func(v *tree.Tree) { v.Add(at(9, 0), spot(root, "a")) }, false},
		{"one less", func(v *tree.Tree) { v.Drop(at(6, 0)) }, false},
		{"another one", func(v *tree.Tree) {
			v.Drop(at(6, 0))
			v.Add(at(6, 1), spot(at(4, 0), "d"))
		}, false},
	} {
		v := u.Clone()
		c.change(v)
		if u.Same(v) != c.same || v.Same(u) != c.same {
			t.Error(c.name, u.Same(v), v.Same(u))
		}
	}
	// Whichever way it was made.
	v := tree.New()
	for _, x := range family {
		adds(t, v, x.node, spot(trash, "z"), api.OK)
	}
	for _, x := range slices.Backward(family) {
		moves(t, v, x.node, x.spot, spot(trash, "z"), api.OK)
	}
	if !u.Same(v) || !v.Same(u) || !tree.New().Same(tree.New()) || tree.New().Same(u) || u.Same(tree.New()) {
		t.Error("Same")
	}
}

func TestP1003Clone(t *testing.T) {
	u := tree.New()
	c := u.Clone()
	adds(t, c, at(1, 0), spot(root, "a"), api.OK)
	holds(t, u, nil)
	u = grown(t, family...)
	c = u.Clone()
	holds(t, c, family)
	adds(t, u, at(7, 0), spot(at(2, 0), "e"), api.OK)
	moves(t, u, at(3, 0), spot(trash, "f"), spot(at(2, 0), "c"), api.OK)
	drops(t, u, at(6, 0), spot(at(4, 0), "d"), api.OK)
	holds(t, c, family)
	kept := u.Clone()
	moves(t, c, at(2, 0), spot(at(4, 0), "e"), spot(at(1, 0), "b"), api.OK)
	drops(t, c, at(5, 2), spot(root, "a"), api.OK)
	adds(t, c, at(7, 0), spot(root, "e"), api.OK)
	if !u.Same(kept) {
		t.Error("a clone's changes are seen")
	}
	changed := slices.Clone(family)
	changed[family.find(at(2, 0))].spot = spot(at(4, 0), "e")
	changed[family.find(at(5, 2))] = line{at(7, 0), spot(root, "e")}
	holds(t, c, changed)
}

// anyStamp is mostly a node's, of few; now and then a place that is no node, or none at all.
func anyStamp(rnd *rand.Rand) api.Stamp {
	switch rnd.Intn(16) {
	case 0:
		return root
	case 1:
		return trash
	case 2:
		return strange[rnd.Intn(len(strange))]
	}
	return at(1+rnd.Intn(6), rnd.Intn(3))
}

func anyKey(rnd *rand.Rand) string {
	switch rnd.Intn(12) {
	case 0:
		return ""
	case 1:
		return "a\x00"
	case 2:
		return strings.Repeat("k", mostKey+rnd.Intn(2))
	}
	return string([]byte{byte(1 + rnd.Intn(3))})
}

// wrong tells whether a change has an argument that may not be, by the words of chapters 2, 4 and 7.
func wrong(n api.Stamp, to tree.Spot) bool {
	may := func(s api.Stamp) bool {
		return s.Time >= 1 && s.Time <= mostTime && s.Replica >= 0 && s.Replica <= 15
	}
	p, k := to.Parent, to.Key
	return !may(n) || !may(p) && p != root && p != trash || k == "" || len(k) > mostKey || k[len(k)-1] == 0
}

func (m *model) add(n api.Stamp, to tree.Spot) api.Errno {
	switch {
	case wrong(n, to):
		return api.ErrArg
	case m.find(n) >= 0:
		return api.ErrThere
	case !m.has(to.Parent):
		return api.ErrNone
	}
	*m = append(*m, line{n, to})
	return api.OK
}

func (m *model) move(n api.Stamp, to tree.Spot) (was tree.Spot, e api.Errno) {
	i := m.find(n)
	switch {
	case wrong(n, to):
		return was, api.ErrArg
	case i < 0 || !m.has(to.Parent):
		return was, api.ErrNone
	case m.within(n, to.Parent):
		return was, api.ErrCycle
	}
	was, (*m)[i].spot = (*m)[i].spot, to
	return was, api.OK
}

func (m *model) drop(n api.Stamp) (was tree.Spot, e api.Errno) {
	i := m.find(n)
	switch {
	case i < 0:
		return was, api.ErrNone
	case len(m.below(n)) > 0:
		return was, api.ErrThere
	}
	was = (*m)[i].spot
	*m = slices.Delete(*m, i, i+1)
	return was, api.OK
}

// ends asks that all ways up end in the root or the trash, and tell none twice.
func ends(t *testing.T, u *tree.Tree) {
	t.Helper()
	for _, n := range u.Nodes() {
		above := u.Above(n)
		if len(above) == 0 || above[len(above)-1] != root && above[len(above)-1] != trash {
			t.Fatal("a way up ends elsewhere", n, above)
		}
		slices.SortFunc(above, rising)
		if len(slices.Compact(above)) != len(u.Above(n)) || slices.Contains(above, n) {
			t.Fatal("a way up tells one twice", n, u.Above(n))
		}
	}
}

func TestP1004AgainstAModel(t *testing.T) {
	rnd := rand.New(rand.NewSource(1004))
	seen := map[string]int{}
	for range 40 {
		u, m := tree.New(), model{}
		for i := range 400 {
			n, to := anyStamp(rnd), spot(anyStamp(rnd), anyKey(rnd))
			var e api.Errno
			var was tree.Spot
			name := "Add"
			switch rnd.Intn(5) {
			case 0, 1:
				e = m.add(n, to)
				adds(t, u, n, to, e)
			case 2, 3:
				name = "Move"
				was, e = m.move(n, to)
				moves(t, u, n, to, was, e)
			case 4:
				name = "Drop"
				was, e = m.drop(n)
				drops(t, u, n, was, e)
			}
			seen[fmt.Sprint(name, e)]++
			if i%20 == 0 {
				holds(t, u, m)
				u = u.Clone()
			}
			ends(t, u)
		}
		holds(t, u, m)
	}
	for _, want := range []string{"Add0", "Add1", "Add3", "Add4", "Move0", "Move1", "Move3", "Move41", "Drop0", "Drop3", "Drop4"} {
		if seen[want] < 50 {
			t.Error("few of", want, seen)
		}
	}
}

func TestP1005Back(t *testing.T) {
	rnd := rand.New(rand.NewSource(1005))
	back := 0
	for range 60 {
		u := tree.New()
		for range 60 {
			before := u.Clone()
			n, to := anyStamp(rnd), spot(anyStamp(rnd), anyKey(rnd))
			if u.Add(n, to) == api.OK {
				drops(t, u, n, to, api.OK)
				alike(t, u, before)
				adds(t, u, n, to, api.OK)
				back++
			}
			before = u.Clone()
			n, to = anyStamp(rnd), spot(anyStamp(rnd), anyKey(rnd))
			if was, e := u.Move(n, to); e == api.OK {
				moves(t, u, n, was, to, api.OK)
				alike(t, u, before)
				moves(t, u, n, to, was, api.OK)
				back++
			}
		}
	}
	if back < 500 {
		t.Error("few changes", back)
	}
}

// alike asks all looks, and not only Same, whether two trees are the same.
func alike(t *testing.T, u, v *tree.Tree) {
	t.Helper()
	if !u.Same(v) || !v.Same(u) {
		t.Fatal("not the same", u.Nodes(), v.Nodes())
	}
	var m model
	for _, n := range v.Nodes() {
		at, _ := v.Spot(n)
		m = append(m, line{n, at})
	}
	holds(t, u, m)
}

// Many changes, undone the last one first, make the tree that was, step by step.
func TestP1005BackAllTheWay(t *testing.T) {
	rnd := rand.New(rand.NewSource(10050))
	for range 20 {
		u := tree.New()
		var were []*tree.Tree
		var undo []func()
		for range 80 {
			before := u.Clone()
			n, to := anyStamp(rnd), spot(anyStamp(rnd), anyKey(rnd))
			if u.Add(n, to) == api.OK {
				undo = append(undo, func() { drops(t, u, n, to, api.OK) })
			} else if was, e := u.Move(n, to); e == api.OK {
				undo = append(undo, func() { moves(t, u, n, was, to, api.OK) })
			} else {
				continue
			}
			were = append(were, before)
		}
		for i := range slices.Backward(undo) {
			undo[i]()
			alike(t, u, were[i])
		}
		holds(t, u, nil)
	}
}
