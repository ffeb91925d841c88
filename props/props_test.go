package props_test

import (
	"cmp"
	"fmt"
	"math"
	"math/rand"
	"slices"
	"strings"
	"testing"

	"diorama/api"
	"diorama/op"
	"diorama/props"
	"diorama/value"
)

const mostTime = 1 << 40

func at(time, replica int) api.Stamp { return api.Stamp{Time: time, Replica: replica} }

var (
	none = api.Value{}
	yes  = api.Value{Kind: value.Flag, N: 1}
	no   = api.Value{Kind: value.Flag}
)

func text(s string) api.Value { return api.Value{Kind: value.Text, T: s} }
func fixed(n int) api.Value   { return api.Value{Kind: value.Fixed, N: n} }
func whole(n int) api.Value   { return api.Value{Kind: value.Int, N: n} }

func set(n api.Stamp, prop int, v api.Value) op.Op {
	return op.Op{Kind: op.Set, Node: n, Prop: prop, Value: v}
}

func mark(n api.Stamp, on bool) op.Op { return op.Op{Kind: op.Mark, Node: n, On: on} }

func over(n api.Stamp, path []api.Stamp, prop int, v api.Value) op.Op {
	return op.Op{Kind: op.Override, Node: n, Path: path, Prop: prop, Value: v}
}

func path(l ...api.Stamp) []api.Stamp { return l }

// line is an op with its stamp.
type line struct {
	at api.Stamp
	op op.Op
}

func does(t *testing.T, r *props.Regs, s api.Stamp, x op.Op, want api.Errno) {
	t.Helper()
	if e := r.Do(s, x); e != want {
		t.Fatalf("Do of %v at %v: %d, want %d", x, s, e, want)
	}
}

func written(t *testing.T, l ...line) *props.Regs {
	t.Helper()
	r := props.New()
	for _, x := range l {
		does(t, r, x.at, x.op, api.OK)
	}
	return r
}

func below(a, b api.Stamp) bool {
	return cmp.Or(cmp.Compare(a.Time, b.Time), cmp.Compare(a.Replica, b.Replica)) < 0
}

// sameRegister tells whether a and b write into one register.
func sameRegister(a, b op.Op) bool {
	return a.Kind == b.Kind && a.Node == b.Node && slices.Equal(a.Path, b.Path) && a.Prop == b.Prop
}

// stands answers the op that has x's register, of all that were done, or none.
func stands(l []line, x op.Op) op.Op {
	var last line
	for _, y := range l {
		if sameRegister(x, y.op) && below(last.at, y.at) {
			last = y
		}
	}
	return last.op
}

// holds asks every look whether these ops were done, and no others.
func holds(t *testing.T, r *props.Regs, done []line) {
	t.Helper()
	for _, n := range nodes {
		if got, want := r.Marked(n), stands(done, mark(n, true)).On; got != want {
			t.Fatalf("Marked %v: %t", n, got)
		}
		for prop := -1; prop <= api.MaxProps+1; prop++ {
			want := stands(done, set(n, prop, none)).Value
			if got := r.Value(n, prop); got != want {
				t.Fatalf("Value %v %d: %v, want %v", n, prop, got, want)
			}
			if got := r.Flag(n, prop); got != (want == yes) {
				t.Fatalf("Flag %v %d: %t of %v", n, prop, got, want)
			}
			for _, p := range paths {
				want := stands(done, over(n, p, prop, none)).Value
				if got, ok := r.Over(n, p, prop); got != want || ok != (want != none) {
					t.Fatalf("Over %v %v %d: %v %t, want %v", n, p, prop, got, ok, want)
				}
			}
		}
	}
}

var (
	nodes = []api.Stamp{at(1, 0), at(1, 15), at(2, 0), at(mostTime, 15), at(0, 0), at(0, 1), at(-1, 0)}
	paths = [][]api.Stamp{
		path(at(2, 0)),
		path(at(1, 0), at(2, 0)),
		path(at(2, 0), at(1, 0)),
		path(at(1, 15)),
		slices.Repeat(path(at(2, 0)), api.MaxPath),
		slices.Repeat(path(at(2, 0)), api.MaxPath-1),
		nil,
	}
	someValues = []api.Value{
		none, yes, no, text(""), text("a b~"), text(strings.Repeat("x", api.MaxText)),
		fixed(0), fixed(-1), fixed(1 << 40), whole(0), whole(7), whole(-1 << 40),
	}
)

// anyOp answers an op of a register that may be: of few registers, so that many write into one.
func anyOp(rnd *rand.Rand) op.Op {
	for {
		n, prop := nodes[rnd.Intn(4)], 1+rnd.Intn(api.MaxProps)
		p, v := paths[rnd.Intn(len(paths)-1)], someValues[rnd.Intn(len(someValues))]
		x := []op.Op{set(n, prop, v), mark(n, rnd.Intn(2) == 0), over(n, p, prop, v)}[rnd.Intn(3)]
		if op.Right(x) {
			return x
		}
	}
}

// anyLines answers ops with stamps that differ.
func anyLines(rnd *rand.Rand, count int) (l []line) {
	for _, i := range rnd.Perm(4 * count)[:count] {
		l = append(l, line{at(1+i/3, i%3), anyOp(rnd)})
	}
	return l
}

// some writes a register of each kind.
func some() []line {
	return []line{
		{at(4, 0), set(at(1, 0), value.Name, text("a"))},
		{at(5, 0), set(at(1, 0), value.Hidden, yes)},
		{at(6, 1), mark(at(2, 0), true)},
		{at(7, 2), over(at(1, 15), path(at(1, 0), at(2, 0)), value.Fill, whole(7))},
	}
}

func TestP1201NilAndUnmadeRegs(t *testing.T) {
	for name, r := range map[string]*props.Regs{"nil": nil, "new": new(props.Regs), "literal": {}} {
		for range 2 {
			for _, x := range some() {
				does(t, r, x.at, x.op, api.ErrArg)
			}
			does(t, r, at(1, 0), op.Op{Kind: op.Point, Node: at(1, 0)}, api.ErrArg)
			does(t, r, at(0, 0), op.Op{}, api.ErrArg)
			holds(t, r, nil)
			if r.Clone() != nil {
				t.Error(name, "Clone")
			}
			for _, other := range []*props.Regs{nil, {}, r, props.New(), written(t, some()...)} {
				if r.Same(other) || other.Same(r) {
					t.Error(name, "Same")
				}
			}
		}
	}
}

func TestP1201RegsAreApart(t *testing.T) {
	a, b := props.New(), props.New()
	does(t, a, at(4, 0), set(at(1, 0), value.Name, text("a")), api.OK)
	does(t, b, at(3, 0), set(at(1, 0), value.Name, text("b")), api.OK)
	holds(t, a, some()[:1])
	holds(t, b, []line{{at(3, 0), set(at(1, 0), value.Name, text("b"))}})
}

// A copy of the struct is the same Regs: none has a register that the other one's looks do not tell.
func TestP1201CopyOfTheStruct(t *testing.T) {
	r := props.New()
	c := *r
	for i, x := range some() {
		does(t, []*props.Regs{r, &c}[i%2], x.at, x.op, api.OK)
	}
	holds(t, r, some())
	holds(t, &c, some())
}

// A path that is handed in is neither changed nor kept, nor is the room behind it.
func TestP1201PathsAreNotKept(t *testing.T) {
	r := props.New()
	room := path(at(1, 0), at(2, 0), at(77, 7), at(78, 7))
	p := room[:2]
	does(t, r, at(7, 2), over(at(1, 15), p, value.Fill, whole(7)), api.OK)
	if v, ok := r.Over(at(1, 15), p, value.Fill); v != whole(7) || !ok {
		t.Error(v, ok)
	}
	if !slices.Equal(room, path(at(1, 0), at(2, 0), at(77, 7), at(78, 7))) {
		t.Error("changed:", room)
	}
	for i := range room {
		room[i] = at(2, 0)
	}
	holds(t, r, some()[3:])
}

// strange are stamps that name no node.
var strange = []api.Stamp{
	at(0, 0), at(0, 1), at(0, 2), at(0, 15), at(-1, 0), at(1, -1), at(1, 16), at(mostTime+1, 0), at(mostTime, 16),
	at(math.MinInt, math.MinInt), at(math.MaxInt, math.MaxInt), at(math.MaxInt, 0), at(math.MinInt, 1), at(1, 1<<32), at(1<<32, 1<<32),
}

// Looks answer nothing of what was never written, whatever is asked.
func TestP1201AnyArguments(t *testing.T) {
	r := written(t, some()...)
	long := slices.Repeat(path(at(1, 0), at(2, 0)), 1<<12)
	odd := [][]api.Stamp{nil, {}, strange, strange[:1], path(at(1, 0), at(2, 0), at(0, 0)), long, long[:api.MaxPath+1], long[:api.MaxPath]}
	for _, n := range slices.Concat(strange, nodes) {
		for _, prop := range []int{0, -1, value.Hidden, value.Name, value.Fill, api.MaxProps + 1, math.MinInt, math.MaxInt, 1 << 32, value.Fill + 1<<32} {
			if v := r.Value(n, prop); v != none && (n != at(1, 0) || prop != value.Name && prop != value.Hidden) {
				t.Errorf("Value %v %d: %v", n, prop, v)
			}
			if r.Flag(n, prop) != (n == at(1, 0) && prop == value.Hidden) {
				t.Errorf("Flag %v %d", n, prop)
			}
			for _, p := range odd {
				if v, ok := r.Over(n, p, prop); v != none || ok {
					t.Errorf("Over %v of %d stamps %d: %v %t", n, len(p), prop, v, ok)
				}
			}
		}
		if r.Marked(n) != (n == at(2, 0)) {
			t.Errorf("Marked %v", n)
		}
	}
	holds(t, r, some())
}

func TestP1202Do(t *testing.T) {
	// The chapter's example, and the edges of stamps.
	name := func(s string) op.Op { return set(at(1, 0), value.Name, text(s)) }
	r := written(t, line{at(5, 0), name("five")}, line{at(3, 0), name("three")})
	if v := r.Value(at(1, 0), value.Name); v != text("five") {
		t.Error(v)
	}
	r = props.New()
	for _, c := range []struct {
		s    api.Stamp
		want string
	}{
		{at(1, 0), "1@0"}, {at(1, 15), "1@15"}, {at(1, 14), "1@15"}, {at(2, 0), "2@0"}, {at(1, 15), "2@0"},
		{at(mostTime, 15), "last"}, {at(mostTime, 14), "last"}, {at(mostTime-1, 15), "last"}, {at(3, 0), "last"},
	} {
		s := fmt.Sprintf("%d@%d", c.s.Time, c.s.Replica)
		if c.s == at(mostTime, 15) {
			s = "last"
		}
		does(t, r, c.s, name(s), api.OK)
		if v := r.Value(at(1, 0), value.Name); v != text(c.want) {
			t.Errorf("behind %v: %v, want %s", c.s, v, c.want)
		}
	}
}

// Of one stamp the first op that was done stands.
func TestP1202SameStamp(t *testing.T) {
	r := written(t, some()...)
	for _, x := range []line{
		{at(4, 0), set(at(1, 0), value.Name, text("b"))},
		{at(4, 0), set(at(1, 0), value.Name, none)},
		{at(5, 0), set(at(1, 0), value.Hidden, no)},
		{at(6, 1), mark(at(2, 0), false)},
		{at(7, 2), over(at(1, 15), path(at(1, 0), at(2, 0)), value.Fill, whole(8))},
		{at(7, 2), over(at(1, 15), path(at(1, 0), at(2, 0)), value.Fill, none)},
	} {
		does(t, r, x.at, x.op, api.OK)
		holds(t, r, some())
	}
	// Another register has a stamp of its own.
	more := line{at(4, 0), set(at(1, 0), value.Width, fixed(9))}
	does(t, r, more.at, more.op, api.OK)
	holds(t, r, append(some(), more))
}

// What is passed over leaves the register's stamp, too: what stands between both would be written else.
func TestP1202PassedOverLeavesTheStamp(t *testing.T) {
	for _, l := range [][]line{
		{{at(5, 0), set(at(1, 0), value.X, fixed(5))}, {at(3, 0), set(at(1, 0), value.X, fixed(3))}, {at(4, 0), set(at(1, 0), value.X, fixed(4))}},
		{{at(5, 0), mark(at(1, 0), false)}, {at(3, 0), mark(at(1, 0), true)}, {at(4, 0), mark(at(1, 0), true)}},
		{{at(5, 0), over(at(1, 0), paths[0], value.X, none)}, {at(3, 0), over(at(1, 0), paths[0], value.X, fixed(3))}, {at(4, 0), over(at(1, 0), paths[0], value.X, fixed(4))}},
	} {
		r := props.New()
		for i, x := range l {
			does(t, r, x.at, x.op, api.OK)
			holds(t, r, l[:i+1])
		}
	}
}

func TestP1202Errors(t *testing.T) {
	r := written(t, some()...)
	fine := some()[0].op
	create := op.Op{Kind: op.Create, Key: "k"}
	others := []op.Op{
		create,
		{Kind: op.Move, Node: at(1, 0), Ref: at(2, 0), Key: "k"},
		{Kind: op.Point, Node: at(1, 0), Ref: at(2, 0)},
		{Kind: op.Point, Node: at(1, 0)},
	}
	wrong := []op.Op{
		{}, {Kind: 7}, {Kind: -1}, {Kind: math.MaxInt}, {Kind: op.Create}, {Kind: op.Point}, {Kind: op.Move, Node: at(1, 0)},
		set(at(0, 0), value.Name, text("b")), set(at(0, 1), value.Name, text("b")),
		set(at(1, 0), 0, none), set(at(1, 0), api.MaxProps+1, none), set(at(1, 0), -1, none),
		set(at(1, 0), value.Name, fixed(1)), set(at(1, 0), value.Name, text("\n")), set(at(1, 0), value.Hidden, api.Value{Kind: value.Flag, N: 2}),
		{Kind: op.Set, Node: at(1, 0), Prop: value.Name, On: true},
		mark(at(0, 0), false), mark(at(1, 16), false), {Kind: op.Mark, Node: at(2, 0), Prop: 1},
		over(at(1, 15), nil, value.Fill, whole(8)), over(at(0, 0), paths[1], value.Fill, whole(8)), over(at(1, 15), path(at(1, 0), at(0, 0)), value.Fill, whole(8)),
		over(at(1, 15), slices.Repeat(paths[0], api.MaxPath+1), value.Fill, whole(8)), over(at(1, 15), paths[1], value.Fill, text("b")),
	}
	for _, s := range strange {
		does(t, r, s, fine, api.ErrArg)
		for _, x := range slices.Concat(others, wrong) {
			does(t, r, s, x, api.ErrArg)
		}
	}
	for _, s := range path(at(9, 0), at(1, 0), at(mostTime, 15)) {
		for _, x := range wrong {
			does(t, r, s, x, api.ErrArg)
		}
		for _, x := range others {
			does(t, r, s, x, api.ErrKind)
		}
	}
	holds(t, r, some())
	if !r.Same(written(t, some()...)) {
		t.Error("not the same behind what was refused")
	}
}

func TestP1203Looks(t *testing.T) {
	r := props.New()
	holds(t, r, nil)
	var done []line
	for i, x := range []op.Op{
		set(at(1, 0), value.Locked, no), set(at(1, 0), value.Locked, yes), set(at(1, 0), value.Hidden, yes), set(at(1, 0), value.Hidden, none),
		set(at(1, 0), value.Name, text("")), set(at(1, 15), value.Name, text("b")), set(at(1, 0), value.X, fixed(1)), set(at(1, 0), value.Y, fixed(2)),
		set(at(1, 0), value.Width, fixed(3)), set(at(1, 0), value.Height, fixed(0)), set(at(1, 0), value.Fill, whole(1)),
		mark(at(1, 0), true), mark(at(2, 0), true), mark(at(1, 0), false), mark(at(mostTime, 15), false),
		over(at(1, 0), paths[0], value.Fill, whole(0)), over(at(1, 0), paths[1], value.Fill, whole(2)), over(at(1, 0), paths[2], value.Fill, whole(3)),
		over(at(1, 0), paths[4], value.Hidden, no), over(at(1, 0), paths[5], value.Hidden, yes), over(at(1, 0), paths[0], value.Fill, none),
		over(at(2, 0), paths[0], value.Name, text("")), set(at(2, 0), value.Fill, whole(1)),
	} {
		done = append(done, line{at(1+i, i%3), x})
		does(t, r, done[i].at, x, api.OK)
		holds(t, r, done)
	}
}

func TestP1203Same(t *testing.T) {
	empty, a := props.New(), written(t, some()...)
	if !empty.Same(props.New()) || !a.Same(a) || !a.Same(written(t, some()...)) {
		t.Error("the same ones are not")
	}
	if a.Same(empty) || empty.Same(a) {
		t.Error("the same as an empty one")
	}
	// Each differs in one register, from either side.
	for i, x := range some() {
		fewer := written(t, slices.Delete(some(), i, i+1)...)
		other := written(t, append(some(), line{at(9, 0), []op.Op{
			set(at(1, 0), value.Name, text("b")), set(at(1, 0), value.Hidden, no), mark(at(2, 0), false),
			over(at(1, 15), paths[1], value.Fill, whole(8)),
		}[i]})...)
		if fewer.Same(a) || a.Same(fewer) || other.Same(a) || a.Same(other) || fewer.Same(other) != (x.op.Kind == op.Mark) {
			t.Error("the same, without or with another", x)
		}
	}
	// Stamps do not count, nor what was written as it is without.
	var later []line
	for _, x := range some() {
		later = append(later, line{at(x.at.Time+10, 3), x.op})
	}
	b := written(t, later...)
	if !b.Same(a) || !a.Same(b) {
		t.Error("other stamps")
	}
	zeros := []line{{at(1, 0), set(at(7, 0), value.Name, none)}, {at(2, 0), mark(at(7, 0), false)}, {at(3, 0), over(at(7, 0), paths[0], value.Name, none)}}
	b = written(t, slices.Concat(zeros, some())...)
	if !b.Same(a) || !a.Same(b) || !written(t, zeros...).Same(empty) || !empty.Same(written(t, zeros...)) {
		t.Error("None and off are not as what was never written")
	}
	// Yes, no and none are three; so are empty texts and none.
	flags := []*props.Regs{empty}
	for _, v := range []api.Value{yes, no} {
		flags = append(flags, written(t, line{at(1, 0), set(at(1, 0), value.Hidden, v)}))
	}
	flags = append(flags, written(t, line{at(1, 0), set(at(1, 0), value.Name, text(""))}))
	for i, x := range flags {
		for j, y := range flags {
			if x.Same(y) != (i == j) {
				t.Error("Same of flags", i, j)
			}
		}
	}
}

func TestP1203CloneIsApart(t *testing.T) {
	a := written(t, some()...)
	c := a.Clone()
	if c == a || !c.Same(a) || !a.Same(c) {
		t.Fatal("a clone is not the same")
	}
	holds(t, c, some())
	more := []line{
		{at(9, 0), set(at(1, 0), value.Name, text("c"))},
		{at(9, 1), mark(at(2, 0), false)},
		{at(9, 2), over(at(1, 15), paths[1], value.Fill, none)},
		{at(9, 3), set(at(2, 0), value.X, fixed(1))},
	}
	for i, x := range more {
		does(t, a, x.at, x.op, api.OK)
		holds(t, a, append(some(), more[:i+1]...))
		holds(t, c, some())
	}
	if c.Same(a) || !props.New().Clone().Same(props.New()) {
		t.Error("Same")
	}
	for _, x := range more {
		does(t, c, x.at, x.op, api.OK)
	}
	// The clone has the stamps, too: what is below them changes nothing.
	c = a.Clone()
	does(t, c, at(8, 0), set(at(1, 0), value.Name, text("d")), api.OK)
	does(t, c, at(8, 1), mark(at(2, 0), true), api.OK)
	does(t, c, at(8, 2), over(at(1, 15), paths[1], value.Fill, whole(9)), api.OK)
	holds(t, c, append(some(), more...))
	holds(t, a, append(some(), more...))
}

func TestP1204AnyOrder(t *testing.T) {
	rnd := rand.New(rand.NewSource(1204))
	for range 40 {
		l := anyLines(rnd, 60)
		r := written(t, l...)
		holds(t, r, l)
		again := slices.Concat(l, l, l[:20])
		rnd.Shuffle(len(again), func(i, j int) { again[i], again[j] = again[j], again[i] })
		other := written(t, again...)
		holds(t, other, l)
		slices.SortFunc(l, func(a, b line) int { return cmp.Compare(a.at.Time, b.at.Time) })
		rising := written(t, l...)
		slices.Reverse(l)
		falling := written(t, l...)
		for i, x := range []*props.Regs{other, rising, falling} {
			if !x.Same(r) || !r.Same(x) {
				t.Fatal("another order has other registers", i)
			}
		}
	}
}

func TestP7SameStepsSameAnswers(t *testing.T) {
	var told []string
	for range 3 {
		rnd := rand.New(rand.NewSource(7))
		r := props.New()
		var steps strings.Builder
		for range 300 {
			x := anyOp(rnd)
			fmt.Fprint(&steps, r.Do(at(rnd.Intn(20), rnd.Intn(20)-1), x), r.Value(x.Node, x.Prop), r.Marked(x.Node))
			v, ok := r.Over(x.Node, x.Path, x.Prop)
			fmt.Fprint(&steps, v, ok, r.Flag(x.Node, x.Prop), r.Same(r.Clone()))
		}
		told = append(told, steps.String())
	}
	if told[0] != told[1] || told[1] != told[2] {
		t.Error("the same steps have other answers")
	}
}
