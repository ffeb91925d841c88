package op_test

import (
	"fmt"
	"math"
	"math/rand"
	"slices"
	"strings"
	"testing"

	"diorama/api"
	"diorama/op"
	"diorama/value"
	"diorama/wire"
)

const (
	mostTime = 1 << 40
	mostPath = 8
)

func at(time, replica int) api.Stamp { return api.Stamp{Time: time, Replica: replica} }

var (
	root, trash = at(0, 0), at(0, 1)
	highest     = at(mostTime, 15)
	none        = api.Value{}
	text        = api.Value{Kind: value.Text, T: "a b"}
	whole       = api.Value{Kind: value.Int, N: -5}
	fixed       = api.Value{Kind: value.Fixed, N: 65536}
	yes         = api.Value{Kind: value.Flag, N: 1}
	longKey     = strings.Repeat("\x00", 23) + "\x01"
	fullKey     = strings.Repeat("\xff", 24)
	longPath    = []api.Stamp{at(1, 0), at(2, 1), at(2, 1), highest, at(256, 15), at(1, 0), at(9, 9), at(3, 2)}
)

const (
	highestBytes = "\x06\x01\x00\x00\x00\x00\x00\x01\x0f"
	longBytes    = "\x01\x08\x01\x01\x00\x01\x02\x01\x01\x01\x02\x01\x01" + highestBytes + "\x02\x01\x00\x01\x0f\x01\x01\x00\x01\x09\x01\x09\x01\x03\x01\x02"
)

// good are no two the same; each with its bytes.
var good = []struct {
	x     op.Op
	bytes string
}{
	{op.Op{Kind: op.Create, Key: "\x80"}, "\x01\x01\x00\x00\x01\x01\x80"},
	{op.Op{Kind: op.Create, Ref: trash, Key: "\x80"}, "\x01\x01\x00\x01\x01\x01\x01\x80"},
	{op.Op{Kind: op.Create, Ref: at(300, 15), Key: longKey}, "\x01\x01\x02\x01\x2c\x01\x0f\x01\x18" + longKey},
	{op.Op{Kind: op.Create, Ref: highest, Key: fullKey}, "\x01\x01" + highestBytes + "\x01\x18" + fullKey},
	{op.Op{Kind: op.Move, Node: at(1, 0), Key: "\x01"}, "\x01\x02\x01\x01\x00\x00\x00\x01\x01\x01"},
	{op.Op{Kind: op.Move, Node: at(7, 3), Ref: trash, Key: "ab"}, "\x01\x02\x01\x07\x01\x03\x00\x01\x01\x01\x02ab"},
	{op.Op{Kind: op.Move, Node: at(7, 3), Ref: at(3, 7), Key: "ab"}, "\x01\x02\x01\x07\x01\x03\x01\x03\x01\x07\x01\x02ab"},
	{op.Op{Kind: op.Move, Node: highest, Ref: highest, Key: fullKey}, "\x01\x02" + highestBytes + highestBytes + "\x01\x18" + fullKey},
	{op.Op{Kind: op.Set, Node: at(1, 0), Prop: value.Locked}, "\x01\x03\x01\x01\x00\x01\x01\x00"},
	{op.Op{Kind: op.Set, Node: at(1, 0), Prop: value.Locked, Value: yes}, "\x01\x03\x01\x01\x00\x01\x01\x01\x04\x01\x01"},
	{op.Op{Kind: op.Set, Node: at(1, 0), Prop: value.Hidden, Value: yes}, "\x01\x03\x01\x01\x00\x01\x02\x01\x04\x01\x01"},
	{op.Op{Kind: op.Set, Node: at(1, 2), Prop: value.Name, Value: text}, "\x01\x03\x01\x01\x01\x02\x01\x03\x01\x03\x01\x03a b"},
	{op.Op{Kind: op.Set, Node: at(1, 2), Prop: value.X, Value: fixed}, "\x01\x03\x01\x01\x01\x02\x01\x04\x01\x02\x03\x02\x00\x00"},
	{op.Op{Kind: op.Set, Node: highest, Prop: value.Fill, Value: whole}, "\x01\x03" + highestBytes + "\x01\x08\x01\x01\x01\x09"},
	{op.Op{Kind: op.Mark, Node: at(5, 2), On: true}, "\x01\x04\x01\x05\x01\x02\x01\x01"},
	{op.Op{Kind: op.Mark, Node: at(5, 2)}, "\x01\x04\x01\x05\x01\x02\x00"},
	{op.Op{Kind: op.Mark, Node: highest, On: true}, "\x01\x04" + highestBytes + "\x01\x01"},
	{op.Op{Kind: op.Point, Node: at(5, 2)}, "\x01\x05\x01\x05\x01\x02\x00\x00"},
	{op.Op{Kind: op.Point, Node: at(5, 2), Ref: at(2, 5)}, "\x01\x05\x01\x05\x01\x02\x01\x02\x01\x05"},
	{op.Op{Kind: op.Point, Node: at(5, 2), Ref: at(5, 2)}, "\x01\x05\x01\x05\x01\x02\x01\x05\x01\x02"},
	{op.Op{Kind: op.Point, Node: at(1, 0), Ref: highest}, "\x01\x05\x01\x01\x00" + highestBytes},
	{op.Op{Kind: op.Override, Node: at(1, 0), Path: []api.Stamp{at(4, 1)}, Prop: value.Hidden}, "\x01\x06\x01\x01\x00\x01\x01\x01\x04\x01\x01\x01\x02\x00"},
	{op.Op{Kind: op.Override, Node: at(1, 0), Path: []api.Stamp{at(1, 0), at(4, 1)}, Prop: value.Name, Value: text}, "\x01\x06\x01\x01\x00\x01\x02\x01\x01\x00\x01\x04\x01\x01\x01\x03\x01\x03\x01\x03a b"},
	{op.Op{Kind: op.Override, Node: at(1, 0), Path: []api.Stamp{at(4, 1), at(1, 0)}, Prop: value.Name, Value: text}, "\x01\x06\x01\x01\x00\x01\x02\x01\x04\x01\x01\x01\x01\x00\x01\x03\x01\x03\x01\x03a b"},
	{op.Op{Kind: op.Override, Node: highest, Path: longPath, Prop: value.Height, Value: fixed}, "\x01\x06" + highestBytes + longBytes + "\x01\x07\x01\x02\x03\x02\x00\x00"},
}

// noNodes are stamps that no node has; the first two are places.
var noNodes = []api.Stamp{
	root, trash, at(0, 2), at(0, 15), at(0, 16), at(0, -1), at(-1, 0), at(-1, 1), at(1, -1), at(1, 16), at(5, 17), at(mostTime+1, 0), at(mostTime, 16),
	at(math.MaxInt, 0), at(math.MinInt, 0), at(1, math.MaxInt), at(1, math.MinInt), at(math.MinInt, math.MinInt), at(1<<48, 1), at(1<<32, 1<<32),
}

var noKeys = []string{"", "\x00", "a\x00", fullKey[:23] + "\x00", fullKey + "\x01", strings.Repeat("a", 256), strings.Repeat("a", 100000)}

var noKinds = []int{0, -1, 7, 8, -6, 255, 256, 257, 262, 1 << 32, 1<<32 + 1, 1<<48 + 4, math.MaxInt, math.MinInt}

var noProps = []struct {
	prop int
	v    api.Value
}{
	{0, none}, {9, none}, {-1, none}, {math.MaxInt, none}, {math.MinInt, none}, {0, whole}, {9, fixed},
	{value.Locked, whole}, {value.Hidden, text}, {value.Name, yes}, {value.X, whole}, {value.Width, text}, {value.Fill, fixed},
	{value.Locked, api.Value{Kind: value.Flag, N: 2}}, {value.Name, api.Value{Kind: value.Text, T: "\n"}}, {value.Fill, api.Value{Kind: value.Int, N: mostTime + 1}},
	{value.Fill, api.Value{N: 1}}, {value.Fill, api.Value{Kind: 5}}, {value.Fill, api.Value{Kind: -1}}, {value.Name, api.Value{Kind: value.None, T: "a"}},
}

// names tells by the document's list what a kind names.
func names(kind int, part string) bool {
	return strings.Contains(" "+[]string{"", "Ref Key", "Node Ref Key", "Node Prop", "Node On", "Node Ref", "Node Path Prop"}[kind]+" ", " "+part+" ")
}

// bad answers ops that may not be: of each that may be, one part is wrong, or there where it is not named.
func bad() (l []op.Op) {
	for _, g := range good {
		add := func(change func(x *op.Op)) {
			x := g.x
			x.Path = slices.Clone(x.Path)
			change(&x)
			l = append(l, x)
		}
		for _, kind := range noKinds {
			add(func(x *op.Op) { x.Kind = kind })
		}
		for _, s := range noNodes {
			if names(g.x.Kind, "Node") || s != root {
				add(func(x *op.Op) { x.Node = s })
			}
			// Zero is a place, and points to nothing, and names no part at all.
			if s != root && (s != trash || !names(g.x.Kind, "Key")) {
				add(func(x *op.Op) { x.Ref = s })
			}
			for i := range g.x.Path {
				add(func(x *op.Op) { x.Path[i] = s })
			}
			add(func(x *op.Op) { x.Path = []api.Stamp{s} })
		}
		for _, key := range noKeys {
			if names(g.x.Kind, "Key") || key != "" {
				add(func(x *op.Op) { x.Key = key })
			}
		}
		for _, p := range noProps {
			if names(g.x.Kind, "Prop") || p.prop != 0 || p.v != none {
				add(func(x *op.Op) { x.Prop, x.Value = p.prop, p.v })
			}
		}
		addOthers(g.x, add)
	}
	return append(l, op.Op{})
}

// addOthers adds parts that are right where they are named, but stand where they are not.
func addOthers(x op.Op, add func(change func(x *op.Op))) {
	if !names(x.Kind, "Node") {
		add(func(x *op.Op) { x.Node = at(1, 0) })
	}
	if !names(x.Kind, "Ref") {
		add(func(x *op.Op) { x.Ref = at(1, 0) })
	}
	if !names(x.Kind, "Key") {
		add(func(x *op.Op) { x.Key = "\x80" })
	}
	if !names(x.Kind, "On") {
		add(func(x *op.Op) { x.On = true })
	}
	if !names(x.Kind, "Prop") {
		add(func(x *op.Op) { x.Prop = value.Fill })
		add(func(x *op.Op) { x.Value = whole })
		add(func(x *op.Op) { x.Value = api.Value{T: "a"} })
		add(func(x *op.Op) { x.Prop, x.Value = value.Fill, whole })
	}
	if !names(x.Kind, "Path") {
		add(func(x *op.Op) { x.Path = []api.Stamp{at(1, 0)} })
		add(func(x *op.Op) { x.Path = slices.Clone(longPath) })
		return
	}
	add(func(x *op.Op) { x.Path = nil })
	add(func(x *op.Op) { x.Path = []api.Stamp{} })
	add(func(x *op.Op) { x.Path = append(slices.Clone(longPath), at(1, 0)) })
	add(func(x *op.Op) { x.Path = slices.Repeat(longPath, 1000) })
}

// Else what is asked of all bad ones would be asked of few.
func TestP702BadOnesAreMany(t *testing.T) {
	count := map[int]int{}
	for _, x := range bad() {
		count[x.Kind]++
	}
	for kind := op.Create; kind <= op.Override; kind++ {
		if count[kind] < 100 {
			t.Error("few of kind", kind, count[kind])
		}
	}
}

// anyOp answers one that may be.
func anyOp(rnd *rand.Rand) op.Op {
	x := op.Op{Kind: 1 + rnd.Intn(6)}
	if names(x.Kind, "Node") {
		x.Node = anyNode(rnd)
	}
	if names(x.Kind, "Ref") {
		x.Ref = anyNode(rnd)
		if rnd.Intn(3) == 0 {
			x.Ref = root
		} else if names(x.Kind, "Key") && rnd.Intn(2) == 0 {
			x.Ref = trash
		}
	}
	if names(x.Kind, "Key") {
		b := make([]byte, 1+rnd.Intn(24))
		rnd.Read(b)
		b[len(b)-1] |= 1
		x.Key = string(b)
	}
	if names(x.Kind, "Path") {
		for range 1 + rnd.Intn(mostPath) {
			x.Path = append(x.Path, anyNode(rnd))
		}
	}
	if names(x.Kind, "Prop") {
		x.Prop = 1 + rnd.Intn(8)
		x.Value = anyValue(rnd, x.Prop)
	}
	if names(x.Kind, "On") {
		x.On = rnd.Intn(2) == 0
	}
	return x
}

func anyNode(rnd *rand.Rand) api.Stamp {
	return at(1+rnd.Intn(1<<rnd.Intn(41)), rnd.Intn(16))
}

func anyValue(rnd *rand.Rand, prop int) api.Value {
	n := rnd.Intn(1<<rnd.Intn(41)) - rnd.Intn(1<<rnd.Intn(41))
	switch {
	case rnd.Intn(4) == 0:
		return none
	case prop <= value.Hidden:
		return api.Value{Kind: value.Flag, N: rnd.Intn(2)}
	case prop == value.Name:
		return api.Value{Kind: value.Text, T: strings.Repeat("~", rnd.Intn(65))}
	case prop == value.Fill:
		return api.Value{Kind: value.Int, N: n}
	}
	return api.Value{Kind: value.Fixed, N: n}
}

// alike holds ops against each other part by part, a nil path and an empty one being the same.
func alike(a, b op.Op) bool {
	if len(a.Path) != len(b.Path) {
		return false
	}
	for i, s := range a.Path {
		if s != b.Path[i] {
			return false
		}
	}
	return a.Kind == b.Kind && a.Node == b.Node && a.Ref == b.Ref && a.Key == b.Key && a.Prop == b.Prop && a.Value == b.Value && a.On == b.On
}

func TestP701NilAndUnmadeReaders(t *testing.T) {
	for name, r := range map[string]*wire.Reader{"nil": nil, "new": new(wire.Reader), "literal": {}} {
		for range 2 {
			if x := op.Take(r); !alike(x, op.Op{}) || r.Err() != api.ErrArg || r.Left() != 0 {
				t.Error(name, x, r.Err(), r.Left())
			}
		}
	}
}

func TestP701AnswersAreNew(t *testing.T) {
	for _, g := range good {
		first, _ := op.Put(g.x)
		kept, _ := op.Put(g.x)
		room := first[:cap(first)]
		for i := range room {
			room[i] ^= 0xff
		}
		again, _ := op.Put(g.x)
		if string(kept) != g.bytes || string(again) != g.bytes {
			t.Errorf("%v: answers of Put share memory", g.x)
		}
	}
}

func TestP701TakenIsNew(t *testing.T) {
	for _, g := range good {
		b := []byte(g.bytes + g.bytes)
		r := wire.Open(b)
		first, second := op.Take(r), op.Take(r)
		clear(b)
		room := first.Path[:cap(first.Path)]
		for i := range room {
			room[i] = at(77, 7)
		}
		if !alike(second, g.x) || !alike(op.Take(wire.Open([]byte(g.bytes))), g.x) {
			t.Errorf("%v: answers of Take share memory", g.x)
		}
	}
}

func TestP701ArgumentsStay(t *testing.T) {
	room := slices.Concat([]api.Stamp{at(70, 1)}, longPath, []api.Stamp{at(80, 2), at(81, 2)})
	was := slices.Clone(room)
	for size := range mostPath + 2 {
		x := op.Op{Kind: op.Override, Node: at(1, 0), Path: room[1 : 1+size], Prop: value.Fill, Value: whole}
		op.Right(x)
		op.Same(x, x)
		b, e := op.Put(x)
		clear(b[:cap(b)])
		if !slices.Equal(room, was) {
			t.Fatal("a path, or the room around it, was changed", size, e)
		}
	}
}

func TestP701AnyArguments(t *testing.T) {
	for _, x := range bad() {
		b, e := op.Put(x)
		again, f := op.Put(x)
		if string(b) != string(again) || e != f || !op.Same(x, x) || op.Right(x) != op.Right(x) {
			t.Errorf("%.200s: %q %d, then %q %d", fmt.Sprint(x), b, e, again, f)
		}
	}
}

func TestP702Kinds(t *testing.T) {
	if !slices.Equal([]int{op.Create, op.Move, op.Set, op.Mark, op.Point, op.Override}, []int{1, 2, 3, 4, 5, 6}) {
		t.Error("kinds")
	}
}

func TestP702Node(t *testing.T) {
	for _, s := range []api.Stamp{at(1, 0), at(1, 1), at(1, 15), at(2, 0), at(mostTime, 0), at(mostTime-1, 15), highest} {
		if !op.Node(s) || !op.Place(s) {
			t.Error(s, "may be a node's")
		}
	}
	for _, s := range noNodes {
		if op.Node(s) {
			t.Error(s, "may be no node's")
		}
	}
}

func TestP702Place(t *testing.T) {
	for i, s := range noNodes {
		if op.Place(s) != (i < 2) {
			t.Error(s, op.Place(s))
		}
	}
	for replica := -2; replica < 20; replica++ {
		if got := op.Place(at(0, replica)); got != (replica == 0 || replica == 1) {
			t.Error(replica, got)
		}
		if got := op.Place(at(1, replica)); got != (replica >= 0 && replica < 16) {
			t.Error(replica, got)
		}
	}
}

func TestP702Right(t *testing.T) {
	for _, g := range good {
		if !op.Right(g.x) {
			t.Errorf("%v may be", g.x)
		}
	}
	for _, x := range bad() {
		if op.Right(x) {
			t.Errorf("%.200s may not be", fmt.Sprint(x))
		}
	}
}

func TestP702RightOfEmptyPaths(t *testing.T) {
	for _, g := range good {
		if g.x.Path == nil {
			x := g.x
			x.Path = []api.Stamp{}
			b, e := op.Put(x)
			if !op.Right(x) || !op.Same(x, g.x) || !op.Same(g.x, x) || string(b) != g.bytes || e != api.OK {
				t.Errorf("%v with an empty path: %q %d", g.x, b, e)
			}
		}
	}
}

func TestP702RightOfPaths(t *testing.T) {
	for size := range 20 {
		x := op.Op{Kind: op.Override, Node: at(1, 0), Prop: value.Fill, Path: slices.Repeat([]api.Stamp{at(1, 0)}, size)}
		if op.Right(x) != (size >= 1 && size <= mostPath) {
			t.Error(size, op.Right(x))
		}
	}
}

func TestP702RightOfProps(t *testing.T) {
	for prop := -2; prop < 12; prop++ {
		for _, v := range []api.Value{none, yes, {Kind: value.Flag}, text, whole, fixed, {Kind: value.Flag, N: 2}, {Kind: value.Text, T: "\x7f"}, {Kind: 5}} {
			x := op.Op{Kind: op.Set, Node: at(1, 0), Prop: prop, Value: v}
			y := op.Op{Kind: op.Override, Node: at(1, 0), Path: longPath, Prop: prop, Value: v}
			if want := value.Right8(prop, v); op.Right(x) != want || op.Right(y) != want {
				t.Error(prop, v, op.Right(x), op.Right(y))
			}
		}
	}
}

func TestP702Same(t *testing.T) {
	for i, a := range good {
		for j, b := range good {
			if op.Same(a.x, b.x) != (i == j) {
				t.Errorf("%v and %v", a.x, b.x)
			}
		}
	}
	// Each part counts, also of ops that may not be.
	all := op.Op{Kind: 99, Node: at(-1, 2), Ref: at(3, 99), Key: "\x00", Path: []api.Stamp{at(0, 0), at(-5, 5)}, Prop: -7, Value: api.Value{Kind: 9, N: 8, T: "\n"}, On: true}
	same := all
	same.Path = slices.Clone(all.Path)
	if !op.Same(all, all) || !op.Same(all, same) || !op.Same(op.Op{}, op.Op{Path: []api.Stamp{}}) {
		t.Error("not the same")
	}
	for i, change := range []func(x *op.Op){
		func(x *op.Op) { x.Kind = 98 },
		func(x *op.Op) { x.Node.Time = 1 },
		func(x *op.Op) { x.Node.Replica = 1 },
		func(x *op.Op) { x.Ref.Time = 4 },
		func(x *op.Op) { x.Ref.Replica = 98 },
		func(x *op.Op) { x.Node, x.Ref = x.Ref, x.Node },
		func(x *op.Op) { x.Key = "\x00\x00" },
		func(x *op.Op) { x.Key = "" },
		func(x *op.Op) { x.Path = nil },
		func(x *op.Op) { x.Path = x.Path[:1] },
		func(x *op.Op) { x.Path = append(x.Path, at(0, 0)) },
		func(x *op.Op) { x.Path[0].Time = 1 },
		func(x *op.Op) { x.Path[1].Replica = 6 },
		func(x *op.Op) { slices.Reverse(x.Path) },
		func(x *op.Op) { x.Prop = 7 },
		func(x *op.Op) { x.Value.Kind = 8 },
		func(x *op.Op) { x.Value.N = 9 },
		func(x *op.Op) { x.Value.T = "" },
		func(x *op.Op) { x.On = false },
	} {
		other := all
		other.Path = slices.Clone(all.Path)
		change(&other)
		if op.Same(all, other) || op.Same(other, all) {
			t.Error(i, other)
		}
	}
}

func TestP702Put(t *testing.T) {
	for _, g := range good {
		if b, e := op.Put(g.x); string(b) != g.bytes || e != api.OK {
			t.Errorf("%v: %q %d, want %q", g.x, b, e, g.bytes)
		}
	}
	for _, x := range bad() {
		if b, e := op.Put(x); len(b) != 0 || e != api.ErrArg {
			t.Errorf("%.200s: %.80q %d", fmt.Sprint(x), b, e)
		}
	}
}

func TestP702Take(t *testing.T) {
	for _, g := range good {
		r := wire.Open([]byte(g.bytes + "\x01\x07"))
		if x := op.Take(r); !alike(x, g.x) || r.Err() != api.OK || r.Left() != 2 {
			t.Errorf("%q: %v %d, %d left", g.bytes, x, r.Err(), r.Left())
		}
		if n := r.Num(); n != 7 || r.Done() != api.OK {
			t.Errorf("behind %q: %d %d", g.bytes, n, r.Done())
		}
	}
}

// refuses asks that the bytes are no op's, told by this error, where so many bytes are left.
func refuses(t *testing.T, b string, want api.Errno, left int) {
	t.Helper()
	r := wire.Open([]byte(b))
	for range 2 {
		if x := op.Take(r); !alike(x, op.Op{}) || r.Err() != want || r.Left() != left {
			t.Errorf("%.60q: %v %d, %d left, want error %d and %d left", b, x, r.Err(), r.Left(), want, left)
		}
	}
}

func TestP702TakeEnds(t *testing.T) {
	for _, g := range good {
		for i := range g.bytes {
			r := wire.Open([]byte(g.bytes[:i]))
			if x := op.Take(r); !alike(x, op.Op{}) || r.Err() != api.ErrEnd {
				t.Errorf("%q: %v %d", g.bytes[:i], x, r.Err())
			}
		}
	}
	refuses(t, "", api.ErrEnd, 0)
	refuses(t, "\x01", api.ErrEnd, 1)
	refuses(t, "\x01\x04", api.ErrEnd, 0)
	refuses(t, "\x01\x04\x01\x05\x01\x02\x01", api.ErrEnd, 1)
	refuses(t, "\x01\x01\x00\x00\x01\x05four", api.ErrEnd, 6)
	// What ends too early is told so, also where a part ahead may not be.
	refuses(t, "\x01\x04\x00\x00", api.ErrEnd, 0)
	refuses(t, "\x01\x01\x00\x01\x02", api.ErrEnd, 0)
	refuses(t, "\x01\x06\x01\x01\x00\x00", api.ErrEnd, 0)
	refuses(t, "\x01\x06\x01\x01\x00\x01\x09"+strings.Repeat("\x01\x01\x00", 8), api.ErrEnd, 0)
	refuses(t, "\x01\x06\x01\x01\x00\x06\xff\xff\xff\xff\xff\xff\x01\x01\x00\x01", api.ErrEnd, 1)
}

func TestP702TakeOfNoKind(t *testing.T) {
	// It is read alone, whatever is behind it.
	for _, kind := range []string{"\x00", "\x01\x07", "\x01\x08", "\x01\xff", "\x02\x01\x00", "\x02\x01\x04", "\x05\x01\x00\x00\x00\x04", "\x06\xff\xff\xff\xff\xff\xff"} {
		refuses(t, kind, api.ErrForm, 0)
		for _, g := range good {
			refuses(t, kind+g.bytes[2:], api.ErrForm, len(g.bytes)-2)
		}
	}
	// A Kind that is no number is not passed.
	refuses(t, "\x07\x01\x05", api.ErrForm, 3)
	refuses(t, "\x01\x00\x05", api.ErrForm, 3)
	refuses(t, "\xff", api.ErrForm, 1)
}

func TestP702TakeOfWrongForms(t *testing.T) {
	refuses(t, "\x01\x04\x07\x01\x02\x01\x01", api.ErrForm, 5)
	refuses(t, "\x01\x04\x01\x05\x01\x00\x01\x01", api.ErrForm, 4)
	refuses(t, "\x01\x04\x01\x05\x01\x02\x01\x00", api.ErrForm, 2)
	refuses(t, "\x01\x01\x00\x00\x02\x00\x01a", api.ErrForm, 4)
	refuses(t, "\x01\x01\x00\x00\x03\x10\x00\x01a", api.ErrForm, 5)
	refuses(t, "\x01\x06\x01\x01\x00\x08", api.ErrForm, 1)
	refuses(t, "\x01\x03\x01\x01\x00\x09", api.ErrForm, 1)
}

func TestP702TakeOfTooMuch(t *testing.T) {
	// Stamps are read as chapter 2 reads them: the number that is too great is not passed.
	for _, s := range []struct {
		bytes string
		left  int
	}{
		{"\x01\x05\x01\x10", 2}, {"\x01\x05\x01\xff", 2}, {"\x00\x02\x01\x00", 3}, {"\x06\x01\x00\x00\x00\x00\x01\x00", 8}, {"\x06\xff\xff\xff\xff\xff\xff\x01\x10", 9},
	} {
		refuses(t, "\x01\x01"+s.bytes+"\x01\x01\x80", api.ErrOver, s.left+3)
		refuses(t, "\x01\x02"+s.bytes+"\x00\x00\x01\x01\x80", api.ErrOver, s.left+5)
		refuses(t, "\x01\x02\x01\x01\x00"+s.bytes+"\x01\x01\x80", api.ErrOver, s.left+3)
		refuses(t, "\x01\x03"+s.bytes+"\x01\x01\x00", api.ErrOver, s.left+3)
		refuses(t, "\x01\x04"+s.bytes+"\x01\x01", api.ErrOver, s.left+2)
		refuses(t, "\x01\x05"+s.bytes+"\x00\x00", api.ErrOver, s.left+2)
		refuses(t, "\x01\x05\x01\x01\x00"+s.bytes, api.ErrOver, s.left)
		refuses(t, "\x01\x06"+s.bytes+"\x01\x01\x01\x01\x00\x01\x01\x00", api.ErrOver, s.left+8)
		refuses(t, "\x01\x06\x01\x01\x00\x01\x02\x01\x01\x00"+s.bytes+"\x01\x01\x00", api.ErrOver, s.left+3)
		// That is told, also where a part ahead may not be.
		refuses(t, "\x01\x05\x00\x00"+s.bytes, api.ErrOver, s.left)
	}
}

// Parts that may not be are told when all of the op is read.
func TestP702TakeOfWhatMayNotBe(t *testing.T) {
	wrong := func(b string) {
		t.Helper()
		refuses(t, b, api.ErrForm, 0)
		refuses(t, b+"\x01\x04", api.ErrForm, 2)
	}
	for _, s := range []string{"\x00\x00", "\x00\x01\x01", "\x00\x01\x02", "\x00\x01\x0f"} {
		wrong("\x01\x02" + s + "\x00\x00\x01\x01\x80")
		wrong("\x01\x03" + s + "\x01\x01\x00")
		wrong("\x01\x04" + s + "\x01\x01")
		wrong("\x01\x05" + s + "\x00\x00")
		wrong("\x01\x06" + s + "\x01\x01\x01\x01\x00\x01\x01\x00")
		for i := range mostPath {
			wrong("\x01\x06\x01\x01\x00\x01\x08" + strings.Repeat("\x01\x01\x00", i) + s + strings.Repeat("\x01\x01\x00", 7-i) + "\x01\x01\x00")
		}
	}
	for _, s := range []string{"\x00\x01\x02", "\x00\x01\x0f"} {
		wrong("\x01\x01" + s + "\x01\x01\x80")
		wrong("\x01\x02\x01\x01\x00" + s + "\x01\x01\x80")
		wrong("\x01\x05\x01\x01\x00" + s)
	}
	// The trash may be a parent, but no master.
	wrong("\x01\x05\x01\x01\x00\x00\x01\x01")
	for _, key := range []string{"\x00", "\x01\x01\x00", "\x01\x02a\x00", "\x01\x19" + fullKey + "a", "\x02\x01\x00" + strings.Repeat("a", 256), "\x03\x10\x00\x00" + strings.Repeat("a", 1<<20)} {
		wrong("\x01\x01\x00\x00" + key)
		wrong("\x01\x02\x01\x01\x00\x00\x00" + key)
	}
	for _, head := range []string{"\x01\x03\x01\x01\x00", "\x01\x06\x01\x01\x00\x01\x01\x01\x01\x00"} {
		for _, prop := range []string{"\x00\x00", "\x01\x09\x00", "\x02\x01\x01\x00", "\x06\xff\xff\xff\xff\xff\xff\x00", "\x01\x01\x01\x01\x00", "\x01\x03\x01\x04\x00", "\x01\x04\x01\x01\x00", "\x01\x08\x01\x02\x00", "\x01\x08\x01\x05", "\x01\x01\x01\x04\x01\x02", "\x01\x03\x01\x03\x01\x01\x0a"} {
			wrong(head + prop)
		}
	}
	for _, on := range []string{"\x01\x02", "\x01\xff", "\x02\x01\x00", "\x02\x01\x01", "\x06\xff\xff\xff\xff\xff\xff"} {
		wrong("\x01\x04\x01\x05\x01\x02" + on)
	}
}

func TestP702TakeOfPaths(t *testing.T) {
	for count := range 20 {
		b := "\x01\x06\x01\x01\x00" + string([]byte{1, byte(count)}) + strings.Repeat("\x01\x07\x01\x03", count) + "\x01\x01\x00"
		if count == 0 {
			b = "\x01\x06\x01\x01\x00\x00\x01\x01\x00"
		}
		if count == 0 || count > mostPath {
			refuses(t, b+"\x01\x04", api.ErrForm, 2)
			continue
		}
		x := op.Take(wire.Open([]byte(b)))
		if !slices.Equal(x.Path, slices.Repeat([]api.Stamp{at(7, 3)}, count)) {
			t.Error(count, x)
		}
	}
	refuses(t, "\x01\x06\x01\x01\x00\x03\x01\x00\x00"+strings.Repeat("\x01\x07\x01\x03", 65536)+"\x01\x01\x00\x01\x04", api.ErrForm, 2)
}

func TestP702TakeBehindAnError(t *testing.T) {
	for _, g := range good {
		r := wire.Open([]byte(g.bytes))
		r.Fail(api.ErrKey)
		if x := op.Take(r); !alike(x, op.Op{}) || r.Err() != api.ErrKey || r.Left() != len(g.bytes) {
			t.Errorf("%q: %v %d, %d left", g.bytes, x, r.Err(), r.Left())
		}
	}
}

func TestP703ThereAndBack(t *testing.T) {
	rnd := rand.New(rand.NewSource(703))
	for range 5000 {
		l := make([]op.Op, 1+rnd.Intn(8))
		var all []byte
		for i := range l {
			l[i] = anyOp(rnd)
			b, e := op.Put(l[i])
			if !op.Right(l[i]) || e != api.OK {
				t.Fatal(l[i], e)
			}
			all = append(all, b...)
		}
		r := wire.Open(all)
		for _, want := range l {
			if x := op.Take(r); !alike(x, want) || !op.Same(x, want) || !op.Right(x) {
				t.Fatal(x, want)
			}
		}
		if r.Done() != api.OK {
			t.Fatal(r.Done(), r.Left())
		}
	}
}

// Bytes that are read as an op are those of that op, so no two ops have the same ones, nor has one two forms.
func TestP703NothingElse(t *testing.T) {
	rnd := rand.New(rand.NewSource(7030))
	read, others := 0, 0
	for range 200000 {
		b, _ := op.Put(anyOp(rnd))
		for range rnd.Intn(4) {
			b[rnd.Intn(len(b))] = []byte{0, 1, 2, 4, 5, 6, 8, byte(rnd.Intn(256))}[rnd.Intn(8)]
		}
		r := wire.Open(b)
		x := op.Take(r)
		if r.Err() != api.OK {
			others++
			if !alike(x, op.Op{}) {
				t.Fatalf("%q: %v %d", b, x, r.Err())
			}
			continue
		}
		read++
		if again, e := op.Put(x); string(again) != string(b[:len(b)-r.Left()]) || e != api.OK || !op.Right(x) {
			t.Fatalf("%q: %v, whose bytes are %q %d", b, x, again, e)
		}
	}
	if read < 1000 || others < 1000 {
		t.Error("few were read, or few refused:", read, others)
	}
}
