package edit_test

import (
	"fmt"
	"math/rand"
	"slices"
	"strings"
	"testing"

	"diorama/api"
	"diorama/batch"
	"diorama/doc"
	"diorama/edit"
	"diorama/op"
	"diorama/order"
	"diorama/poskey"
	"diorama/value"
)

// plain answers what the words say of a command, from spots, masters, marks and values alone, looking through all nodes each time.
type plain struct {
	d     *doc.Doc
	first api.Stamp
	ops   []op.Op
}

func (p *plain) add(x op.Op) api.Stamp {
	p.ops = append(p.ops, x)
	return at(p.first.Time+len(p.ops)-1, p.first.Replica)
}

func (p *plain) there(n api.Stamp) bool { return slices.Contains(p.d.Nodes(), n) }

func (p *plain) parent(n api.Stamp) api.Stamp {
	spot, _ := p.d.Spot(n)
	return spot.Parent
}

func (p *plain) alive(n api.Stamp) api.Errno {
	if !p.there(n) {
		return api.ErrNone
	}
	for p.there(n) {
		n = p.parent(n)
	}
	if n != root {
		return api.ErrNone
	}
	return api.OK
}

func (p *plain) locked(n api.Stamp) api.Errno {
	for ; p.there(n); n = p.parent(n) {
		if p.d.Value(n, value.Locked) == yes {
			return api.ErrLock
		}
	}
	return api.OK
}

// steps answers where one step leads.
func (p *plain) steps(n api.Stamp, up bool) (l []api.Stamp) {
	if master, points := p.d.Ref(n); points {
		l = append(l, master)
	}
	if up && p.there(n) {
		return append(l, p.parent(n))
	}
	for _, m := range p.d.Nodes() {
		if !up && p.parent(m) == n {
			l = append(l, m)
		}
	}
	return l
}

func (p *plain) leads(n, m api.Stamp, up bool) bool {
	seen := list(n)
	for i := 0; i < len(seen); i++ {
		for _, x := range p.steps(seen[i], up) {
			if !slices.Contains(seen, x) {
				seen = append(seen, x)
			}
		}
	}
	return slices.Contains(seen, m)
}

// row is that of a place, without one node.
func (p *plain) row(place, without api.Stamp) (l []order.Sib) {
	for _, n := range p.d.Nodes() {
		if spot, _ := p.d.Spot(n); spot.Parent == place && n != without {
			l = append(l, order.Sib{Key: spot.Key, Node: n})
		}
	}
	slices.SortFunc(l, func(a, b order.Sib) int {
		if a.Key != b.Key {
			return strings.Compare(a.Key, b.Key)
		}
		return (a.Node.Time-b.Node.Time)*api.MaxReplicas + a.Node.Replica - b.Node.Replica
	})
	return l
}

func place(l []order.Sib, n api.Stamp) int {
	return slices.IndexFunc(l, func(x order.Sib) bool { return x.Node == n })
}

func keysAt(l []order.Sib, i, count int) ([]string, api.Errno) {
	a, b := "", ""
	if i < 0 || i > len(l) {
		return nil, api.ErrArg
	}
	if i > 0 {
		a = l[i-1].Key
	}
	if i < len(l) {
		b = l[i].Key
	}
	if a != "" && a == b {
		return nil, api.ErrKey
	}
	return poskey.Spread(a, b, count)
}

// worst answers the first error.
func worst(l ...api.Errno) api.Errno {
	for _, e := range l {
		if e != api.OK {
			return e
		}
	}
	return api.OK
}

func when(is bool, e api.Errno) api.Errno {
	if is {
		return e
	}
	return api.OK
}

func (p *plain) node(n api.Stamp) api.Errno { return worst(p.alive(n), p.locked(n)) }

func (p *plain) place(n api.Stamp) api.Errno { return when(n != root, p.node(n)) }

func (p *plain) master(n api.Stamp) api.Errno {
	return worst(p.alive(n), when(!p.d.Marked(n), api.ErrKind))
}

func (p *plain) instance(n api.Stamp) api.Errno {
	_, points := p.d.Ref(n)
	return when(!points, api.ErrKind)
}

func (p *plain) move(c edit.Cmd) api.Errno {
	keys, e := keysAt(p.row(c.Ref, c.Node), c.At, 1)
	e = worst(p.place(c.Ref), when(p.leads(c.Ref, c.Node, true) || p.leads(c.Node, c.Ref, false), api.ErrCycle), e)
	if e == api.OK {
		p.add(op.Op{Kind: op.Move, Node: c.Node, Ref: c.Ref, Key: keys[0]})
	}
	return e
}

func (p *plain) throw(n api.Stamp) api.Errno {
	l := p.row(trash, gone)
	keys, e := keysAt(l, len(l), 1)
	if e == api.OK {
		p.add(op.Op{Kind: op.Move, Node: n, Ref: trash, Key: keys[0]})
	}
	return e
}

// over is the value of a node on the path of an instance alone.
func (p *plain) over(instance, n api.Stamp, prop int) api.Value {
	if v, there := p.d.Over(instance, list(n), prop); there {
		return v
	}
	return p.d.Value(n, prop)
}

func (p *plain) copy(n, to api.Stamp, key string, told func(n api.Stamp, prop int) api.Value) {
	made := p.add(op.Op{Kind: op.Create, Ref: to, Key: key})
	for _, prop := range []int{value.Hidden, value.Name, value.X, value.Y, value.Width, value.Height, value.Fill} {
		if v := told(n, prop); v != none {
			p.add(op.Op{Kind: op.Set, Node: made, Prop: prop, Value: v})
		}
	}
	if master, points := p.d.Ref(n); points {
		p.add(op.Op{Kind: op.Point, Node: made, Ref: master})
	}
	for _, x := range p.row(n, gone) {
		p.copy(x.Node, made, x.Key, told)
	}
}

func (p *plain) compile(c edit.Cmd) ([]op.Op, api.Errno) {
	e := p.do(c)
	if e == api.OK && (len(p.ops) > mostOps || p.first.Time+len(p.ops) > mostTime+1) {
		e = api.ErrSize
	}
	if e != api.OK {
		return nil, e
	}
	return p.ops, e
}

func (p *plain) do(c edit.Cmd) api.Errno {
	var e api.Errno
	var keys []string
	switch c.Kind {
	case edit.Create:
		keys, e = keysAt(p.row(c.Ref, gone), c.At, 1)
		if e = worst(p.place(c.Ref), e); e == api.OK {
			p.add(op.Op{Kind: op.Create, Ref: c.Ref, Key: keys[0]})
		}
	case edit.Move:
		if e = p.node(c.Node); e == api.OK {
			e = p.move(c)
		}
	case edit.Delete:
		if e = p.node(c.Node); e == api.OK {
			e = p.throw(c.Node)
		}
	case edit.Restore:
		if e = worst(when(!p.there(c.Node), api.ErrNone), when(p.parent(c.Node) != trash, api.ErrKind), p.locked(c.Node)); e == api.OK {
			e = p.move(c)
		}
	case edit.Set:
		e = p.node(c.Node)
		if c.Prop == value.Locked {
			e = worst(p.alive(c.Node), p.place(p.parent(c.Node)))
		}
		if e = worst(when(!value.Right8(c.Prop, c.Value), api.ErrArg), e); e == api.OK {
			p.add(op.Op{Kind: op.Set, Node: c.Node, Prop: c.Prop, Value: c.Value})
		}
	case edit.Mark:
		if e = p.node(c.Node); e == api.OK {
			p.add(op.Op{Kind: op.Mark, Node: c.Node, On: c.On})
		}
	case edit.Instance:
		keys, e = keysAt(p.row(c.Node, gone), c.At, 1)
		if e = worst(p.place(c.Node), p.master(c.Ref), when(p.leads(c.Ref, c.Node, false), api.ErrCycle), e); e == api.OK {
			n := p.add(op.Op{Kind: op.Create, Ref: c.Node, Key: keys[0]})
			p.add(op.Op{Kind: op.Point, Node: n, Ref: c.Ref})
		}
	case edit.Override:
		fits := value.Right8(c.Prop, c.Value) && len(c.List) >= 1 && len(c.List) <= mostPath
		if e = worst(when(!fits, api.ErrArg), p.node(c.Node), p.instance(c.Node)); e != api.OK {
			return e
		}
		for _, n := range c.List {
			e = worst(e, when(!p.there(n), api.ErrNone))
		}
		p.add(op.Op{Kind: op.Override, Node: c.Node, Path: c.List, Prop: c.Prop, Value: c.Value})
	case edit.Swap:
		ring := p.leads(c.Ref, c.Node, true) || p.leads(c.Ref, c.Node, false)
		e = worst(p.node(c.Node), p.instance(c.Node), p.master(c.Ref), when(ring, api.ErrCycle))
		p.add(op.Op{Kind: op.Point, Node: c.Node, Ref: c.Ref})
	case edit.Group:
		return p.group(c.List)
	case edit.Ungroup:
		return p.ungroup(c.Node)
	case edit.Duplicate:
		l := p.row(p.parent(c.Node), gone)
		keys, e = keysAt(l, place(l, c.Node)+1, 1)
		if e = worst(p.node(c.Node), e); e == api.OK {
			p.copy(c.Node, p.parent(c.Node), keys[0], p.d.Value)
		}
	case edit.Detach:
		return p.detach(c.Node)
	default:
		e = api.ErrArg
	}
	return e
}

func (p *plain) group(l []api.Stamp) (e api.Errno) {
	for i, n := range l {
		if slices.Contains(l[:i], n) {
			return api.ErrArg
		}
	}
	if len(l) == 0 {
		return api.ErrArg
	}
	for _, n := range l {
		e = worst(e, p.node(n))
	}
	for _, n := range l {
		e = worst(e, when(p.parent(n) != p.parent(l[0]), api.ErrKind))
	}
	if e != api.OK {
		return e
	}
	all := p.row(p.parent(l[0]), gone)
	var some []int // places in the row
	for i, x := range all {
		if slices.Contains(l, x.Node) {
			some = append(some, i)
		}
	}
	keys, e := keysAt(all, some[0], 1)
	if e = worst(e, when(len(l) > mostOps-1, api.ErrSize)); e != api.OK {
		return e
	}
	g := p.add(op.Op{Kind: op.Create, Ref: p.parent(l[0]), Key: keys[0]})
	keys, _ = poskey.Spread("", "", len(l))
	for i, k := range some {
		p.add(op.Op{Kind: op.Move, Node: all[k].Node, Ref: g, Key: keys[i]})
	}
	return api.OK
}

func (p *plain) ungroup(n api.Stamp) api.Errno {
	e := p.node(n)
	if _, points := p.d.Ref(n); points {
		e = worst(e, api.ErrKind)
	}
	below, l := p.row(n, gone), p.row(p.parent(n), gone)
	if e = worst(e, when(len(below) > mostOps-1, api.ErrSize)); e != api.OK {
		return e
	}
	keys, e := keysAt(l, place(l, n)+1, len(below))
	if e != api.OK {
		return e
	}
	for i, x := range below {
		p.add(op.Op{Kind: op.Move, Node: x.Node, Ref: p.parent(n), Key: keys[i]})
	}
	return p.throw(n)
}

func (p *plain) detach(n api.Stamp) api.Errno {
	if e := worst(p.node(n), p.instance(n)); e != api.OK {
		return e
	}
	master, _ := p.d.Ref(n)
	below, l := p.row(master, gone), p.row(n, gone)
	if len(below) > mostOps-1 {
		return api.ErrSize
	}
	keys, e := keysAt(l, len(l), len(below))
	if e != api.OK {
		return e
	}
	p.add(op.Op{Kind: op.Point, Node: n})
	for i, x := range below {
		p.copy(x.Node, n, keys[i], func(m api.Stamp, prop int) api.Value { return p.over(n, m, prop) })
	}
	return api.OK
}

// some is one of a list; gone of an empty one.
func some(r *rand.Rand, l []api.Stamp) api.Stamp {
	if len(l) == 0 {
		return gone
	}
	return l[r.Intn(len(l))]
}

func below(d *doc.Doc, p api.Stamp) (l []api.Stamp) {
	for _, x := range d.Row(p) {
		l = append(l, x.Node)
	}
	return l
}

// pick are nodes of which something is asked; those that are Alive, mostly.
func pick(r *rand.Rand, d *doc.Doc, asked func(api.Stamp) bool) api.Stamp {
	if k := r.Intn(40); k < 3 {
		return []api.Stamp{gone, root, trash}[k]
	}
	nodes := d.Nodes()
	if r.Intn(4) > 0 {
		nodes = slices.DeleteFunc(nodes, func(n api.Stamp) bool { return !asked(n) })
	}
	if r.Intn(4) > 0 {
		nodes = slices.DeleteFunc(nodes, func(n api.Stamp) bool { return !d.Alive(n) })
	}
	return some(r, nodes)
}

func anyValue(r *rand.Rand, prop int) api.Value {
	if r.Intn(6) == 0 {
		return none
	}
	if r.Intn(20) == 0 {
		prop = r.Intn(10)
	}
	switch prop {
	case value.Locked, value.Hidden:
		return []api.Value{yes, no, no}[r.Intn(3)]
	case value.Name:
		return text(string(rune('a' + r.Intn(26))))
	case value.Fill:
		return whole(r.Intn(100))
	}
	return fixed(r.Intn(100))
}

// anyRight is a value that a property may have.
func anyRight(r *rand.Rand, prop int) api.Value {
	for {
		if v := anyValue(r, prop); value.Right8(prop, v) {
			return v
		}
	}
}

// anyCmd is a command on a document, mostly one that can be done.
func anyCmd(r *rand.Rand, d *doc.Doc) edit.Cmd {
	whichever := func(api.Stamp) bool { return true }
	points := func(n api.Stamp) bool { _, is := d.Ref(n); return is }
	c := edit.Cmd{Kind: kinds[r.Intn(len(kinds))], Node: pick(r, d, whichever), Ref: pick(r, d, whichever), On: r.Intn(4) > 0, Prop: r.Intn(10)}
	c.Value = anyValue(r, c.Prop)
	to := &c.Ref
	switch c.Kind {
	case edit.Instance:
		to, c.Ref = &c.Node, pick(r, d, d.Marked)
		fallthrough
	case edit.Create, edit.Move, edit.Restore:
		if r.Intn(4) == 0 {
			*to = root
		}
		c.At = r.Intn(len(d.Row(*to))+2) - r.Intn(2)
		if c.Kind == edit.Restore && r.Intn(4) > 0 || c.Kind == edit.Restore && op.Place(c.Node) && !op.Node(c.Node) {
			c.Node = some(r, below(d, trash))
		}
	case edit.Override, edit.Swap, edit.Detach:
		c.Node = pick(r, d, points)
		if c.Kind == edit.Swap {
			c.Ref = pick(r, d, d.Marked)
		}
	}
	if c.Kind == edit.Group || c.Kind == edit.Override {
		l := d.Nodes()
		if spot, there := d.Spot(c.Node); there && r.Intn(6) > 0 {
			l = below(d, spot.Parent)
		}
		r.Shuffle(len(l), func(i, j int) { l[i], l[j] = l[j], l[i] })
		c.List = l[:r.Intn(min(len(l), 4)+1)]
		if r.Intn(20) == 0 {
			c.List = append(c.List, pick(r, d, whichever))
		}
	}
	return c
}

// anyOp is an op that no editor has to write: with keys that others have, too, and without asking whether it can be done.
func anyOp(r *rand.Rand, d *doc.Doc) op.Op {
	nodes := append(d.Nodes(), gone)
	places := append(d.Nodes(), root, root, root, trash)
	key := []string{"a", "b", "c", low, high, "c" + strings.Repeat("\x00", mostKey-2) + "\x01", "\x80"}[r.Intn(7)]
	prop := 1 + r.Intn(api.MaxProps)
	switch r.Intn(7) {
	case 0, 1:
		return op.Op{Kind: op.Create, Ref: some(r, places), Key: key}
	case 2:
		return op.Op{Kind: op.Move, Node: some(r, nodes), Ref: some(r, places), Key: key}
	case 3:
		return op.Op{Kind: op.Point, Node: some(r, nodes), Ref: some(r, nodes)}
	case 4:
		return op.Op{Kind: op.Override, Node: some(r, nodes), Path: list(some(r, nodes)), Prop: value.Fill, Value: whole(r.Intn(9))}
	case 5:
		return op.Op{Kind: op.Set, Node: some(r, nodes), Prop: prop, Value: anyRight(r, prop)}
	}
	return op.Op{Kind: op.Mark, Node: some(r, nodes), On: true}
}

// crowd are replicas that edit at once, and now and then have all batches of all.
type crowd struct {
	docs [3]*doc.Doc
	all  []batch.Batch
}

func newCrowd() *crowd { return &crowd{docs: [3]*doc.Doc{doc.New(), doc.New(), doc.New()}} }

func (w *crowd) do(t *testing.T, i int, l []op.Op) {
	t.Helper()
	d := w.docs[i]
	x := batch.Batch{Replica: i, Seq: d.Vector()[i] + 1, Time: d.Time() + 1, Ops: l}
	if n, e := d.Apply(x); n != 1 || e != api.OK {
		t.Fatalf("Apply of %+v: %d %d", x, n, e)
	}
	w.all = append(w.all, x)
}

func (w *crowd) meet() {
	for _, d := range w.docs {
		for _, x := range w.all {
			d.Apply(x)
		}
	}
}

// steps writes a history, and hands each document out before each step.
func (w *crowd) steps(t *testing.T, r *rand.Rand, count int, each func(d *doc.Doc, first api.Stamp)) {
	t.Helper()
	for range count {
		i := r.Intn(len(w.docs))
		d := w.docs[i]
		first := at(d.Time()+1, i)
		each(d, first)
		switch k := r.Intn(10); {
		case k == 0:
			w.meet()
		case k < 3:
			w.do(t, i, []op.Op{anyOp(r, d)})
		default:
			if l, e := edit.Compile(d, first, anyCmd(r, d)); e == api.OK {
				w.do(t, i, l)
			}
		}
	}
}

func TestP1602AsTheWordsSay(t *testing.T) {
	r := rand.New(rand.NewSource(1602))
	seen := map[string]int{}
	for range 30 {
		w := newCrowd()
		w.steps(t, r, 120, func(d *doc.Doc, first api.Stamp) {
			for range 8 {
				c := anyCmd(r, d)
				if r.Intn(30) == 0 {
					first.Time = mostTime - r.Intn(4)
				}
				want, f := (&plain{d: d, first: first}).compile(c)
				l, e := edit.Compile(d, first, c)
				if e != f || !sameOps(l, want) {
					t.Fatalf("Compile of %+v: %d\n%+v\nwant %d\n%+v", c, e, l, f, want)
				}
				seen[fmt.Sprint(c.Kind, " ", e)]++
			}
		})
	}
	errors := map[int][]api.Errno{
		edit.Create:    {api.ErrNone, api.ErrLock, api.ErrArg, api.ErrKey},
		edit.Move:      {api.ErrNone, api.ErrLock, api.ErrCycle, api.ErrArg, api.ErrKey},
		edit.Delete:    {api.ErrNone, api.ErrLock},
		edit.Restore:   {api.ErrNone, api.ErrKind, api.ErrLock, api.ErrCycle, api.ErrArg, api.ErrKey},
		edit.Set:       {api.ErrArg, api.ErrNone, api.ErrLock},
		edit.Mark:      {api.ErrNone, api.ErrLock},
		edit.Instance:  {api.ErrNone, api.ErrLock, api.ErrKind, api.ErrCycle, api.ErrArg, api.ErrKey, api.ErrSize},
		edit.Override:  {api.ErrArg, api.ErrNone, api.ErrLock, api.ErrKind},
		edit.Swap:      {api.ErrNone, api.ErrLock, api.ErrKind, api.ErrCycle},
		edit.Group:     {api.ErrArg, api.ErrNone, api.ErrLock, api.ErrKind, api.ErrKey, api.ErrSize},
		edit.Ungroup:   {api.ErrNone, api.ErrLock, api.ErrKind, api.ErrKey, api.ErrSize},
		edit.Duplicate: {api.ErrNone, api.ErrLock, api.ErrKey, api.ErrSize},
		edit.Detach:    {api.ErrNone, api.ErrLock, api.ErrKind, api.ErrSize},
	}
	for _, kind := range kinds {
		for _, e := range append(errors[kind], api.OK) {
			if seen[fmt.Sprint(kind, " ", e)] == 0 {
				t.Errorf("the kind %d never answered %d", kind, e)
			}
		}
	}
}

// texts are what a document tells of each node, but of those that are left out.
func texts(d *doc.Doc, without ...api.Stamp) map[api.Stamp]string {
	all := map[api.Stamp]string{}
	for _, n := range d.Nodes() {
		if slices.Contains(without, n) {
			continue
		}
		spot, _ := d.Spot(n)
		master, _ := d.Ref(n)
		s := fmt.Sprintf("%v %q %v %t", spot.Parent, spot.Key, master, d.Marked(n))
		for prop := 1; prop <= api.MaxProps; prop++ {
			s += " " + value.Print(d.Value(n, prop))
		}
		all[n] = s
	}
	return all
}

// subtree is the text of a node and of what is below it, without its spot; with the values that are told of each, but Locked.
func subtree(d *doc.Doc, n api.Stamp, told func(n api.Stamp, prop int) api.Value) string {
	master, _ := d.Ref(n)
	s := fmt.Sprint("(", master)
	for prop := 2; prop <= api.MaxProps; prop++ {
		s += " " + value.Print(told(n, prop))
	}
	for _, x := range d.Row(n) {
		s += fmt.Sprintf("%q", x.Key) + subtree(d, x.Node, told)
	}
	return s + ")"
}

// told asks whether a document that was behind does what was told.
func told(t *testing.T, d, behind *doc.Doc, first api.Stamp, c edit.Cmd) {
	t.Helper()
	now := func(p api.Stamp) []api.Stamp { return below(behind, p) }
	rowWants := func(p api.Stamp, want []api.Stamp) {
		t.Helper()
		if got := now(p); !slices.Equal(got, want) {
			t.Fatalf("behind %+v stand below %v: %v, want %v", c, p, got, want)
		}
	}
	spot, _ := d.Spot(c.Node)
	last := slices.Insert(slices.Clone(below(d, trash)), len(below(d, trash)), c.Node)
	touched := list(c.Node)
	switch c.Kind {
	case edit.Create, edit.Instance:
		p := c.Ref
		if c.Kind == edit.Instance {
			p = c.Node
			if master, _ := behind.Ref(first); master != c.Ref {
				t.Fatalf("behind %+v it points to %v", c, master)
			}
		}
		rowWants(p, slices.Insert(below(d, p), c.At, first))
		touched = nil
	case edit.Move, edit.Restore:
		l := slices.DeleteFunc(below(d, c.Ref), func(n api.Stamp) bool { return n == c.Node })
		rowWants(c.Ref, slices.Insert(l, c.At, c.Node))
	case edit.Delete:
		rowWants(trash, last)
	case edit.Set:
		if got := behind.Value(c.Node, c.Prop); got != c.Value {
			t.Fatalf("behind %+v it is %v", c, got)
		}
	case edit.Mark:
		if behind.Marked(c.Node) != c.On {
			t.Fatalf("behind %+v it is not marked so", c)
		}
	case edit.Override:
		if v, there := behind.Over(c.Node, c.List, c.Prop); v != c.Value || there != (v != none) {
			t.Fatalf("behind %+v it is %v", c, v)
		}
	case edit.Swap:
		if master, _ := behind.Ref(c.Node); master != c.Ref {
			t.Fatalf("behind %+v it points to %v", c, master)
		}
	case edit.Group:
		spot, _ = d.Spot(c.List[0])
		l := below(d, spot.Parent)
		in := func(n api.Stamp) bool { return slices.Contains(c.List, n) }
		chosen := slices.DeleteFunc(slices.Clone(l), func(n api.Stamp) bool { return !in(n) })
		rowWants(first, chosen)
		rowWants(spot.Parent, slices.DeleteFunc(slices.Insert(l, slices.Index(l, chosen[0]), first), in))
		touched = chosen
	case edit.Ungroup:
		l := below(d, spot.Parent)
		i := slices.Index(l, c.Node)
		rowWants(spot.Parent, slices.Replace(l, i, i+1, below(d, c.Node)...))
		rowWants(trash, last)
		rowWants(c.Node, nil)
		touched = append(below(d, c.Node), c.Node)
	case edit.Duplicate:
		l := below(d, spot.Parent)
		rowWants(spot.Parent, slices.Insert(l, slices.Index(l, c.Node)+1, first))
		if a, b := subtree(d, c.Node, d.Value), subtree(behind, first, behind.Value); a != b {
			t.Fatalf("behind %+v the copy is\n%s\nof\n%s", c, b, a)
		}
		touched = nil
	case edit.Detach:
		master, _ := d.Ref(c.Node)
		if to, points := behind.Ref(c.Node); points {
			t.Fatalf("behind %+v it points to %v", c, to)
		}
		own, all := below(d, c.Node), now(c.Node)
		shown := func(n api.Stamp, prop int) api.Value { return (&plain{d: d}).over(c.Node, n, prop) }
		copied := below(d, master)
		if len(all) != len(own)+len(copied) || !slices.Equal(all[:len(own)], own) {
			t.Fatalf("behind %+v stand below it: %v", c, all)
		}
		for i, n := range copied {
			if a, b := subtree(d, n, shown), subtree(behind, all[len(own)+i], behind.Value); a != b {
				t.Fatalf("behind %+v the copy is\n%s\nof\n%s", c, b, a)
			}
		}
	}
	was, is := texts(d, touched...), texts(behind, touched...)
	for n, s := range was {
		if is[n] != s {
			t.Fatalf("behind %+v is %v: %s, and was %s", c, n, is[n], s)
		}
	}
	for n := range is {
		if _, was := was[n]; !was && (n.Replica != first.Replica || n.Time < first.Time) {
			t.Fatalf("behind %+v there is %v", c, n)
		}
	}
}

func TestP1603Done(t *testing.T) {
	r := rand.New(rand.NewSource(1603))
	var count [14]int
	for range 25 {
		w := newCrowd()
		w.steps(t, r, 120, func(d *doc.Doc, first api.Stamp) {
			for range 3 {
				c := anyCmd(r, d)
				l, e := edit.Compile(d, first, c)
				if e != api.OK {
					continue
				}
				told(t, d, done(t, d, first, l), first, c)
				count[c.Kind]++
			}
		})
	}
	for _, kind := range kinds {
		if count[kind] < 20 {
			t.Errorf("the kind %d was done %d times", kind, count[kind])
		}
	}
}

func TestP1603DoneInScene(t *testing.T) {
	d := scene(t).doc
	for _, c := range commands() {
		first := next(d)
		l, e := edit.Compile(d, first, c)
		if e != api.OK {
			t.Fatal(c, e)
		}
		told(t, d, done(t, d, first, l), first, c)
	}
}

// One command behind the other, each on what the one ahead made, till there are many nodes.
func TestP1603DoneOneBehindTheOther(t *testing.T) {
	r := rand.New(rand.NewSource(16031))
	for range 5 {
		d := scene(t).doc
		for range 150 {
			c, first := anyCmd(r, d), at(d.Time()+1, 9)
			if c.Kind == edit.Set && c.Prop == value.Locked {
				continue
			}
			l, e := edit.Compile(d, first, c)
			if e != api.OK {
				continue
			}
			behind := done(t, d, first, l)
			told(t, d, behind, first, c)
			d = behind
		}
	}
}

func TestP1604NoOpsOfAnError(t *testing.T) {
	r := rand.New(rand.NewSource(1604))
	var count [14]int
	for range 15 {
		w := newCrowd()
		w.steps(t, r, 100, func(d *doc.Doc, first api.Stamp) {
			before, digest := d.Clone(), d.Log().Digest()
			for range 8 {
				c := anyCmd(r, d)
				l, e := edit.Compile(d, first, c)
				if e == api.OK {
					if len(l) == 0 || len(l) > mostOps {
						t.Fatalf("Compile of %+v: %d ops", c, len(l))
					}
					continue
				}
				if len(l) != 0 {
					t.Fatalf("Compile of %+v: %d, and %+v", c, e, l)
				}
				count[c.Kind]++
			}
			if !d.Same(before) || d.Log().Digest() != digest {
				t.Fatal("the document was changed")
			}
		})
	}
	for _, kind := range kinds {
		if count[kind] < 20 {
			t.Errorf("the kind %d was refused %d times", kind, count[kind])
		}
	}
}

// Faults that are seen late, behind ops that could be written: none of these is told.
func TestP1604LateFaults(t *testing.T) {
	f := scene(t)
	f.move(at(15, 0), trash, high)
	refuses(t, f.doc, edit.Cmd{Kind: edit.Ungroup, Node: at(3, 0)}, api.ErrKey)
	f.create(at(10, 0), high)
	refuses(t, f.doc, edit.Cmd{Kind: edit.Detach, Node: at(10, 0)}, api.ErrKey)
	f.many(at(6, 0), 64)
	refuses(t, f.doc, edit.Cmd{Kind: edit.Duplicate, Node: at(1, 0)}, api.ErrSize)
	all := f.many(root, 64)
	refuses(t, f.doc, edit.Cmd{Kind: edit.Group, List: all}, api.ErrSize)
	for _, c := range []edit.Cmd{{Kind: edit.Instance, Node: at(1, 0), Ref: at(7, 0)}, {Kind: edit.Group, List: list(at(2, 0))}} {
		if l, e := edit.Compile(f.doc, at(mostTime, 0), c); e != api.ErrSize || len(l) != 0 {
			t.Error(c, e, l)
		}
	}
}
