package edit

import (
	"slices"

	"diorama/api"
	"diorama/doc"
	"diorama/op"
	"diorama/order"
	"diorama/value"
)

// sheet: the ops of a command, as far as they are written, or why there are none. Who writes may go on behind a fault: the first one stands, and nothing is written any more. So a command reads as the chapter tells it, each error in its place.
type sheet struct {
	first api.Stamp
	ops   []op.Op
	fault api.Errno
}

func (s *sheet) refuse(e api.Errno, is bool) {
	if is && s.fault == api.OK {
		s.fault = e
	}
}

// write answers the stamp that the op has.
func (s *sheet) write(x op.Op) api.Stamp {
	at := s.first
	at.Time += len(s.ops)
	if s.fault == api.OK {
		s.ops = append(s.ops, x)
	}
	return at
}

// over tells whether there are more ops than a batch may have, or stamps that may not be.
func (s *sheet) over() bool {
	return len(s.ops) > api.MaxOps || s.first.Time+len(s.ops)-1 > api.MaxTime
}

func (s *sheet) key(k string, e api.Errno) string {
	s.refuse(e, e != api.OK)
	return k
}

func (s *sheet) keys(l []string, e api.Errno) []string {
	s.refuse(e, e != api.OK)
	return l
}

// pen: what writes a command onto its sheet, by what the document tells.
type pen struct {
	*doc.Doc
	sheet
}

func (p *pen) alive(n api.Stamp) { p.refuse(api.ErrNone, !p.Alive(n)) }

func (p *pen) nodeAtHand(n api.Stamp) {
	p.alive(n)
	p.refuse(api.ErrLock, p.Locked(n))
}

func (p *pen) placeAtHand(n api.Stamp) {
	if n != root {
		p.nodeAtHand(n)
	}
}

func (p *pen) masterAtHand(n api.Stamp) {
	p.alive(n)
	p.refuse(api.ErrKind, !p.Marked(n))
}

// master answers what an instance points to.
func (p *pen) master(n api.Stamp) api.Stamp {
	to, points := p.Ref(n)
	p.refuse(api.ErrKind, !points)
	return to
}

// stands tells where a node is: its Parent, that one's row, and the place there.
func (p *pen) stands(n api.Stamp) (parent api.Stamp, row []order.Sib, at int) {
	spot, _ := p.Spot(n)
	row = p.Row(spot.Parent)
	return spot.Parent, row, order.Find(row, n)
}

// bring moves a command's node to its place, in whose row the node counts no more.
func (p *pen) bring(c Cmd) {
	p.placeAtHand(c.Ref)
	p.refuse(api.ErrCycle, p.Reaches(c.Ref, c.Node, true) || p.Reaches(c.Node, c.Ref, false))
	row := p.Row(c.Ref)
	if i := order.Find(row, c.Node); i >= 0 {
		row = slices.Delete(row, i, i+1)
	}
	p.write(op.Op{Kind: op.Move, Node: c.Node, Ref: c.Ref, Key: p.key(order.Key(row, c.At))})
}

// throw moves a node to the trash, behind all there.
func (p *pen) throw(n api.Stamp) {
	row := p.Row(trash)
	p.write(op.Op{Kind: op.Move, Node: n, Ref: trash, Key: p.key(order.Key(row, len(row)))})
}

// copyOf writes a copy of a node, and of what is below it, with the values that are told of each. It ends where no more may be written: what is below may be much.
func (p *pen) copyOf(n, parent api.Stamp, key string, told func(n api.Stamp, prop int) api.Value) {
	if p.fault != api.OK || p.over() {
		return
	}
	made := p.write(op.Op{Kind: op.Create, Ref: parent, Key: key})
	for prop := 1; prop <= api.MaxProps; prop++ {
		if v := told(n, prop); prop != value.Locked && v.Kind != value.None {
			p.write(op.Op{Kind: op.Set, Node: made, Prop: prop, Value: v})
		}
	}
	if master, points := p.Ref(n); points {
		p.write(op.Op{Kind: op.Point, Node: made, Ref: master})
	}
	for _, x := range p.Row(n) {
		p.copyOf(x.Node, made, x.Key, told)
	}
}
