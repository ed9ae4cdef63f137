package tree

import (
	"catchment/api"
	"catchment/base"
	"catchment/find"
	"catchment/node"
	"catchment/own"
)

// store is what nodes stand in: a base, or one that is only thought of.
type store interface {
	own(at int) (int, api.Node, api.Errno) // the block at which a node is one's own, and the node
	set(at int, n api.Node) api.Errno
	put(n api.Node) (int, api.Errno)
	down(at int) api.Errno
}

// live is a store whose nodes stand in a base.
type live struct{ base *base.Base }

// trial is a store in which nothing is done to the base: it tells only what would be told, were it done. All blocks that would be taken have one number, that of no block.
type trial struct {
	base *base.Base
	by   map[int]int      // how much greater a block's count would be
	met  map[int]struct{} // blocks of nodes, each of which is in a right tree once
	room int              // how many blocks might be taken yet
}

// do does a change to a base, if it can be done as a whole. What fails half-way could not be taken back: so it is tried ahead.
func do(b *base.Base, c func(s store) (int, api.Errno)) (int, api.Errno) {
	if b.Broken() {
		return 0, api.ErrBroken
	}
	if _, e := c(&trial{b, map[int]int{}, map[int]struct{}{}, b.Room()}); e != api.OK {
		return 0, e
	}
	return c(live{b})
}

func (l live) own(at int) (int, api.Node, api.Errno) {
	to, e := own.Own(l.base, at)
	if e != api.OK {
		return 0, api.Node{}, e
	}
	n, e := find.Node(l.base, to)
	return to, n, e
}

func (l live) set(at int, n api.Node) api.Errno { return own.Set(l.base, at, n) }

func (l live) put(n api.Node) (int, api.Errno) { return own.Put(l.base, n) }

func (l live) down(at int) api.Errno { return l.base.Down(at) }

// own tells what own.Own would, if no node were one's own yet: so it asks for no less. A tree that has a block twice, or one that may be handed out, is none: what is done to it could not be foretold.
func (t *trial) own(at int) (int, api.Node, api.Errno) {
	n, e := find.Node(t.base, at)
	if e == api.OK && !n.Leaf {
		e = t.meet(n.Vals)
	}
	if e == api.OK {
		e = t.leave(at, n.Vals)
	}
	if e != api.OK {
		return 0, api.Node{}, e
	}
	to, e := t.put(n)
	return to, n, e
}

func (t *trial) set(_ int, n api.Node) api.Errno {
	if !node.Right(n) { // keys stood below another kid than they may
		return api.ErrTree
	}
	return api.OK
}

func (t *trial) put(api.Node) (int, api.Errno) {
	if t.room == 0 { // only where a way is longer than the first one, which tells the height
		return 0, api.ErrSpace
	}
	t.room--
	return api.MaxDisk, api.OK
}

func (t *trial) down(int) api.Errno { return api.OK }

// count answers what a block's count would be.
func (t *trial) count(at int) int { return t.base.Count(at) + t.by[at] }

// meet notes which blocks a node's kids stand at.
func (t *trial) meet(vals []uint64) api.Errno {
	for _, val := range vals {
		at := block(val)
		if _, ok := t.met[at]; ok || t.base.Count(at) == 0 {
			return api.ErrTree
		}
		t.met[at] = struct{}{}
	}
	return api.OK
}

// leave tells whether a node's block may go down, as a copy takes its place; if others refer to it still, all that the node refers to goes up.
func (t *trial) leave(at int, vals []uint64) api.Errno {
	if t.count(at) > 1 {
		for _, val := range vals {
			if e := t.up(val); e != api.OK {
				return e
			}
		}
	}
	t.by[at]--
	if e := t.rises(at); e != api.ErrRef { // what may not go up any more may go down
		return e
	}
	return api.OK
}

// up tells whether what a value refers to may go up.
func (t *trial) up(val uint64) api.Errno {
	at := block(val)
	switch {
	case val == 0:
		return api.OK
	case t.count(at) == api.MaxRef:
		return api.ErrRef
	case t.count(at) == 0 || t.rises(at) != api.OK:
		return api.ErrTree
	}
	t.by[at]++
	return api.OK
}

// rises tells whether a block's count may be changed as it is now. A base tells that only by doing it: so that is taken back at once.
func (t *trial) rises(at int) api.Errno {
	e := t.base.Up(at)
	if e == api.OK {
		t.base.Down(at)
	}
	return e
}
