package tree

import (
	"catchment/api"
	"catchment/node"
)

// change is what is done to one key of a tree.
type change struct {
	store    store
	key, val uint64
}

// part is a node that was changed, and a block of one's own at which it may stand. It does not stand there yet: it may have too few keys to stand alone.
type part struct {
	at   int
	node api.Node
}

// putRoot puts the key, and answers the root then.
func (c change) putRoot(root int) (int, api.Errno) {
	if root == 0 {
		return c.store.put(api.Node{Leaf: true, Keys: []uint64{c.key}, Vals: []uint64{c.val}})
	}
	over, e := c.put(root)
	switch {
	case e != api.OK:
		return 0, e
	case len(over.Vals) == 1:
		return block(over.Vals[0]), api.OK
	}
	return c.store.put(over)
}

// put puts the key below a block. What stands there then is told as a node over it would have it: one kid, or two, if there was a key too many.
func (c change) put(at int) (api.Node, api.Errno) {
	to, n, e := c.store.own(at)
	switch {
	case e != api.OK:
		return api.Node{}, e
	case n.Leaf:
		return c.stand(to, grow(n, c.key, c.val))
	}
	i, kids, e := below(c, n, c.put)
	if e != api.OK {
		return api.Node{}, e
	}
	n.Keys[i] = min(n.Keys[i], c.key) // only ahead of a first kid the key may be less
	l, e := replace(n, i, kids)
	if e != api.OK {
		return api.Node{}, e
	}
	return c.stand(to, l)
}

// below lets what goes on at one level go on at the kid that the key leads to. Which one that is, is told first.
func below[T any](c change, n api.Node, level func(at int) (T, api.Errno)) (int, T, api.Errno) {
	i, _, _ := node.At(n, c.key)
	t, e := level(block(n.Vals[i]))
	return i, t, e
}

// replace lets one kid of a node be what has become of it. A second one that would not stand next to the first is none of a right tree.
func replace(n api.Node, i int, kids api.Node) ([]api.Node, api.Errno) {
	n.Vals[i] = kids.Vals[0]
	if len(kids.Vals) == 1 {
		return []api.Node{n}, api.OK
	}
	if at, is, _ := node.At(n, kids.Keys[1]); is || at != i {
		return nil, api.ErrTree
	}
	return grow(n, kids.Keys[1], kids.Vals[1]), api.OK
}

// grow answers a node that has the key with the value; or both halves of it, if these are too many keys. As no node ever has so many, a full one is halved ahead; to join both makes the halves even again.
func grow(n api.Node, key, val uint64) []api.Node {
	more, _, e := node.Put(n, key, val)
	if e != api.ErrFull {
		return []api.Node{more}
	}
	a, b, _ := node.Split(n)
	if key < b.Keys[0] {
		a, _, _ = node.Put(a, key, val)
	} else {
		b, _, _ = node.Put(b, key, val)
	}
	l, _ := node.Join(a, b)
	return l
}

// stand lets a node stand at a block of one's own, and its second half, if there is one, at another block. They are told as kids.
func (c change) stand(at int, l []api.Node) (api.Node, api.Errno) {
	if e := c.store.set(at, l[0]); e != api.OK {
		return api.Node{}, e
	}
	over := api.Node{Keys: []uint64{l[0].Keys[0]}, Vals: []uint64{uint64(at)}}
	if len(l) == 1 {
		return over, api.OK
	}
	to, e := c.store.put(l[1])
	if e != api.OK {
		return api.Node{}, e
	}
	over, _, _ = node.Put(over, l[1].Keys[0], uint64(to))
	return over, api.OK
}

// takeRoot takes the key, and answers the root then. A root that is not needed any more hands its reference to the only kid over.
func (c change) takeRoot(root int) (int, api.Errno) {
	p, e := c.take(root)
	if e != api.OK {
		return 0, e
	}
	switch many := len(p.node.Keys); {
	case many == 0: // only a leaf may have none
		return 0, c.store.down(p.at)
	case !p.node.Leaf && many == 1:
		return block(p.node.Vals[0]), c.store.down(p.at)
	}
	return p.at, c.store.set(p.at, p.node)
}

// take takes the key below a block.
func (c change) take(at int) (part, api.Errno) {
	to, n, e := c.store.own(at)
	switch {
	case e != api.OK:
		return part{}, e
	case n.Leaf:
		n, _, _ = node.Take(n, c.key) // it is there: Take has asked
		return part{to, n}, api.OK
	}
	i, kid, e := below(c, n, c.take)
	if e != api.OK {
		return part{}, e
	}
	n.Vals[i] = uint64(kid.at)
	if len(kid.node.Keys) >= api.MinKeys {
		return part{to, n}, c.store.set(kid.at, kid.node)
	}
	n, e = c.join(n, i, kid)
	return part{to, n}, e
}

// join lets a kid that has too few keys be one node with a kid beside it, or share its keys, and answers the node over both.
func (c change) join(n api.Node, i int, kid part) (api.Node, api.Errno) {
	j, ok := beside(n, i)
	if !ok { // no node of a right tree has an only kid
		return api.Node{}, api.ErrTree
	}
	to, other, e := c.store.own(block(n.Vals[j]))
	if e != api.OK {
		return api.Node{}, e
	}
	first, second := part{to, other}, kid
	if j > i {
		first, second = second, first
	}
	n.Vals[j] = uint64(to)
	l, e := node.Join(first.node, second.node)
	if e != api.OK {
		return api.Node{}, api.ErrTree
	}
	if e := c.store.set(first.at, l[0]); e != api.OK {
		return api.Node{}, e
	}
	behind := max(i, j)
	if len(l) == 1 {
		n, _, _ = node.Take(n, n.Keys[behind])
		return n, c.store.down(second.at)
	}
	n.Keys[behind] = l[1].Keys[0]
	return n, c.store.set(second.at, l[1])
}
