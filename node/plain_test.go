package node_test

import (
	"math"
	"slices"

	"catchment/api"
)

// pair is a key, and what stands beside it.
type pair struct{ key, val uint64 }

// plain is a node as the words tell of it: pairs, in any order, and its kind.
type plain struct {
	leaf  bool
	pairs []pair
}

// right is what the chapter's words say of a right node, key by key.
func right(n api.Node) bool {
	if len(n.Keys) > 7 || len(n.Keys) != len(n.Vals) || !n.Leaf && len(n.Keys) == 0 {
		return false
	}
	for i := range n.Keys {
		for j := range i {
			if n.Keys[j] >= n.Keys[i] {
				return false
			}
		}
	}
	return true
}

// plainOf answers what a right node has.
func plainOf(n api.Node) plain {
	p := plain{leaf: n.Leaf}
	for i, key := range n.Keys {
		p.pairs = append(p.pairs, pair{key, n.Vals[i]})
	}
	return p
}

// node answers the node that has these pairs: its keys rise.
func (p plain) node() api.Node {
	n := api.Node{Leaf: p.leaf}
	for key, ok := p.next(0); ok; key, ok = p.next(key + 1) {
		val, _ := p.get(key)
		n.Keys, n.Vals = append(n.Keys, key), append(n.Vals, val)
		if key == math.MaxUint64 {
			break
		}
	}
	return n
}

// next answers the least key that is at least from.
func (p plain) next(from uint64) (uint64, bool) {
	least, ok := uint64(0), false
	for _, x := range p.pairs {
		if x.key >= from && (!ok || x.key < least) {
			least, ok = x.key, true
		}
	}
	return least, ok
}

// get answers the value of a key.
func (p plain) get(key uint64) (uint64, bool) {
	for _, x := range p.pairs {
		if x.key == key {
			return x.val, true
		}
	}
	return 0, false
}

// only answers the same node with those pairs alone that are kept.
func (p plain) only(kept func(pair) bool) plain {
	q := plain{leaf: p.leaf}
	for _, x := range p.pairs {
		if kept(x) {
			q.pairs = append(q.pairs, x)
		}
	}
	return q
}

// less tells how many keys are less than one.
func (p plain) less(key uint64) int {
	return len(p.only(func(x pair) bool { return x.key < key }).pairs)
}

// at is what P12.1 says of a right node.
func (p plain) at(key uint64) (int, bool) {
	_, is := p.get(key)
	if p.leaf || is || p.less(key) == 0 {
		return p.less(key), is
	}
	return p.less(key) - 1, false
}

// put is what P12.2 says of a right node.
func (p plain) put(key, val uint64) (api.Node, bool, api.Errno) {
	_, was := p.get(key)
	if !was && len(p.pairs) == 7 {
		return api.Node{}, false, api.ErrFull
	}
	q := p.only(func(x pair) bool { return x.key != key })
	q.pairs = append(q.pairs, pair{key, val})
	return q.node(), was, api.OK
}

// take is what P12.2 says of a right node.
func (p plain) take(key uint64) (api.Node, uint64, api.Errno) {
	val, is := p.get(key)
	switch {
	case !is:
		return api.Node{}, 0, api.ErrKey
	case !p.leaf && len(p.pairs) == 1:
		return api.Node{}, 0, api.ErrLast
	}
	return p.only(func(x pair) bool { return x.key != key }).node(), val, api.OK
}

// halves answers the pairs whose keys are the first ones, half of them, and the others.
func (p plain) halves() (api.Node, api.Node) {
	first := func(x pair) bool { return 2*p.less(x.key) < len(p.pairs) }
	return p.only(first).node(), p.only(func(x pair) bool { return !first(x) }).node()
}

// split is what P12.3 says of a right node.
func (p plain) split() (api.Node, api.Node, api.Errno) {
	if len(p.pairs) < 2 {
		return api.Node{}, api.Node{}, api.ErrLast
	}
	a, b := p.halves()
	return a, b, api.OK
}

// join is what P12.3 says of two right nodes.
func (p plain) join(q plain) ([]api.Node, api.Errno) {
	if p.leaf != q.leaf {
		return nil, api.ErrNode
	}
	for _, x := range p.pairs {
		for _, y := range q.pairs {
			if x.key >= y.key {
				return nil, api.ErrNode
			}
		}
	}
	all := plain{p.leaf, append(slices.Clone(p.pairs), q.pairs...)}
	if len(all.pairs) <= 7 {
		return []api.Node{all.node()}, api.OK
	}
	a, b := all.halves()
	return []api.Node{a, b}, api.OK
}

// cut is what P12.4 says of a right node.
func (p plain) cut(from, to uint64) (api.Node, []uint64, api.Errno) {
	if !p.leaf {
		return api.Node{}, nil, api.ErrNode
	}
	in := func(x pair) bool { return x.key >= from && x.key <= to }
	return p.only(func(x pair) bool { return !in(x) }).node(), p.only(in).node().Vals, api.OK
}
