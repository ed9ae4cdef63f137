package find_test

import (
	"bytes"
	"cmp"
	"encoding/binary"
	"fmt"
	"math"
	"math/rand"
	"slices"
	"testing"
	"time"

	"catchment/api"
	"catchment/base"
	"catchment/disk"
	"catchment/find"
	"catchment/octets"
)

const top = math.MaxUint64 // the greatest key

// plain is which nodes stand in which blocks, as the tests put them there.
type plain map[int]api.Node

// met is a node that is come to from a root: how many levels down, and what is said of its keys: what they are at least, and below what.
type met struct {
	at, level    int
	least, below []uint64
}

// right is what the chapter's words say of a tree, node by node.
func (p plain) right(root int) bool {
	if root == 0 {
		return true
	}
	leaves := 0 // how many levels down they are
	for queue := []met{{at: root, level: 1}}; len(queue) > 0; queue = queue[1:] {
		m := queue[0]
		n, is := p[m.at]
		if !is || m.level > 8 || len(n.Keys) < fewest(n, m.level == 1) || !allowed(n.Keys, m) {
			return false
		}
		if n.Leaf {
			if leaves != 0 && leaves != m.level {
				return false
			}
			leaves = m.level
			continue
		}
		for i, kid := range n.Vals {
			k := met{at: int(kid), level: m.level + 1, least: append(slices.Clone(m.least), n.Keys[i]), below: slices.Clone(m.below)}
			if i+1 < len(n.Keys) {
				k.below = append(k.below, n.Keys[i+1])
			}
			queue = append(queue, k)
		}
	}
	return true
}

// fewest is how many keys a node has at least.
func fewest(n api.Node, root bool) int {
	switch {
	case !root:
		return 3
	case n.Leaf:
		return 1
	}
	return 2
}

// allowed tells whether keys are what is said of them.
func allowed(keys []uint64, m met) bool {
	for _, key := range keys {
		for _, least := range m.least {
			if key < least {
				return false
			}
		}
		for _, below := range m.below {
			if key >= below {
				return false
			}
		}
	}
	return true
}

// items are those of a right tree, in any order.
func (p plain) items(root int) []api.Item {
	if root == 0 {
		return nil
	}
	var l []api.Item
	n := p[root]
	for i, key := range n.Keys {
		if n.Leaf {
			l = append(l, api.Item{Key: key, Val: n.Vals[i]})
		} else {
			l = append(l, p.items(int(n.Vals[i]))...)
		}
	}
	return l
}

// high is how many levels a right tree has.
func (p plain) high(root int) int {
	switch {
	case root == 0:
		return 0
	case p[root].Leaf:
		return 1
	}
	return 1 + p.high(int(p[root].Vals[0]))
}

// keys are all those of a tree's nodes, of each kind.
func (p plain) keys(root int) []uint64 {
	if root == 0 {
		return nil
	}
	n := p[root]
	l := slices.Clone(n.Keys)
	if !n.Leaf {
		for _, kid := range n.Vals {
			l = append(l, p.keys(int(kid))...)
		}
	}
	return l
}

// walk is what P13.2 says of a walk through a tree that has these items.
func walk(all []api.Item, from, to uint64, most int) []api.Item {
	var l []api.Item
	for _, x := range all {
		if x.Key >= from && x.Key <= to {
			l = append(l, x)
		}
	}
	slices.SortFunc(l, func(a, b api.Item) int { return cmp.Compare(a.Key, b.Key) })
	return l[:max(0, min(most, len(l)))]
}

// get is what P13.2 says of a key of a tree that has these items.
func get(all []api.Item, key uint64) (uint64, bool) {
	for _, x := range all {
		if x.Key == key {
			return x.Val, true
		}
	}
	return 0, false
}

// set is a base, its disk, and what was put there.
type set struct {
	t testing.TB
	d *disk.Disk
	b *base.Base
	p plain
}

// start makes a set of a disk that was just formatted.
func start(t testing.TB, blocks int) *set {
	t.Helper()
	d, e := disk.New(blocks)
	if no := base.Format(d); e != api.OK || no != api.OK {
		t.Fatal(e, no)
	}
	x := &set{t: t, d: d, p: plain{}}
	x.again()
	return x
}

// again opens the disk anew.
func (x *set) again() {
	x.t.Helper()
	b, e := base.Open(x.d)
	if e != api.OK {
		x.t.Fatal(e)
	}
	x.b = b
}

// page is what a node is written as, right or not.
func page(n api.Node) []byte {
	kind, body := api.PageInner, []byte{byte(len(n.Keys))}
	if n.Leaf {
		kind = api.PageLeaf
	}
	for i, key := range n.Keys {
		body = binary.BigEndian.AppendUint64(body, key)
		body = binary.BigEndian.AppendUint64(body, n.Vals[i])
	}
	b, e := octets.Seal(kind, body)
	if e != api.OK {
		panic("a node with too many keys")
	}
	return b
}

// data puts bytes that are no node's.
func (x *set) data(b []byte) int {
	x.t.Helper()
	at, e := x.b.Put(b)
	if e != api.OK {
		x.t.Fatal(e)
	}
	return at
}

// put puts a node.
func (x *set) put(n api.Node) int {
	x.t.Helper()
	at := x.data(page(n))
	x.p[at] = n
	return at
}

// over lets a fresh block have another node.
func (x *set) over(at int, n api.Node) {
	x.t.Helper()
	if e := x.b.Over(at, page(n)); e != api.OK {
		x.t.Fatal(e)
	}
	x.p[at] = n
}

// commit lets all that was put stand on the disk.
func (x *set) commit() {
	x.t.Helper()
	if e := x.b.Commit(); e != api.OK {
		x.t.Fatal(e)
	}
}

// fail lets the power go.
func (x *set) fail() {
	x.t.Helper()
	x.d.Arm(0)
	if e := x.d.Flush(); e != api.ErrDown || !x.d.Down() {
		x.t.Fatal(e)
	}
}

// of is a leaf with these keys; each one's value is of its own.
func of(keys ...uint64) api.Node {
	n := api.Node{Leaf: true, Keys: keys}
	for _, key := range keys {
		n.Vals = append(n.Vals, valOf(key))
	}
	return n
}

// kids is a node with these keys, and kids at these blocks.
func kids(keys []uint64, at ...int) api.Node {
	n := api.Node{Keys: keys}
	for _, kid := range at {
		n.Vals = append(n.Vals, uint64(kid))
	}
	return n
}

// valOf is a key's value in these tests; that of the key 1 is 0.
func valOf(key uint64) uint64 { return key*7 - 7 }

// row is n numbers from first on, step apart.
func row(n int, first, step uint64) []uint64 {
	l := make([]uint64, n)
	for i := range l {
		l[i] = first + uint64(i)*step
	}
	return l
}

// parts are as many parts of a whole as sizes tells one by one; none is less than 3, nor more than 7, if there is more than one.
func parts(whole int, size func(least, most int) int) []int {
	var l []int
	for whole > 7 {
		n := size(3, min(7, whole-3))
		l, whole = append(l, n), whole-n
	}
	return append(l, whole)
}

// sub is a tree that is put beside others: its block, its first key, the greatest one below it.
type sub struct {
	at          int
	first, last uint64
}

// build puts a right tree of these keys, that rise; size tells how many a node has, between two numbers; slack tells which of some keys stands beside a kid: all these keys are above the kid ahead, and none is above the kid's first.
func (x *set) build(keys []uint64, size func(least, most int) int, slack func(from, to uint64) uint64) int {
	x.t.Helper()
	if len(keys) == 0 {
		return 0
	}
	var level []sub
	for _, n := range parts(len(keys), size) {
		level = append(level, sub{x.put(of(keys[:n]...)), keys[0], keys[n-1]})
		keys = keys[n:]
	}
	for len(level) > 1 {
		beside := make([]uint64, len(level))
		for i, s := range level {
			from := uint64(0)
			if i > 0 {
				from = level[i-1].last + 1
			}
			beside[i] = slack(from, s.first)
		}
		var over []sub
		for _, n := range parts(len(level), size) {
			k := api.Node{Keys: beside[:n]}
			for _, s := range level[:n] {
				k.Vals = append(k.Vals, uint64(s.at))
			}
			over = append(over, sub{x.put(k), beside[0], level[n-1].last})
			level, beside = level[n:], beside[n:]
		}
		level = over
	}
	return level[0].at
}

// Sizes and slacks of trees.
func few(least, _ int) int          { return least }
func many(_, most int) int          { return most }
func tight(_, to uint64) uint64     { return to }
func wide(from, _ uint64) uint64    { return from }
func middle(from, to uint64) uint64 { return from + (to-from)/2 }
func chance(rnd *rand.Rand) func(int, int) int {
	return func(least, most int) int { return least + rnd.Intn(most-least+1) }
}

// scattered tells any key of some.
func scattered(rnd *rand.Rand) func(uint64, uint64) uint64 {
	return func(from, to uint64) uint64 {
		if to-from == top {
			return rnd.Uint64()
		}
		return from + rnd.Uint64()%(to-from+1)
	}
}

// some are n keys by chance, that rise: at times near one another, at times with the least and the greatest one.
func some(rnd *rand.Rand, n int) []uint64 {
	has := map[uint64]bool{}
	for len(has) < n {
		switch rnd.Intn(8) {
		case 0:
			has[0] = true
		case 1:
			has[top] = true
		case 2, 3, 4:
			has[uint64(rnd.Intn(3*n))] = true
		case 5:
			has[top-uint64(rnd.Intn(3*n))] = true
		default:
			has[rnd.Uint64()] = true
		}
	}
	var l []uint64
	for key := range has {
		l = append(l, key)
	}
	slices.Sort(l)
	return l
}

// about are keys at which something changes, and those beside them.
func about(keys []uint64) []uint64 {
	l := []uint64{0, 1, top - 1, top, 1 << 63}
	for _, key := range keys {
		l = append(l, key-1, key, key+1)
	}
	slices.Sort(l)
	return slices.Compact(l)
}

// same tells whether two nodes are the same (R6).
func same(a, b api.Node) bool {
	return a.Leaf == b.Leaf && slices.Equal(a.Keys, b.Keys) && slices.Equal(a.Vals, b.Vals)
}

// ends holds that something ends.
func ends(t testing.TB, what string, do func()) {
	t.Helper()
	done := make(chan bool)
	go func() {
		defer close(done)
		do()
	}()
	select {
	case <-done:
	case <-time.After(30 * time.Second):
		t.Fatal(what, "has no end")
	}
}

// told is all that find tells of a root, a key and a range.
type told struct {
	node                            api.Node
	val                             uint64
	is, right                       bool
	items                           []api.Item
	high                            int
	ofNode, ofGet, ofWalk, ofHeight api.Errno
}

// tells is what all calls tell; beside an error nothing else may be told (R2).
func tells(t testing.TB, b *base.Base, root int, key, to uint64, most int) (x told) {
	t.Helper()
	x.node, x.ofNode = find.Node(b, root)
	x.val, x.is, x.ofGet = find.Get(b, root, key)
	x.items, x.ofWalk = find.Walk(b, root, key, to, most)
	x.high, x.ofHeight = find.Height(b, root)
	x.right = find.Right(b, root)
	if x.ofNode != api.OK && !same(x.node, api.Node{}) ||
		(x.ofGet != api.OK || !x.is) && (x.val != 0 || x.is) ||
		x.ofWalk != api.OK && len(x.items) != 0 || len(x.items) > max(most, 0) ||
		x.ofHeight != api.OK && x.high != 0 {
		t.Errorf("%d, %d, %d, %d: %v", root, key, to, most, x)
	}
	return x
}

// refuses holds that all calls tell one error of a root, and Right false.
func refuses(t testing.TB, b *base.Base, root int, want api.Errno) {
	t.Helper()
	if n, e := find.Node(b, root); e != want || !same(n, api.Node{}) {
		t.Errorf("Node(%d): %v %v, not %v", root, n, e, want)
	}
	refusesTree(t, b, root, want)
}

// refusesTree holds that all calls but Node tell one error of a root, and Right false.
func refusesTree(t testing.TB, b *base.Base, root int, want api.Errno) {
	t.Helper()
	for _, key := range []uint64{0, 5, top} {
		if val, is, e := find.Get(b, root, key); e != want || val != 0 || is {
			t.Errorf("Get(%d, %d): %d %v %v, not %v", root, key, val, is, e, want)
		}
		for _, most := range []int{1, math.MaxInt} {
			if l, e := find.Walk(b, root, key, top, most); e != want || len(l) != 0 {
				t.Errorf("Walk(%d, %d, .., %d): %v %v, not %v", root, key, most, l, e, want)
			}
		}
	}
	if high, e := find.Height(b, root); e != want || high != 0 {
		t.Errorf("Height(%d): %d %v, not %v", root, high, e, want)
	}
	if find.Right(b, root) {
		t.Errorf("Right(%d)", root)
	}
}

// state is all that later calls could tell of a set.
func (x *set) state() string {
	var out bytes.Buffer
	b := x.b
	fmt.Fprintln(&out, b.Gen(), b.Blocks(), b.Room(), b.Waits(), b.Broken(), x.d.Down(), x.d.Cached())
	for i := range 8 {
		fmt.Fprintln(&out, b.Root(i), b.Mark(i))
	}
	for at := range b.Blocks() {
		page, e := b.Read(at)
		fmt.Fprintln(&out, at, b.Count(at), b.Fresh(at), page, e)
	}
	c := x.d.Copy()
	c.Crash(api.Crash{Torn: -1})
	for at := range c.Len() {
		page, e := c.Read(at)
		fmt.Fprintln(&out, at, page, e)
	}
	return out.String()
}
