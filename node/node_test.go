package node_test

import (
	"fmt"
	"math"
	"math/rand"
	"slices"
	"testing"

	"catchment/api"
	"catchment/node"
)

const top = math.MaxUint64 // the greatest key

// few are keys about the edges of numbers.
var few = []uint64{0, 1, 2, 5, 1<<63 - 1, 1 << 63, 1<<63 + 1, top - 1, top}

// of answers a node of these keys; each one's value is of its own.
func of(leaf bool, keys ...uint64) api.Node {
	n := api.Node{Leaf: leaf, Keys: keys}
	for _, key := range keys {
		n.Vals = append(n.Vals, valOf(key))
	}
	return n
}

// leaf answers a leaf of these keys, kids a node that is none.
func leaf(keys ...uint64) api.Node { return of(true, keys...) }
func kids(keys ...uint64) api.Node { return of(false, keys...) }

// valOf answers a key's value in these tests.
func valOf(key uint64) uint64 { return key*7 + 3 }

// row answers n numbers from first on, step apart.
func row(n int, first, step uint64) []uint64 {
	out := make([]uint64, n)
	for i := range out {
		out[i] = first + uint64(i)*step
	}
	return out
}

// same tells whether two nodes are the same (R6).
func same(a, b api.Node) bool {
	return a.Leaf == b.Leaf && slices.Equal(a.Keys, b.Keys) && slices.Equal(a.Vals, b.Vals)
}

// none tells whether every field of a node is zero.
func none(n api.Node) bool {
	return !n.Leaf && len(n.Keys) == 0 && len(n.Vals) == 0
}

// subsets answers all nodes of a kind that have keys of these alone, as few and as many as may be.
func subsets(leaf bool, keys []uint64) []api.Node {
	var out []api.Node
	for set := range 1 << len(keys) {
		n := of(leaf)
		for i, key := range keys {
			if set>>i&1 == 1 {
				n.Keys, n.Vals = append(n.Keys, key), append(n.Vals, valOf(key))
			}
		}
		if right(n) {
			out = append(out, n)
		}
	}
	return out
}

// all answers all nodes of both kinds that have a few keys.
func all() []api.Node {
	return append(subsets(true, few), subsets(false, few)...)
}

// wrongs are nodes that are not right, each by one thing alone.
func wrongs() map[string]api.Node {
	out := map[string]api.Node{
		"kids, no keys":                  {},
		"kids, no keys, lists":           {Keys: []uint64{}, Vals: []uint64{}},
		"kids, no key, 1 value":          {Vals: row(1, 1, 1)},
		"a leaf, no key, 1 value":        {Leaf: true, Vals: row(1, 1, 1)},
		"a leaf, no key, 7 values":       {Leaf: true, Vals: row(7, 1, 1)},
		"a leaf, 8 keys, 7 values":       {Leaf: true, Keys: row(8, 1, 1), Vals: row(7, 1, 1)},
		"a leaf, 7 keys, no values":      {Leaf: true, Keys: row(7, 1, 1)},
		"a leaf, 0 in front of the last": leaf(0, top, 1),
	}
	for _, is := range []bool{true, false} {
		kind := map[bool]string{true: "a leaf, ", false: "kids, "}[is]
		out[kind+"8 keys"] = of(is, row(8, 1, 1)...)
		out[kind+"9 keys"] = of(is, row(9, 1, 1)...)
		out[kind+"300 keys"] = of(is, row(300, 1, 1)...)
		out[kind+"equal keys"] = of(is, 5, 5)
		out[kind+"equal keys 0"] = of(is, 0, 0)
		out[kind+"equal greatest keys"] = of(is, top, top)
		out[kind+"the first keys equal"] = of(is, 1, 1, 2, 3, 4, 5, 6)
		out[kind+"the last keys equal"] = of(is, 1, 2, 3, 4, 5, 6, 6)
		out[kind+"keys that fall"] = of(is, 2, 1)
		out[kind+"the first key falls"] = of(is, 2, 1, 3, 4, 5, 6, 7)
		out[kind+"the last key falls"] = of(is, 1, 2, 3, 4, 5, 7, 6)
		out[kind+"keys that fall by the top"] = of(is, 1<<63, 1)
		out[kind+"the greatest key, then 0"] = of(is, top, 0)
		out[kind+"a key twice, apart"] = of(is, 1, 2, 1)
		for _, keys := range []int{1, 2, 6, 7} {
			for _, vals := range []int{keys - 1, keys + 1} {
				n := api.Node{Leaf: is, Keys: row(keys, 1, 1), Vals: row(vals, 1, 1)}
				out[fmt.Sprint(kind, keys, " keys, ", vals, " values")] = n
			}
		}
	}
	return out
}

// P12.1 to P12.4: the chapter's examples.
func TestExamples(t *testing.T) {
	n := api.Node{Leaf: true, Keys: []uint64{2, 5}, Vals: []uint64{20, 50}}
	inner := api.Node{Keys: []uint64{2, 5}, Vals: []uint64{20, 50}}
	for _, x := range []struct {
		n   api.Node
		key uint64
		at  int
		is  bool
	}{{n, 5, 1, true}, {n, 3, 1, false}, {n, 9, 2, false}, {inner, 4, 0, false}, {inner, 1, 0, false}, {inner, 5, 1, true}} {
		if at, is, e := node.At(x.n, x.key); at != x.at || is != x.is || e != api.OK {
			t.Errorf("At(%v, %d): %d %v %v", x.n, x.key, at, is, e)
		}
	}
	want := api.Node{Leaf: true, Keys: []uint64{2, 3, 5}, Vals: []uint64{20, 30, 50}}
	if p, was, e := node.Put(n, 3, 30); !same(p, want) || was || e != api.OK {
		t.Errorf("Put of 3, 30: %v %v %v", p, was, e)
	}
	want = api.Node{Leaf: true, Keys: []uint64{2, 5}, Vals: []uint64{20, 51}}
	if p, was, e := node.Put(n, 5, 51); !same(p, want) || !was || e != api.OK {
		t.Errorf("Put of 5, 51: %v %v %v", p, was, e)
	}
	want = api.Node{Leaf: true, Keys: []uint64{5}, Vals: []uint64{50}}
	if p, val, e := node.Take(n, 2); !same(p, want) || val != 20 || e != api.OK {
		t.Errorf("Take of 2: %v %d %v", p, val, e)
	}
	if p, val, e := node.Take(n, 4); !none(p) || val != 0 || e != api.ErrKey {
		t.Errorf("Take of 4: %v %d %v", p, val, e)
	}
	if a, b, e := node.Split(leaf(1, 2, 3)); !same(a, leaf(1, 2)) || !same(b, leaf(3)) || e != api.OK {
		t.Errorf("Split of 1 2 3: %v %v %v", a, b, e)
	}
	joins(t, leaf(1, 2), leaf(3), leaf(1, 2, 3))
	joins(t, leaf(1, 2, 3, 4, 5), leaf(6, 7, 8, 9), leaf(1, 2, 3, 4, 5), leaf(6, 7, 8, 9))
	cuts(t, leaf(1, 2, 3), 2, 9, leaf(1), valOf(2), valOf(3))
}

// joins holds that two nodes are joined to these.
func joins(t *testing.T, a, b api.Node, want ...api.Node) {
	t.Helper()
	if l, e := node.Join(a, b); e != api.OK || !slices.EqualFunc(l, want, same) {
		t.Errorf("Join(%v, %v): %v %v, not %v", a, b, l, e, want)
	}
}

// cuts holds that a leaf without the keys from one up to another one is this, and what is cut.
func cuts(t *testing.T, n api.Node, from, to uint64, want api.Node, vals ...uint64) {
	t.Helper()
	if p, l, e := node.Cut(n, from, to); e != api.OK || !same(p, want) || !slices.Equal(l, vals) {
		t.Errorf("Cut(%v, %d, %d): %v %v %v, not %v %v", n, from, to, p, l, e, want, vals)
	}
}

// splits holds that a node has these halves.
func splits(t *testing.T, n, first, second api.Node) {
	t.Helper()
	if a, b, e := node.Split(n); e != api.OK || !same(a, first) || !same(b, second) {
		t.Errorf("Split(%v): %v %v %v, not %v %v", n, a, b, e, first, second)
	}
}

// puts holds that a node with a key beside a value is this.
func puts(t *testing.T, n api.Node, key, val uint64, want api.Node, there bool) {
	t.Helper()
	if p, was, e := node.Put(n, key, val); e != api.OK || !same(p, want) || was != there {
		t.Errorf("Put(%v, %d, %d): %v %v %v, not %v %v", n, key, val, p, was, e, want, there)
	}
}

// takes holds that a node without a key is this; its value is valOf's.
func takes(t *testing.T, n api.Node, key uint64, want api.Node) {
	t.Helper()
	if p, val, e := node.Take(n, key); e != api.OK || !same(p, want) || val != valOf(key) {
		t.Errorf("Take(%v, %d): %v %d %v, not %v", n, key, p, val, e, want)
	}
}

// refusesPut, refusesTake, refusesSplit, refusesJoin and refusesCut hold that a call is refused, and tells nothing beside (R2).
func refusesPut(t *testing.T, n api.Node, key uint64, want api.Errno) {
	t.Helper()
	if p, was, e := node.Put(n, key, 77); e != want || !none(p) || was {
		t.Errorf("Put(%v, %d): %v %v %v, not %v", n, key, p, was, e, want)
	}
}

func refusesTake(t *testing.T, n api.Node, key uint64, want api.Errno) {
	t.Helper()
	if p, val, e := node.Take(n, key); e != want || !none(p) || val != 0 {
		t.Errorf("Take(%v, %d): %v %d %v, not %v", n, key, p, val, e, want)
	}
}

func refusesSplit(t *testing.T, n api.Node, want api.Errno) {
	t.Helper()
	if a, b, e := node.Split(n); e != want || !none(a) || !none(b) {
		t.Errorf("Split(%v): %v %v %v, not %v", n, a, b, e, want)
	}
}

func refusesJoin(t *testing.T, a, b api.Node) {
	t.Helper()
	if l, e := node.Join(a, b); e != api.ErrNode || len(l) != 0 {
		t.Errorf("Join(%v, %v): %v %v", a, b, l, e)
	}
}

func refusesCut(t *testing.T, n api.Node, from, to uint64) {
	t.Helper()
	if p, l, e := node.Cut(n, from, to); e != api.ErrNode || !none(p) || len(l) != 0 {
		t.Errorf("Cut(%v, %d, %d): %v %v %v", n, from, to, p, l, e)
	}
}

// P12.1: each number of keys beside each number of values.
func TestNumbersOfKeysAndValues(t *testing.T) {
	for keys := range 12 {
		for vals := range 12 {
			n := api.Node{Leaf: true, Keys: row(keys, 1, 1), Vals: row(vals, 1, 1)}
			if got := node.Right(n); got != (keys == vals && keys <= 7) {
				t.Errorf("a leaf, %d keys, %d values: %v", keys, vals, got)
			}
			n.Leaf = false
			if got := node.Right(n); got != (keys == vals && keys >= 1 && keys <= 7) {
				t.Errorf("kids, %d keys, %d values: %v", keys, vals, got)
			}
		}
	}
}

// P12.1: values are no matter: these are plain data, not blocks.
func TestAnyValues(t *testing.T) {
	for _, is := range []bool{true, false} {
		for _, val := range append(few, 4095, 4096, 1<<16, 1<<32) {
			n := api.Node{Leaf: is, Keys: row(7, 1, 1), Vals: row(7, val, 0)}
			if !node.Right(n) {
				t.Errorf("%v: not right", n)
			}
			puts(t, n, 1, val, n, true)
		}
	}
}

// P12.1: lists of few keys in any order.
func TestKeysInAnyOrder(t *testing.T) {
	for _, is := range []bool{true, false} {
		for _, a := range few {
			for _, b := range few {
				for _, c := range few {
					for _, n := range []api.Node{of(is, a, b), of(is, a, b, c), of(is, 0, a, b, c), of(is, a, b, c, top)} {
						if node.Right(n) != right(n) {
							t.Errorf("%v: %v", n, node.Right(n))
						}
					}
				}
			}
		}
	}
}

// P12.1: each two keys of a full node that change places, or are the same.
func TestTwoKeysOfAFullNode(t *testing.T) {
	for _, is := range []bool{true, false} {
		for i := range 7 {
			for j := range i {
				n := of(is, row(7, 10, 10)...)
				n.Keys[i], n.Keys[j] = n.Keys[j], n.Keys[i]
				if node.Right(n) {
					t.Errorf("%v is right", n)
				}
				n = of(is, row(7, 10, 10)...)
				n.Keys[i] = n.Keys[j]
				if node.Right(n) {
					t.Errorf("%v is right", n)
				}
			}
		}
	}
}

// P12.1 to P12.4, R2: what is not right is refused by all calls, whatever else may be asked of it.
func TestWrongNodes(t *testing.T) {
	for name, n := range wrongs() {
		if node.Right(n) || right(n) {
			t.Errorf("%s: right", name)
		}
		for _, key := range append(few, 3, 4, 6, 7, 8, 9) {
			if at, is, e := node.At(n, key); at != 0 || is || e != api.ErrNode {
				t.Errorf("%s: At(%d): %d %v %v", name, key, at, is, e)
			}
			refusesPut(t, n, key, api.ErrNode)
			refusesTake(t, n, key, api.ErrNode)
			refusesCut(t, n, key, top)
			refusesCut(t, n, key, key)
			refusesCut(t, n, top, key)
		}
		refusesSplit(t, n, api.ErrNode)
		refusesJoin(t, n, n)
		for _, other := range []api.Node{leaf(), leaf(0), leaf(1000), leaf(top), kids(0), kids(1000), kids(top)} {
			refusesJoin(t, n, other)
			refusesJoin(t, other, n)
		}
	}
}

// P12.1 to P12.4, R3: what is not right is not changed, either.
func TestWrongNodesStay(t *testing.T) {
	for name, n := range wrongs() {
		keys, vals := slices.Clone(n.Keys), slices.Clone(n.Vals)
		node.Right(n)
		node.At(n, 5)
		node.Put(n, 5, 1)
		node.Take(n, 5)
		node.Split(n)
		node.Join(n, leaf(1000))
		node.Join(leaf(0), n)
		node.Cut(n, 0, top)
		if !slices.Equal(n.Keys, keys) || !slices.Equal(n.Vals, vals) {
			t.Errorf("%s: changed to %v", name, n)
		}
	}
}

// P12.1: all numbers about the keys of a leaf, and of a node that is none.
func TestAt(t *testing.T) {
	for key, want := range map[uint64][2]int{0: {0, 0}, 1: {0, 0}, 2: {0, 0}, 3: {1, 0}, 4: {1, 0}, 5: {1, 1}, 6: {2, 1}, 8: {2, 1}, 9: {2, 2}, 10: {3, 2}, top: {3, 2}} {
		there := key == 2 || key == 5 || key == 9
		if at, is, e := node.At(leaf(2, 5, 9), key); at != want[0] || is != there || e != api.OK {
			t.Errorf("leaf: At(%d): %d %v %v", key, at, is, e)
		}
		if at, is, e := node.At(kids(2, 5, 9), key); at != want[1] || is != there || e != api.OK {
			t.Errorf("kids: At(%d): %d %v %v", key, at, is, e)
		}
	}
	if at, is, e := node.At(leaf(), 5); at != 0 || is || e != api.OK {
		t.Errorf("a leaf without keys: %d %v %v", at, is, e)
	}
	for _, key := range few {
		if at, is, e := node.At(kids(5), key); at != 0 || is != (key == 5) || e != api.OK {
			t.Errorf("one kid: At(%d): %d %v %v", key, at, is, e)
		}
	}
}

// P12.2: a new key: into an empty leaf, ahead of all, between two, behind all.
func TestPutOfANewKey(t *testing.T) {
	for _, key := range few {
		puts(t, leaf(), key, valOf(key), leaf(key), false)
	}
	for _, is := range []bool{true, false} {
		n := of(is, 10, 20, 30)
		puts(t, n, 5, valOf(5), of(is, 5, 10, 20, 30), false)
		puts(t, n, 15, valOf(15), of(is, 10, 15, 20, 30), false)
		puts(t, n, 29, valOf(29), of(is, 10, 20, 29, 30), false)
		puts(t, n, 31, valOf(31), of(is, 10, 20, 30, 31), false)
		puts(t, n, 0, valOf(0), of(is, 0, 10, 20, 30), false)
		puts(t, n, top, valOf(top), of(is, 10, 20, 30, top), false)
		puts(t, of(is, 1, 2, 3, 4, 6, 7), 5, valOf(5), of(is, 1, 2, 3, 4, 5, 6, 7), false)
		puts(t, of(is, 10), 5, 0, api.Node{Leaf: is, Keys: []uint64{5, 10}, Vals: []uint64{0, valOf(10)}}, false)
	}
}

// P12.2: a key that is there has another value then, also in a full node.
func TestPutOfAKeyThatIsThere(t *testing.T) {
	for _, is := range []bool{true, false} {
		for many := 1; many <= 7; many++ {
			for i := range many {
				n, want := of(is, row(many, 4, 3)...), of(is, row(many, 4, 3)...)
				want.Vals[i] = 1234
				puts(t, n, n.Keys[i], 1234, want, true)
				puts(t, n, n.Keys[i], n.Vals[i], n, true)
			}
		}
	}
}

// P12.2: no new key goes into a full node, wherever its place is.
func TestPutIntoAFullNode(t *testing.T) {
	for _, is := range []bool{true, false} {
		n := of(is, row(7, 10, 10)...)
		for _, key := range []uint64{0, 9, 11, 15, 35, 69, 71, top} {
			refusesPut(t, n, key, api.ErrFull)
		}
	}
}

// P12.2: each key of nodes of each length is taken; the only one of a leaf, too.
func TestTake(t *testing.T) {
	for _, is := range []bool{true, false} {
		for many := 2; many <= 7; many++ {
			for i := range many {
				keys := row(many, 4, 3)
				takes(t, of(is, keys...), keys[i], of(is, slices.Delete(slices.Clone(keys), i, i+1)...))
			}
		}
	}
	for _, key := range few {
		takes(t, leaf(key), key, leaf())
	}
	takes(t, kids(0, top), top, kids(0))
	takes(t, kids(0, top), 0, kids(top))
	n := api.Node{Leaf: true, Keys: []uint64{4}, Vals: []uint64{0}}
	if p, val, e := node.Take(n, 4); !same(p, leaf()) || val != 0 || e != api.OK {
		t.Errorf("the value 0: %v %d %v", p, val, e)
	}
}

// P12.2: keys that are not there; the only key of a node that is no leaf.
func TestTakeRefused(t *testing.T) {
	for _, key := range few {
		refusesTake(t, leaf(), key, api.ErrKey)
		refusesTake(t, kids(key), key, api.ErrLast)
	}
	for _, key := range []uint64{0, 3, 5, 7, 9, top} {
		refusesTake(t, leaf(4, 8), key, api.ErrKey)
		refusesTake(t, kids(4, 8), key, api.ErrKey)
		refusesTake(t, leaf(4), key, api.ErrKey)
		refusesTake(t, kids(4), key, api.ErrKey)
	}
}

// P12.3: nodes of each length are split.
func TestSplit(t *testing.T) {
	refusesSplit(t, leaf(), api.ErrLast)
	for _, is := range []bool{true, false} {
		refusesSplit(t, of(is, 4), api.ErrLast)
		splits(t, of(is, 1, 2), of(is, 1), of(is, 2))
		splits(t, of(is, 1, 2, 3), of(is, 1, 2), of(is, 3))
		splits(t, of(is, 1, 2, 3, 4), of(is, 1, 2), of(is, 3, 4))
		splits(t, of(is, 1, 2, 3, 4, 5), of(is, 1, 2, 3), of(is, 4, 5))
		splits(t, of(is, 1, 2, 3, 4, 5, 6), of(is, 1, 2, 3), of(is, 4, 5, 6))
		splits(t, of(is, 1, 2, 3, 4, 5, 6, 7), of(is, 1, 2, 3, 4), of(is, 5, 6, 7))
		splits(t, of(is, 0, top), of(is, 0), of(is, top))
	}
}

// P12.3: nodes of each two lengths are joined: to one as long as all keys have room.
func TestJoin(t *testing.T) {
	for _, is := range []bool{true, false} {
		for many := range 15 {
			keys := row(many, 4, 3)
			for cut := range many + 1 {
				a, b := of(is, keys[:cut]...), of(is, keys[cut:]...)
				half := (many + 1) / 2
				switch {
				case !right(a) || !right(b):
					refusesJoin(t, a, b)
				case many <= 7:
					joins(t, a, b, of(is, keys...))
				default:
					joins(t, a, b, of(is, keys[:half]...), of(is, keys[half:]...))
				}
			}
		}
		joins(t, of(is, 0), of(is, 1), of(is, 0, 1))
		joins(t, of(is, top-1), of(is, top), of(is, top-1, top))
		joins(t, of(is, 1, 2, 3, 4), of(is, 5, 6, 7), of(is, 1, 2, 3, 4, 5, 6, 7))
		joins(t, of(is, 1), of(is, 2, 3, 4, 5, 6, 7, 8), of(is, 1, 2, 3, 4), of(is, 5, 6, 7, 8))
		joins(t, of(is, row(7, 1, 1)...), of(is, row(7, 8, 1)...), of(is, row(7, 1, 1)...), of(is, row(7, 8, 1)...))
		joins(t, of(is, row(7, 1, 1)...), of(is, row(2, 8, 1)...), of(is, row(5, 1, 1)...), of(is, row(4, 6, 1)...))
	}
}

// P12.3: leaves without keys are joined with whatever leaf there is.
func TestJoinOfEmptyLeaves(t *testing.T) {
	joins(t, leaf(), leaf(), leaf())
	for _, n := range subsets(true, few) {
		joins(t, leaf(), n, n)
		joins(t, n, leaf(), n)
	}
	for _, n := range subsets(false, few[:4]) {
		refusesJoin(t, leaf(), n)
		refusesJoin(t, n, leaf())
	}
}

// P12.3: nodes of both kinds, keys that overlap, nodes the wrong way round.
func TestJoinRefused(t *testing.T) {
	refusesJoin(t, leaf(1), kids(2))
	refusesJoin(t, kids(1), leaf(2))
	for _, is := range []bool{true, false} {
		refusesJoin(t, of(is, 3), of(is, 3))
		refusesJoin(t, of(is, 0), of(is, 0))
		refusesJoin(t, of(is, top), of(is, top))
		refusesJoin(t, of(is, 3), of(is, 2))
		refusesJoin(t, of(is, top), of(is, 0))
		refusesJoin(t, of(is, 4, 5, 6), of(is, 1, 2, 3))
		refusesJoin(t, of(is, 1, 2, 3), of(is, 3, 4, 5))
		refusesJoin(t, of(is, 1, 5), of(is, 3, 7))
		refusesJoin(t, of(is, 1, 7), of(is, 3, 5))
		refusesJoin(t, of(is, 3, 5), of(is, 1, 7))
		refusesJoin(t, of(is, row(7, 1, 1)...), of(is, row(7, 7, 1)...))
		refusesJoin(t, of(is, row(7, 8, 1)...), of(is, row(7, 1, 1)...))
		refusesJoin(t, of(is, row(7, 1, 1)...), of(is, row(7, 1, 1)...))
	}
}

// P12.4: all keys are cut, none, one, some; a range ends where it says.
func TestCut(t *testing.T) {
	n := leaf(10, 20, 30, 40)
	cuts(t, n, 10, 40, leaf(), n.Vals...)
	cuts(t, n, 0, top, leaf(), n.Vals...)
	cuts(t, n, 0, 9, n)
	cuts(t, n, 41, top, n)
	cuts(t, n, 21, 29, n)
	cuts(t, n, 20, 20, leaf(10, 30, 40), valOf(20))
	cuts(t, n, 10, 10, leaf(20, 30, 40), valOf(10))
	cuts(t, n, 40, 40, leaf(10, 20, 30), valOf(40))
	cuts(t, n, 15, 15, n)
	cuts(t, n, 15, 30, leaf(10, 40), valOf(20), valOf(30))
	cuts(t, n, 20, 39, leaf(10, 40), valOf(20), valOf(30))
	cuts(t, n, 11, 40, leaf(10), valOf(20), valOf(30), valOf(40))
	cuts(t, n, 0, 39, leaf(40), valOf(10), valOf(20), valOf(30))
	cuts(t, leaf(0, 5, top), 0, 0, leaf(5, top), valOf(0))
	cuts(t, leaf(0, 5, top), top, top, leaf(0, 5), valOf(top))
	cuts(t, leaf(0, 5, top), 1, top-1, leaf(0, top), valOf(5))
	cuts(t, leaf(row(7, 1, 1)...), 0, top, leaf(), leaf(row(7, 1, 1)...).Vals...)
}

// P12.4: a range the wrong way round holds nothing, nor does a leaf without keys.
func TestCutOfNothing(t *testing.T) {
	n := leaf(0, 10, 20, 30, top)
	for _, from := range n.Keys {
		for _, to := range n.Keys {
			if from > to {
				cuts(t, n, from, to, n)
			}
			cuts(t, leaf(), from, to, leaf())
		}
	}
	cuts(t, n, 19, 11, n)
	cuts(t, n, 25, 5, n)
	cuts(t, n, 20, 19, n)
}

// P12.4: the values that are cut stand in the order of their keys, twice if they are there twice.
func TestValuesThatAreCut(t *testing.T) {
	n := api.Node{Leaf: true, Keys: row(5, 1, 1), Vals: []uint64{9, 0, 9, 3, 0}}
	cuts(t, n, 0, top, leaf(), 9, 0, 9, 3, 0)
	cuts(t, n, 2, 4, api.Node{Leaf: true, Keys: []uint64{1, 5}, Vals: []uint64{9, 0}}, 0, 9, 3)
}

// P12.4: only leaves are cut, whatever the range is.
func TestCutOfKids(t *testing.T) {
	for _, n := range subsets(false, few) {
		refusesCut(t, n, 0, top)
		refusesCut(t, n, 3, 3)
		refusesCut(t, n, top, 0)
	}
}

// P12.1, P12.2: beside what the words say, all nodes of few keys, and each key.
func TestOneNodeBesideTheWords(t *testing.T) {
	for _, n := range all() {
		x := plainOf(n)
		if !node.Right(n) {
			t.Errorf("%v: not right", n)
		}
		for _, key := range append(few, 3, 6, 1<<62, 3<<62) {
			wantAt, wantIs := x.at(key)
			if at, is, e := node.At(n, key); at != wantAt || is != wantIs || e != api.OK {
				t.Errorf("At(%v, %d): %d %v %v, not %d %v", n, key, at, is, e, wantAt, wantIs)
			}
			p, was, e := node.Put(n, key, 99)
			if q, wasWant, f := x.put(key, 99); !same(p, q) || was != wasWant || e != f {
				t.Errorf("Put(%v, %d): %v %v %v, not %v %v %v", n, key, p, was, e, q, wasWant, f)
			}
			p, val, e := node.Take(n, key)
			if q, want, f := x.take(key); !same(p, q) || val != want || e != f {
				t.Errorf("Take(%v, %d): %v %d %v, not %v %d %v", n, key, p, val, e, q, want, f)
			}
		}
		a, b, e := node.Split(n)
		if c, d, f := x.split(); !same(a, c) || !same(b, d) || e != f {
			t.Errorf("Split(%v): %v %v %v, not %v %v %v", n, a, b, e, c, d, f)
		}
	}
}

// P12.4: beside what the words say, all nodes of few keys, and each range.
func TestCutBesideTheWords(t *testing.T) {
	ends := append(few, 3, 1<<62)
	for _, n := range all() {
		x := plainOf(n)
		for _, from := range ends {
			for _, to := range ends {
				p, l, e := node.Cut(n, from, to)
				if q, vals, f := x.cut(from, to); !same(p, q) || !slices.Equal(l, vals) || e != f {
					t.Fatalf("Cut(%v, %d, %d): %v %v %v, not %v %v %v", n, from, to, p, l, e, q, vals, f)
				}
			}
		}
	}
}

// P12.3: beside what the words say, each two nodes of few keys.
func TestJoinBesideTheWords(t *testing.T) {
	keys := []uint64{0, 1, 5, 1 << 63, top - 1, top}
	nodes := append(subsets(true, keys), subsets(false, keys)...)
	for _, a := range nodes {
		x := plainOf(a)
		for _, b := range nodes {
			l, e := node.Join(a, b)
			if want, f := x.join(plainOf(b)); !slices.EqualFunc(l, want, same) || e != f {
				t.Fatalf("Join(%v, %v): %v %v, not %v %v", a, b, l, e, want, f)
			}
		}
	}
}

// P12.1 to P12.4: beside what the words say, nodes that are right, or wrong by little.
func TestBesideTheWords(t *testing.T) {
	r := rand.New(rand.NewSource(12))
	rights, joined, wrong := 0, 0, 0
	for range 60000 {
		n, m := random(r, 0), random(r, 0)
		if len(n.Keys) > 0 && r.Intn(4) > 0 {
			m = random(r, n.Keys[len(n.Keys)-1]) // so that they may often be joined
		}
		if node.Right(n) != right(n) {
			t.Fatalf("%v: right: %v", n, node.Right(n))
		}
		l, e := node.Join(n, m)
		want, f := []api.Node(nil), api.ErrNode
		if right(n) && right(m) {
			want, f = plainOf(n).join(plainOf(m))
		}
		if !slices.EqualFunc(l, want, same) || e != f {
			t.Fatalf("Join(%v, %v): %v %v, not %v %v", n, m, l, e, want, f)
		}
		joined += len(l) / 2
		if !right(n) {
			wrong++
			refusesSplit(t, n, api.ErrNode)
			continue
		}
		rights++
		a, b, e := node.Split(n)
		if c, d, f := plainOf(n).split(); !same(a, c) || !same(b, d) || e != f {
			t.Fatalf("Split(%v): %v %v %v, not %v %v %v", n, a, b, e, c, d, f)
		}
	}
	if rights < 10000 || joined < 1000 || wrong < 1000 {
		t.Errorf("too few: %d right, %d joined to two, %d wrong", rights, joined, wrong)
	}
}

// random answers a node whose keys are from first on, that is right, or wrong by little.
func random(r *rand.Rand, first uint64) api.Node {
	n := api.Node{Leaf: r.Intn(2) == 0}
	key := first + uint64(r.Intn(4))
	for range r.Intn(9) {
		n.Keys, n.Vals = append(n.Keys, key), append(n.Vals, r.Uint64())
		if r.Intn(30) > 0 {
			key += 1 + r.Uint64()>>(4+r.Intn(60))
		}
	}
	if r.Intn(20) == 0 && len(n.Vals) > 0 {
		n.Vals = n.Vals[1:]
	}
	return n
}

// P12.5: what is put is found, what is taken is not, all others keep their values; a walk beside a map.
func TestWhatIsPutIsFound(t *testing.T) {
	r := rand.New(rand.NewSource(5))
	for _, is := range []bool{true, false} {
		n, has := of(is, 50), map[uint64]uint64{50: valOf(50)}
		for range 20000 {
			key, val := uint64(r.Intn(12))*10, r.Uint64()
			if r.Intn(2) == 0 {
				p, was, e := node.Put(n, key, val)
				if _, there := has[key]; e == api.OK && was != there || e == api.ErrFull && (there || len(has) != 7) || e != api.OK && e != api.ErrFull {
					t.Fatalf("Put(%v, %d): %v %v", n, key, was, e)
				}
				if e == api.OK {
					n, has[key] = p, val
				}
			} else {
				p, got, e := node.Take(n, key)
				if val, there := has[key]; e == api.OK && (!there || got != val) || e == api.ErrKey && there || e == api.ErrLast && (is || len(has) != 1) {
					t.Fatalf("Take(%v, %d): %d %v", n, key, got, e)
				}
				if e == api.OK {
					n = p
					delete(has, key)
				}
			}
			holds(t, n, is, has)
		}
	}
}

// holds holds that a node is right, of this kind, and has these keys with their values alone.
func holds(t *testing.T, n api.Node, is bool, has map[uint64]uint64) {
	t.Helper()
	if !right(n) || !node.Right(n) || n.Leaf != is || len(n.Keys) != len(has) {
		t.Fatalf("%v: not what it should be: %v", n, has)
	}
	for key, val := range has {
		if at, there, e := node.At(n, key); e != api.OK || !there || n.Keys[at] != key || n.Vals[at] != val {
			t.Fatalf("At(%v, %d): %d %v %v", n, key, at, there, e)
		}
	}
}

// P12.5: halves that are joined are the node again; what is joined to two, and split behind it, has its halves.
func TestSplitAndJoin(t *testing.T) {
	for _, n := range all() {
		a, b, e := node.Split(n)
		if e != api.OK {
			continue
		}
		if !node.Right(a) || !node.Right(b) || a.Leaf != n.Leaf || b.Leaf != n.Leaf {
			t.Errorf("Split(%v): %v %v: not right", n, a, b)
		}
		joins(t, a, b, n)
	}
	for _, is := range []bool{true, false} {
		for x := 1; x <= 7; x++ {
			for y := 8 - x; y <= 7; y++ {
				l, e := node.Join(of(is, row(x, 1, 1)...), of(is, row(y, uint64(x)+1, 1)...))
				if e != api.OK || len(l) != 2 {
					t.Fatalf("%d and %d keys: %v %v", x, y, l, e)
				}
				joins(t, l[0], l[1], l[0], l[1]) // the middle is where it was
			}
		}
	}
}

// given is a node with spare room behind both lists, all of which is told again by stays.
type given struct {
	n          api.Node
	keys, vals []uint64
}

// give answers a copy of a node, with room.
func give(n api.Node) given {
	keys, vals := slices.Concat(n.Keys, row(20, 1000, 1)), slices.Concat(n.Vals, row(20, 2000, 1))
	return given{api.Node{Leaf: n.Leaf, Keys: keys[:len(n.Keys)], Vals: vals[:len(n.Vals)]}, keys, vals}
}

// stays holds that a node was not changed, nor its room.
func (g given) stays(t *testing.T, was api.Node, what string) {
	t.Helper()
	if !slices.Equal(g.keys, slices.Concat(was.Keys, row(20, 1000, 1))) || !slices.Equal(g.vals, slices.Concat(was.Vals, row(20, 2000, 1))) {
		t.Errorf("%s of %v: changed: %v %v", what, was, g.keys, g.vals)
	}
}

// fill puts another number everywhere in a list, and in its spare room.
func fill(list []uint64) {
	list = list[:cap(list)]
	for i := range list {
		list[i] = 0xabababababababab
	}
}

// lists answers the lists of nodes.
func lists(nodes ...api.Node) [][]uint64 {
	var out [][]uint64
	for _, n := range nodes {
		out = append(out, n.Keys, n.Vals)
	}
	return out
}

// calls are all calls that tell lists, each one answering all that it told.
func calls() map[string]func(a, b api.Node) [][]uint64 {
	return map[string]func(a, b api.Node) [][]uint64{
		"Put there":   func(a, _ api.Node) [][]uint64 { n, _, _ := node.Put(a, 20, 1); return lists(n) },
		"Put between": func(a, _ api.Node) [][]uint64 { n, _, _ := node.Put(a, 15, 1); return lists(n) },
		"Put ahead":   func(a, _ api.Node) [][]uint64 { n, _, _ := node.Put(a, 5, 1); return lists(n) },
		"Put behind":  func(a, _ api.Node) [][]uint64 { n, _, _ := node.Put(a, 999, 1); return lists(n) },
		"Take first":  func(a, _ api.Node) [][]uint64 { n, _, _ := node.Take(a, 10); return lists(n) },
		"Take second": func(a, _ api.Node) [][]uint64 { n, _, _ := node.Take(a, 20); return lists(n) },
		"Split":       func(a, _ api.Node) [][]uint64 { n, m, _ := node.Split(a); return lists(n, m) },
		"Join":        func(a, b api.Node) [][]uint64 { l, _ := node.Join(a, b); return lists(l...) },
		"Cut all":     func(a, _ api.Node) [][]uint64 { n, l, _ := node.Cut(a, 0, top); return append(lists(n), l) },
		"Cut none":    func(a, _ api.Node) [][]uint64 { n, l, _ := node.Cut(a, 9, 1); return append(lists(n), l) },
		"Cut first":   func(a, _ api.Node) [][]uint64 { n, l, _ := node.Cut(a, 0, 10); return append(lists(n), l) },
		"Cut some":    func(a, _ api.Node) [][]uint64 { n, l, _ := node.Cut(a, 20, 30); return append(lists(n), l) },
		"Cut last":    func(a, _ api.Node) [][]uint64 { n, l, _ := node.Cut(a, 70, 70); return append(lists(n), l) },
	}
}

// couples are nodes that calls are tried on, and such as may be joined behind them.
func couples() [][2]api.Node {
	var out [][2]api.Node
	for _, is := range []bool{true, false} {
		for x := range 8 {
			for y := range 8 {
				out = append(out, [2]api.Node{of(is, row(x, 10, 10)...), of(is, row(y, 100, 10)...)})
			}
		}
	}
	return out
}

// P12.5, R3: what is handed in is not changed, nor its spare room.
func TestWhatIsHandedInStays(t *testing.T) {
	for name, call := range calls() {
		for _, x := range couples() {
			a, b := give(x[0]), give(x[1])
			node.Right(a.n)
			node.At(a.n, 20)
			call(a.n, b.n)
			a.stays(t, x[0], name)
			b.stays(t, x[1], name)
		}
	}
}

// P12.5, R3: what is told is no part of what was handed in, nor of what another call told; and no two lists of it share memory.
func TestWhatIsToldIsNew(t *testing.T) {
	for name, call := range calls() {
		for _, x := range couples() {
			a, b := give(x[0]), give(x[1])
			want, other := copies(call(a.n, b.n)), call(a.n, b.n)
			for i := range want {
				got := call(a.n, b.n)
				fill(got[i])
				got[i] = want[i]
				if !equal(got, want) || !equal(other, want) {
					t.Errorf("%s of %v: list %d shares memory", name, x, i)
				}
				a.stays(t, x[0], name)
				b.stays(t, x[1], name)
			}
			for _, list := range [][]uint64{a.keys, a.vals, b.keys, b.vals} {
				fill(list)
			}
			if !equal(other, want) {
				t.Errorf("%s of %v: changed with what was handed in", name, x)
			}
		}
	}
}

// copies answers copies of lists.
func copies(l [][]uint64) [][]uint64 {
	out := make([][]uint64, len(l))
	for i := range l {
		out[i] = slices.Clone(l[i])
	}
	return out
}

// equal tells whether lists of numbers are the same.
func equal(a, b [][]uint64) bool {
	return slices.EqualFunc(a, b, slices.Equal[[]uint64])
}

// R3: keys and values that are one list, and two nodes that are, are handed in as any others.
func TestListsInOneMemory(t *testing.T) {
	keys := row(7, 10, 10)
	one := api.Node{Leaf: true, Keys: keys, Vals: keys}
	if p, was, e := node.Put(one, 20, 1); e != api.OK || !was || !slices.Equal(p.Keys, row(7, 10, 10)) || p.Vals[1] != 1 {
		t.Errorf("Put: %v %v %v", p, was, e)
	}
	if p, val, e := node.Take(one, 20); e != api.OK || val != 20 || !slices.Equal(p.Keys, p.Vals) || len(p.Keys) != 6 {
		t.Errorf("Take: %v %d %v", p, val, e)
	}
	a, b := api.Node{Leaf: true, Keys: keys[:3], Vals: keys[:3]}, api.Node{Leaf: true, Keys: keys[3:], Vals: keys[3:]}
	joins(t, a, b, one)
	refusesJoin(t, one, one)
	if !slices.Equal(keys, row(7, 10, 10)) {
		t.Errorf("changed: %v", keys)
	}
}

// R6: an empty list and none are the same.
func TestEmptyListsAndNone(t *testing.T) {
	empty := []uint64{}
	for _, n := range []api.Node{leaf(), {Leaf: true, Keys: empty, Vals: empty}, {Leaf: true, Vals: empty}, {Leaf: true, Keys: empty}, give(leaf()).n} {
		if !node.Right(n) {
			t.Errorf("%v: not right", n)
		}
		puts(t, n, 5, valOf(5), leaf(5), false)
		refusesTake(t, n, 5, api.ErrKey)
		refusesSplit(t, n, api.ErrLast)
		joins(t, n, leaf(5), leaf(5))
		joins(t, leaf(5), n, leaf(5))
		joins(t, n, n, leaf())
		cuts(t, n, 0, top, leaf())
		n.Leaf = false
		if node.Right(n) {
			t.Errorf("%v: right", n)
		}
		refusesJoin(t, n, kids(5))
		refusesJoin(t, kids(5), n)
	}
}
