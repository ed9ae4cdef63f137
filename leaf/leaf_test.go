package leaf_test

import (
	"bytes"
	"encoding/binary"
	"fmt"
	"math"
	"math/rand"
	"slices"
	"testing"

	"catchment/api"
	"catchment/leaf"
	"catchment/octets"
)

// values answers a leaf.
func values(keys, vals []uint64) api.Node {
	return api.Node{Leaf: true, Keys: keys, Vals: vals}
}

// inner answers a node that has kids.
func inner(keys, kids []uint64) api.Node {
	return api.Node{Keys: keys, Vals: kids}
}

// row answers n numbers from first on, step apart.
func row(n int, first, step uint64) []uint64 {
	out := make([]uint64, n)
	for i := range out {
		out[i] = first + uint64(i)*step
	}
	return out
}

// bodyOf answers what should stand in a node's body, laid by other means than the program's.
func bodyOf(n api.Node) []byte {
	body := []byte{byte(len(n.Keys))}
	for i := range n.Keys {
		body = binary.BigEndian.AppendUint64(body, n.Keys[i])
		body = binary.BigEndian.AppendUint64(body, n.Vals[i])
	}
	return append(body, make([]byte, api.Body-len(body))...)
}

// pageOf answers the page that a node should have.
func pageOf(n api.Node) []byte {
	page := append([]byte{2}, bodyOf(n)...)
	if n.Leaf {
		page[0] = 1
	}
	return binary.BigEndian.AppendUint32(page, octets.Sum(page))
}

// seal answers a page, and must be let.
func seal(t *testing.T, kind uint8, body []byte) []byte {
	t.Helper()
	page, e := octets.Seal(kind, body)
	if e != api.OK {
		t.Fatalf("Seal(%d, %v): %v", kind, body, e)
	}
	return page
}

// encode encodes, and must be let.
func encode(t *testing.T, n api.Node) []byte {
	t.Helper()
	page, e := leaf.Encode(n)
	if e != api.OK {
		t.Fatalf("Encode(%v): %v", n, e)
	}
	return page
}

// same tells whether two nodes are the same (R6).
func same(a, b api.Node) bool {
	return a.Leaf == b.Leaf && slices.Equal(a.Keys, b.Keys) && slices.Equal(a.Vals, b.Vals)
}

// none tells whether every field of a node is zero.
func none(n api.Node) bool {
	return !n.Leaf && len(n.Keys) == 0 && len(n.Vals) == 0
}

// right is what the chapter's words say of a right node, pair by pair.
func right(n api.Node) bool {
	if len(n.Keys) > 7 || len(n.Keys) != len(n.Vals) || !n.Leaf && len(n.Keys) == 0 {
		return false
	}
	for i := range n.Keys {
		for j := range i {
			if n.Keys[j] >= n.Keys[i] || !n.Leaf && n.Vals[j] == n.Vals[i] {
				return false
			}
		}
		if !n.Leaf && (n.Vals[i] == 0 || n.Vals[i] > 4095) {
			return false
		}
	}
	return true
}

// read is what the words of P3.2 say of a page: the only node that it can be of, if its bytes are that one's.
func read(page []byte) (api.Node, bool) {
	if len(page) != 128 || page[0] < 1 || page[0] > 2 || page[1] > 7 {
		return api.Node{}, false
	}
	n := api.Node{Leaf: page[0] == 1}
	for i := range int(page[1]) {
		n.Keys = append(n.Keys, binary.BigEndian.Uint64(page[2+16*i:]))
		n.Vals = append(n.Vals, binary.BigEndian.Uint64(page[10+16*i:]))
	}
	return n, right(n) && bytes.Equal(pageOf(n), page)
}

// rights are right nodes: ordinary ones, and all that stand at an edge.
func rights() map[string]api.Node {
	return map[string]api.Node{
		"a leaf without keys":         values(nil, nil),
		"a leaf, 1 key":               values([]uint64{5}, []uint64{9}),
		"a leaf, 6 keys":              values(row(6, 1, 3), row(6, 500, 7)),
		"a leaf, 7 keys":              values(row(7, 1, 1), row(7, 1, 1)),
		"a leaf, the key 0":           values([]uint64{0}, []uint64{1}),
		"a leaf, the greatest key":    values([]uint64{math.MaxUint64}, []uint64{1}),
		"a leaf, least and greatest":  values([]uint64{0, math.MaxUint64}, []uint64{1, 2}),
		"a leaf, about the half":      values([]uint64{1<<63 - 1, 1 << 63, 1<<63 + 1}, []uint64{3, 2, 1}),
		"a leaf, values 0":            values(row(3, 1, 1), row(3, 0, 0)),
		"a leaf, a value twice":       values(row(3, 1, 1), []uint64{8, 9, 8}),
		"a leaf, values that fall":    values(row(3, 1, 1), []uint64{4096, 4095, 0}),
		"a leaf, the greatest values": values(row(7, math.MaxUint64-6, 1), row(7, math.MaxUint64, 0)),
		"a leaf, bytes all unlike":    values([]uint64{0x0102030405060708, 0x1112131415161718}, []uint64{0x2122232425262728, 0xf1f2f3f4f5f6f7f8}),
		"kids, 1 key":                 inner([]uint64{5}, []uint64{9}),
		"kids, 6 keys":                inner(row(6, 1, 3), row(6, 500, 7)),
		"kids, 7 keys":                inner(row(7, 1, 1), row(7, 1, 1)),
		"kids, the key 0":             inner([]uint64{0}, []uint64{1}),
		"kids, the greatest key":      inner([]uint64{math.MaxUint64}, []uint64{1}),
		"kids, about the half":        inner([]uint64{1<<63 - 1, 1 << 63, 1<<63 + 1}, []uint64{3, 2, 1}),
		"kids, the least place":       inner([]uint64{5}, []uint64{1}),
		"kids, the greatest place":    inner([]uint64{5}, []uint64{4095}),
		"kids, 7 greatest":            inner(row(7, math.MaxUint64-6, 1), row(7, 4089, 1)),
		"kids, places that fall":      inner([]uint64{0, 7, math.MaxUint64}, []uint64{4095, 1, 300}),
	}
}

// wrongs are nodes that are not right, each by one thing alone.
func wrongs() map[string]api.Node {
	return map[string]api.Node{
		"an inner node without keys":      {},
		"a leaf, 8 keys":                  values(row(8, 1, 1), row(8, 1, 1)),
		"a leaf, 300 keys":                values(row(300, 1, 1), row(300, 1, 1)),
		"a leaf, equal keys":              values([]uint64{5, 5}, []uint64{1, 2}),
		"a leaf, equal keys 0":            values([]uint64{0, 0}, []uint64{1, 2}),
		"a leaf, equal greatest keys":     values(row(2, math.MaxUint64, 0), row(2, 1, 1)),
		"a leaf, last keys equal":         values([]uint64{1, 2, 3, 4, 5, 6, 6}, row(7, 1, 1)),
		"a leaf, keys that fall":          values([]uint64{2, 1}, []uint64{1, 2}),
		"a leaf, the last key falls":      values([]uint64{1, 2, 3, 4, 5, 7, 6}, row(7, 1, 1)),
		"a leaf, keys fall by the top":    values([]uint64{1 << 63, 1}, []uint64{1, 2}),
		"a leaf, greatest key, then 0":    values([]uint64{math.MaxUint64, 0}, []uint64{1, 2}),
		"a leaf, 1 value more than 0":     values(nil, []uint64{1}),
		"a leaf, 1 value less than 1":     values([]uint64{1}, nil),
		"a leaf, 2 keys, 1 value":         values([]uint64{1, 2}, []uint64{1}),
		"a leaf, 2 keys, 3 values":        values([]uint64{1, 2}, []uint64{1, 2, 3}),
		"a leaf, 7 keys, 6 values":        values(row(7, 1, 1), row(6, 1, 1)),
		"a leaf, 7 keys, 8 values":        values(row(7, 1, 1), row(8, 1, 1)),
		"a leaf, 8 keys, 7 values":        values(row(8, 1, 1), row(7, 1, 1)),
		"an inner node, 8 keys":           inner(row(8, 1, 1), row(8, 1, 1)),
		"an inner node, equal keys":       inner([]uint64{5, 5}, []uint64{1, 2}),
		"an inner node, keys that fall":   inner([]uint64{2, 1}, []uint64{1, 2}),
		"an inner node, 1 kid, no key":    inner(nil, []uint64{1}),
		"an inner node, 1 key, no kid":    inner([]uint64{1}, nil),
		"an inner node, 2 keys, 1 kid":    inner([]uint64{1, 2}, []uint64{1}),
		"an inner node, 2 keys, 3 kids":   inner([]uint64{1, 2}, []uint64{1, 2, 3}),
		"an inner node, kid 0":            inner([]uint64{5}, []uint64{0}),
		"an inner node, last kid 0":       inner(row(7, 1, 1), []uint64{7, 6, 5, 4, 3, 2, 0}),
		"an inner node, kid 4096":         inner([]uint64{5}, []uint64{4096}),
		"an inner node, last kid 4096":    inner(row(7, 1, 1), row(7, 4090, 1)),
		"an inner node, kid 2^16 + 1":     inner([]uint64{5}, []uint64{1<<16 + 1}),
		"an inner node, kid 2^32 + 1":     inner([]uint64{5}, []uint64{1<<32 + 1}),
		"an inner node, kid 2^63 + 1":     inner([]uint64{5}, []uint64{1<<63 + 1}),
		"an inner node, greatest kid":     inner([]uint64{5}, []uint64{math.MaxUint64}),
		"an inner node, a kid twice":      inner([]uint64{1, 2}, []uint64{3, 3}),
		"an inner node, first kid last":   inner(row(7, 1, 1), []uint64{1, 2, 3, 4, 5, 6, 1}),
		"an inner node, second kid third": inner(row(3, 1, 1), []uint64{1, 2, 2}),
	}
}

// P3.1: right nodes are right, and have their pages.
func TestRightNodesHavePages(t *testing.T) {
	for name, n := range rights() {
		if !leaf.Right(n) {
			t.Errorf("%s: not right", name)
		}
		page, e := leaf.Encode(n)
		if e != api.OK || !bytes.Equal(page, pageOf(n)) {
			t.Errorf("%s: %v %v, not %v", name, page, e, pageOf(n))
		}
	}
}

// P3.1, R2: what is not right has no page.
func TestWrongNodesHaveNone(t *testing.T) {
	for name, n := range wrongs() {
		if leaf.Right(n) {
			t.Errorf("%s: right", name)
		}
		if page, e := leaf.Encode(n); e != api.ErrNode || len(page) != 0 {
			t.Errorf("%s: %v %v", name, page, e)
		}
	}
}

// P3.1: every kid's place, and those about the edges of narrower numbers.
func TestKids(t *testing.T) {
	for kid := range uint64(5000) {
		if got := leaf.Right(inner([]uint64{1}, []uint64{kid})); got != (kid >= 1 && kid <= 4095) {
			t.Errorf("kid %d: %v", kid, got)
		}
	}
	for shift := range 64 {
		kid := uint64(1)<<shift + 1
		if got := leaf.Right(inner([]uint64{1}, []uint64{kid})); got != (kid <= 4095) {
			t.Errorf("kid %d: %v", kid, got)
		}
	}
	for i := range 7 {
		for j := range i {
			n := inner(row(7, 1, 1), row(7, 1, 1))
			n.Vals[i] = n.Vals[j]
			if leaf.Right(n) || !leaf.Right(values(n.Keys, n.Vals)) {
				t.Errorf("kids %d and %d are the same", i, j)
			}
		}
	}
}

// P3.1: each number of keys beside each number of values.
func TestNumbersOfKeysAndValues(t *testing.T) {
	for keys := range 12 {
		for vals := range 12 {
			n := values(row(keys, 1, 1), row(vals, 1, 1))
			if got := leaf.Right(n); got != (keys == vals && keys <= 7) {
				t.Errorf("a leaf, %d keys, %d values: %v", keys, vals, got)
			}
			n.Leaf = false
			if got := leaf.Right(n); got != (keys == vals && keys >= 1 && keys <= 7) {
				t.Errorf("kids, %d keys, %d kids: %v", keys, vals, got)
			}
		}
	}
}

// P3.1: the examples' bytes, one by one.
func TestBytesOfPages(t *testing.T) {
	page := encode(t, values([]uint64{5}, []uint64{9}))
	want := make([]byte, 124)
	want[0], want[1], want[9], want[17] = 1, 1, 5, 9
	if len(page) != 128 || !bytes.Equal(page[:124], want) {
		t.Errorf("the key 5 beside 9: %v", page)
	}
	page = encode(t, values(nil, nil))
	if len(page) != 128 || page[0] != 1 || !bytes.Equal(page[1:124], make([]byte, 123)) {
		t.Errorf("a leaf without keys: %v", page)
	}
	page = encode(t, inner(row(7, 0x0102030405060700, 1), row(7, 0x101, 1)))
	for i := range 7 {
		pair := []byte{1, 2, 3, 4, 5, 6, 7, byte(i), 0, 0, 0, 0, 0, 0, 1, byte(i + 1)}
		if at := 2 + 16*i; !bytes.Equal(page[at:at+16], pair) {
			t.Errorf("pair %d: %v, not %v", i, page[at:at+16], pair)
		}
	}
	if page[0] != 2 || page[1] != 7 || !bytes.Equal(page[114:124], make([]byte, 10)) {
		t.Errorf("7 keys: %v", page)
	}
	if kind, body, e := octets.Open(page); kind != 2 || len(body) != 123 || e != api.OK {
		t.Errorf("7 keys: no page: %v", e)
	}
}

// P3.2, P3.3: what is encoded is decoded, and encoded to the same page.
func TestPagesOfNodesAreDecoded(t *testing.T) {
	for name, n := range rights() {
		got, e := leaf.Decode(pageOf(n))
		if e != api.OK || !same(got, n) {
			t.Errorf("%s: %v %v, not %v", name, got, e, n)
		}
		if page := encode(t, got); !bytes.Equal(page, pageOf(n)) {
			t.Errorf("%s: encoded again: %v", name, page)
		}
	}
}

// refused holds that a page has no node.
func refused(t *testing.T, page []byte, what ...any) {
	t.Helper()
	if n, e := leaf.Decode(page); e != api.ErrNode || !none(n) {
		t.Errorf("%s: %v %v", fmt.Sprint(what...), n, e)
	}
}

// P3.2, R2: pages that say what no right node is.
func TestPagesOfWrongNodesAreRefused(t *testing.T) {
	for name, n := range wrongs() {
		if len(n.Keys) == len(n.Vals) && len(n.Keys) <= 7 {
			refused(t, pageOf(n), name)
		}
	}
}

// P3.2: of all kinds two are nodes'; one of them has no page without keys.
func TestKinds(t *testing.T) {
	one := bodyOf(values([]uint64{5}, []uint64{9}))
	for kind := range 256 {
		page, empty := seal(t, uint8(kind), one), seal(t, uint8(kind), nil)
		switch n, e := leaf.Decode(page); {
		case kind != 1 && kind != 2:
			refused(t, page, "kind ", kind)
		case e != api.OK || n.Leaf != (kind == 1) || !slices.Equal(n.Keys, []uint64{5}) || !slices.Equal(n.Vals, []uint64{9}):
			t.Errorf("kind %d: %v %v", kind, n, e)
		}
		if kind != 1 {
			refused(t, empty, "kind ", kind, ", no keys")
		} else if n, e := leaf.Decode(empty); e != api.OK || !same(n, values(nil, nil)) {
			t.Errorf("no keys: %v %v", n, e)
		}
	}
}

// P3.2: pages of a wrong length, with what is right as far as it goes.
func TestLengths(t *testing.T) {
	refused(t, nil, "nil")
	for name, n := range rights() {
		long := append(pageOf(n), make([]byte, 200)...)
		for size := range len(long) {
			if size != 128 {
				refused(t, long[:size:size], name, ", length ", size)
			}
		}
	}
	page := pageOf(values(nil, nil))
	refused(t, append(slices.Clone(page), page...), "twice")
}

// P3.2: a sum that is wrong, whichever byte is another one.
func TestSums(t *testing.T) {
	for name, n := range rights() {
		for at := range 128 {
			for _, by := range []byte{1, 0x80, 0xff} {
				page := pageOf(n)
				page[at] ^= by
				refused(t, page, name, ", byte ", at, " by ", by)
			}
		}
	}
}

// P3.2: pages that say more keys than fit, or fewer or more than they have.
func TestNumbersOfKeysInPages(t *testing.T) {
	for kind := range uint8(3) {
		for count := range 256 {
			for _, has := range []int{0, 1, 6, 7} {
				body := bodyOf(values(row(has, 1, 1), row(has, 1, 1)))
				body[0] = byte(count)
				page := seal(t, kind, body)
				if n, ok := read(page); !ok {
					refused(t, page, "kind ", kind, ", says ", count, ", has ", has)
				} else if got, e := leaf.Decode(page); e != api.OK || !same(got, n) {
					t.Errorf("kind %d, says %d, has %d: %v %v", kind, count, has, got, e)
				}
				for i := range 10 { // as if an eighth pair began behind the seventh
					body[113+i] = 0xff
				}
				refused(t, seal(t, kind, body), "kind ", kind, ", says ", count, ", has ", has, ", and more")
			}
		}
	}
}

// P3.2: behind the last pair there are noughts alone.
func TestBytesBehindTheLastPair(t *testing.T) {
	for _, is := range []bool{true, false} {
		for keys := range 8 {
			n := api.Node{Leaf: is, Keys: row(keys, 1, 1), Vals: row(keys, 1, 1)}
			for at := 1 + 16*keys; at < 123; at++ {
				for _, b := range []byte{1, 0x80, 0xff} {
					body := bodyOf(n)
					body[at] = b
					page := seal(t, pageOf(n)[0], body)
					refused(t, page, keys, " keys, byte ", at, " is ", b)
				}
			}
		}
	}
}

// P3.1, P3.2: beside what the words say, of nodes and pages that are near to right ones.
func TestBesideTheWords(t *testing.T) {
	r := rand.New(rand.NewSource(3))
	rightOnes, pages := 0, 0
	for range 40000 {
		n := random(r)
		page, e := leaf.Encode(n)
		switch {
		case leaf.Right(n) != right(n):
			t.Fatalf("%v: right: %v", n, leaf.Right(n))
		case !right(n) && (e != api.ErrNode || len(page) != 0), right(n) && (e != api.OK || !bytes.Equal(page, pageOf(n))):
			t.Fatalf("%v: %v %v", n, page, e)
		case !right(n):
			continue
		}
		rightOnes++
		body := bodyOf(n)
		for range 1 + r.Intn(2) {
			body[r.Intn(min(123, 20+16*len(n.Keys)))] = byte(r.Intn(12))
		}
		page = seal(t, uint8(1+r.Intn(2)), body)
		want, ok := read(page)
		if !ok {
			refused(t, page, "a page that is near to one")
			continue
		}
		pages++
		if got, e := leaf.Decode(page); e != api.OK || !same(got, want) {
			t.Fatalf("%v: %v %v, not %v", page, got, e, want)
		}
	}
	if rightOnes < 1000 || pages < 1000 {
		t.Errorf("too few of %d and %d", rightOnes, pages)
	}
}

// random answers a node that is right, or wrong by little.
func random(r *rand.Rand) api.Node {
	n := api.Node{Leaf: r.Intn(2) == 0}
	key := uint64(r.Intn(3))
	for range r.Intn(9) {
		n.Keys = append(n.Keys, key)
		n.Vals = append(n.Vals, uint64(r.Intn(4100)))
		if r.Intn(4) == 0 {
			n.Vals[len(n.Vals)-1] = r.Uint64() >> r.Intn(64)
		}
		if r.Intn(30) > 0 {
			key += 1 + r.Uint64()>>(3+r.Intn(60))
		}
	}
	if r.Intn(20) == 0 && len(n.Vals) > 0 {
		n.Vals = n.Vals[1:]
	}
	return n
}

// P3.3: unlike nodes have unlike pages.
func TestUnlikeNodesHaveUnlikePages(t *testing.T) {
	met := map[string]api.Node{}
	meet := func(n api.Node) {
		page, e := leaf.Encode(n)
		if e != api.OK {
			return
		}
		if other, ok := met[string(page)]; ok {
			t.Errorf("%v and %v have one page", n, other)
		}
		met[string(page)] = n
	}
	few := []uint64{0, 1, 2, 255, 256, 4095, 1 << 32, math.MaxUint64}
	for _, is := range []bool{true, false} {
		meet(api.Node{Leaf: is})
		for _, k := range few {
			for _, v := range few {
				meet(api.Node{Leaf: is, Keys: []uint64{k}, Vals: []uint64{v}})
				for _, k2 := range few {
					for _, v2 := range few {
						meet(api.Node{Leaf: is, Keys: []uint64{k, k2}, Vals: []uint64{v, v2}})
					}
				}
			}
		}
	}
	if len(met) < 1000 {
		t.Errorf("only %d pages", len(met))
	}
}

// R3: a node that is handed in, and its spare room, stay; the page is no part of them, nor of another page.
func TestEncodeKeepsNothing(t *testing.T) {
	for _, n := range []api.Node{values([]uint64{5, 6}, []uint64{9, 9}), inner([]uint64{5, 6}, []uint64{9, 8}), values([]uint64{6, 6}, []uint64{1, 2}), inner([]uint64{5, 6}, []uint64{9})} {
		keys, vals := slices.Concat(n.Keys, row(20, 100, 1)), slices.Concat(n.Vals, row(20, 200, 1))
		spare := api.Node{Leaf: n.Leaf, Keys: keys[:len(n.Keys)], Vals: vals[:len(n.Vals)]}
		leaf.Right(spare)
		page, e := leaf.Encode(spare)
		if !slices.Equal(keys, slices.Concat(n.Keys, row(20, 100, 1))) || !slices.Equal(vals, slices.Concat(n.Vals, row(20, 200, 1))) {
			t.Errorf("%v was changed: %v %v", n, keys, vals)
		}
		if e != api.OK {
			continue
		}
		again := encode(t, spare)
		clear(keys)
		clear(vals)
		if !bytes.Equal(page, pageOf(n)) {
			t.Errorf("%v: its page is changed with it", n)
		}
		clear(page[:cap(page)])
		if !bytes.Equal(again, pageOf(n)) {
			t.Errorf("%v: its pages share memory", n)
		}
	}
}

// R3: a page that is handed in, and its spare room, stay; the node is no part of it, nor of another node, nor are its lists of one another.
func TestDecodeKeepsNothing(t *testing.T) {
	for name, n := range rights() {
		all := append(pageOf(n), row8(40)...)
		page := all[:128]
		a, e := leaf.Decode(page)
		b, f := leaf.Decode(page)
		if e != api.OK || f != api.OK || !bytes.Equal(all, append(pageOf(n), row8(40)...)) {
			t.Errorf("%s: its page was changed, or refused: %v %v", name, e, f)
		}
		clear(all)
		if !same(a, n) || !same(b, n) {
			t.Errorf("%s: the node is changed with its page", name)
		}
		fill(a.Keys)
		if !slices.Equal(a.Vals, n.Vals) || !same(b, n) {
			t.Errorf("%s: its keys share memory", name)
		}
		a, _ = leaf.Decode(pageOf(n))
		fill(a.Vals)
		if !slices.Equal(a.Keys, n.Keys) || !same(b, n) {
			t.Errorf("%s: its values share memory", name)
		}
	}
	for _, page := range [][]byte{pageOf(inner([]uint64{5}, []uint64{0})), row8(128), row8(5)} {
		was := slices.Clone(page)
		if refused(t, page, "no node's"); !bytes.Equal(page, was) {
			t.Errorf("%v was changed: %v", was, page)
		}
	}
}

// fill puts another number everywhere in a list, and in its spare room.
func fill(list []uint64) {
	list = list[:cap(list)]
	for i := range list {
		list[i] = 0xabababababababab
	}
}

// row8 answers n bytes, none of them a nought.
func row8(n int) []byte {
	out := make([]byte, n)
	for i := range out {
		out[i] = byte(i%255 + 1)
	}
	return out
}

// R6: an empty list and none are the same.
func TestEmptyListsAndNone(t *testing.T) {
	empty := []uint64{}
	for _, n := range []api.Node{values(nil, nil), values(empty, empty), values(nil, empty), values(empty, nil), values(row(3, 1, 1)[:0], row(8, 1, 1)[:0])} {
		if !leaf.Right(n) || !bytes.Equal(encode(t, n), pageOf(api.Node{Leaf: true})) {
			t.Errorf("%v: not the leaf without keys", n)
		}
		n.Leaf = false
		if page, e := leaf.Encode(n); leaf.Right(n) || e != api.ErrNode || len(page) != 0 {
			t.Errorf("%v: an inner node without keys", n)
		}
	}
	refused(t, nil, "no page")
	refused(t, []byte{}, "an empty page")
}
