package share_test

import (
	"bytes"
	"fmt"
	"math"
	"slices"
	"strings"
	"testing"

	"catchment/api"
	"catchment/base"
	"catchment/disk"
	"catchment/find"
	"catchment/index"
	"catchment/own"
	"catchment/share"
	"catchment/tree"
)

// plant is a tree as the words have it, whatever blocks its nodes stand in; nil has no keys. It is never changed: what is done to it makes another one.
type plant struct {
	keys, vals []uint64 // vals: of a leaf
	kids       []*plant // of what is no leaf
}

func (p *plant) leaf() bool { return p.kids == nil }

// way is which kid a key leads to.
func (p *plant) way(key uint64) int {
	i := 0
	for j, k := range p.keys {
		if k <= key {
			i = j
		}
	}
	return i
}

// put is the plant in which a key has a value.
func (p *plant) put(key, val uint64) *plant {
	if p == nil {
		return &plant{keys: []uint64{key}, vals: []uint64{val}}
	}
	l := p.grown(key, val)
	if len(l) == 1 {
		return l[0]
	}
	return &plant{keys: []uint64{l[0].keys[0], l[1].keys[0]}, kids: l}
}

// grown is what a node comes to when a key is put below it.
func (p *plant) grown(key, val uint64) []*plant {
	n := &plant{keys: slices.Clone(p.keys)}
	if p.leaf() {
		n.vals = slices.Clone(p.vals)
		at := 0
		for at < len(n.keys) && n.keys[at] < key {
			at++
		}
		if at < len(n.keys) && n.keys[at] == key {
			n.vals[at] = val
			return []*plant{n}
		}
		n.keys, n.vals = slices.Insert(n.keys, at, key), slices.Insert(n.vals, at, val)
		return n.halves()
	}
	i := p.way(key)
	l := p.kids[i].grown(key, val)
	if n.keys[i] > key {
		n.keys[i] = key
	}
	n.kids = slices.Replace(slices.Clone(p.kids), i, i+1, l...)
	if len(l) == 2 {
		n.keys = slices.Insert(n.keys, i+1, l[1].keys[0])
	}
	return n.halves()
}

// halves are both halves of what has more than seven keys, the first one the greater one.
func (p *plant) halves() []*plant {
	if len(p.keys) <= 7 {
		return []*plant{p}
	}
	half := (len(p.keys) + 1) / 2
	if p.leaf() {
		return []*plant{{keys: p.keys[:half:half], vals: p.vals[:half:half]}, {keys: p.keys[half:], vals: p.vals[half:]}}
	}
	return []*plant{{keys: p.keys[:half:half], kids: p.kids[:half:half]}, {keys: p.keys[half:], kids: p.kids[half:]}}
}

// take is the plant without a key, which it has.
func (p *plant) take(key uint64) *plant {
	n := p.less(key)
	switch {
	case len(n.keys) == 0:
		return nil
	case !n.leaf() && len(n.kids) == 1:
		return n.kids[0]
	}
	return n
}

// less is what a node comes to when a key is taken below it.
func (p *plant) less(key uint64) *plant {
	n := &plant{keys: slices.Clone(p.keys)}
	if p.leaf() {
		i := slices.Index(n.keys, key)
		n.keys, n.vals = slices.Delete(n.keys, i, i+1), slices.Delete(slices.Clone(p.vals), i, i+1)
		return n
	}
	i := p.way(key)
	n.kids = slices.Clone(p.kids)
	n.kids[i] = n.kids[i].less(key)
	if len(n.kids[i].keys) >= 3 {
		return n
	}
	one := max(i-1, 0)
	a, b := n.kids[one], n.kids[one+1]
	both := &plant{keys: slices.Concat(a.keys, b.keys)}
	if a.leaf() {
		both.vals = slices.Concat(a.vals, b.vals)
	} else {
		both.kids = slices.Concat(a.kids, b.kids)
	}
	l := both.halves()
	n.kids = slices.Replace(n.kids, one, one+2, l...)
	if len(l) == 2 {
		n.keys[one+1] = l[1].keys[0]
	} else {
		n.keys = slices.Delete(n.keys, one+1, one+2)
	}
	return n
}

// items are all its keys, with their values.
func (p *plant) items() []api.Item {
	if p == nil {
		return nil
	}
	var l []api.Item
	if !p.leaf() {
		for _, kid := range p.kids {
			l = append(l, kid.items()...)
		}
		return l
	}
	for i, key := range p.keys {
		l = append(l, api.Item{Key: key, Val: p.vals[i]})
	}
	return l
}

// get is what a key has.
func (p *plant) get(key uint64) (uint64, bool) {
	for _, x := range p.items() {
		if x.Key == key {
			return x.Val, true
		}
	}
	return 0, false
}

// high is how many levels it has.
func (p *plant) high() int {
	switch {
	case p == nil:
		return 0
	case p.leaf():
		return 1
	}
	return p.kids[0].high() + 1
}

// form tells how many keys each leaf has, and which of them are below one node: ((3 4 3) (7 7 7)).
func (p *plant) form() string {
	switch {
	case p == nil:
		return "none"
	case p.leaf():
		return fmt.Sprint(len(p.keys))
	}
	var l []string
	for _, kid := range p.kids {
		l = append(l, kid.form())
	}
	return "(" + strings.Join(l, " ") + ")"
}

// formed is the plant that a form tells, with the keys 10, 20, .. and values that are 0. Each node that is no leaf has the least of them that may stand beside its kids.
func formed(form string) *plant {
	next := uint64(0)
	p, _ := grownFrom(strings.ReplaceAll(form, " ", ""), &next)
	return p
}

func grownFrom(form string, next *uint64) (*plant, string) {
	p := &plant{}
	if form[0] != '(' {
		for range form[0] - '0' {
			*next += 10
			p.keys, p.vals = append(p.keys, *next), append(p.vals, 0)
		}
		return p, form[1:]
	}
	form = form[1:]
	for form[0] != ')' {
		var kid *plant
		kid, form = grownFrom(form, next)
		p.kids, p.keys = append(p.kids, kid), append(p.keys, kid.keys[0])
	}
	return p, form[1:]
}

// root is a reference that one has to a tree, and what that has.
type root struct {
	at  int
	has *plant
}

// set is a base, its disk, and what one has of it: trees and data, to each of which one refers once.
type set struct {
	t     testing.TB
	d     *disk.Disk
	b     *base.Base
	trees []*root
	data  []int
}

// start makes a set of a disk that was just formatted.
func start(t testing.TB, blocks int) *set {
	t.Helper()
	d, e := disk.New(blocks)
	if no := base.Format(d); e != api.OK || no != api.OK {
		t.Fatal(e, no)
	}
	x := &set{t: t, d: d}
	x.again()
	return x
}

// again opens the disk anew.
func (x *set) again() {
	x.t.Helper()
	b, e := base.Open(x.d)
	x.is("Open", e, api.OK)
	x.b = b
}

// is holds an error against what it should be.
func (x *set) is(what string, e, want api.Errno) {
	x.t.Helper()
	if e != want {
		x.t.Fatalf("%s: %v, not %v", what, e, want)
	}
}

// mixed is a block of bytes that are no page's.
func mixed(seed int) []byte {
	b := make([]byte, 128)
	for i := range b {
		b[i] = byte((i+seed)%200 + 50)
	}
	return b
}

// some puts n blocks of data, to which one refers.
func (x *set) some(n int) []int {
	x.t.Helper()
	var l []int
	for i := range n {
		at, e := x.b.Put(mixed(i))
		x.is("base.Put", e, api.OK)
		l = append(l, at)
	}
	x.data = append(x.data, l...)
	return l
}

// fill puts data till so much room is left.
func (x *set) fill(room int) {
	x.t.Helper()
	x.some(x.b.Room() - room)
	if x.b.Room() != room {
		x.t.Fatal("Room", x.b.Room())
	}
}

// put puts a node.
func (x *set) put(n api.Node) int {
	x.t.Helper()
	at, e := own.Put(x.b, n)
	x.is("own.Put", e, api.OK)
	return at
}

// refers tells whether a value refers to data that one has.
func (x *set) refers(val uint64) bool {
	return val < math.MaxInt32 && slices.Contains(x.data, int(val))
}

// up lets blocks be referred to once more each.
func (x *set) up(l ...int) {
	x.t.Helper()
	for _, at := range l {
		x.is(fmt.Sprint("base.Up of ", at), x.b.Up(at), api.OK)
	}
}

// upTo lets a block be referred to so often.
func (x *set) upTo(at, n int) {
	x.t.Helper()
	for x.b.Count(at) < n {
		x.up(at)
	}
}

// lay puts a plant, node by node; what its values refer to goes up.
func (x *set) lay(p *plant) int {
	x.t.Helper()
	if p == nil {
		return 0
	}
	n := api.Node{Leaf: p.leaf(), Keys: p.keys, Vals: p.vals}
	for _, val := range p.vals {
		if x.refers(val) {
			x.up(int(val))
		}
	}
	for _, kid := range p.kids {
		n.Vals = append(n.Vals, uint64(x.lay(kid)))
	}
	return x.put(n)
}

// plant lays a plant, and has it as one of one's trees.
func (x *set) plant(p *plant) *root {
	x.t.Helper()
	r := &root{x.lay(p), p}
	x.trees = append(x.trees, r)
	return r
}

// planted lays what a form tells; each value is a block of data.
func (x *set) planted(form string) *root {
	x.t.Helper()
	p := formed(form)
	x.valued(p, x.some(3))
	return x.plant(p)
}

// valued lets each value of a plant be one of these blocks.
func (x *set) valued(p *plant, data []int) {
	for i := range p.vals {
		p.vals[i] = uint64(data[int(p.keys[i])/10%len(data)])
	}
	for _, kid := range p.kids {
		x.valued(kid, data)
	}
}

// share has one tree more that is as one is.
func (x *set) share(r *root) *root {
	x.t.Helper()
	if r.at != 0 {
		x.up(r.at)
	}
	other := &root{r.at, r.has}
	x.trees = append(x.trees, other)
	return other
}

// node is the block at which a node of a tree stands, told by which kid it is, and so on from the root down.
func (x *set) node(r *root, way ...int) int {
	x.t.Helper()
	at := r.at
	for _, i := range way {
		n, e := find.Node(x.b, at)
		x.is("Node", e, api.OK)
		at = int(n.Vals[i])
	}
	return at
}

// commit lets all that was done stand on the disk.
func (x *set) commit() {
	x.t.Helper()
	x.is("Commit", x.b.Commit(), api.OK)
}

// reads holds the nodes of a tree against a plant.
func (x *set) reads(at int, p *plant) {
	x.t.Helper()
	if p == nil {
		if at != 0 {
			x.t.Fatal("the root is", at, "of a tree without keys")
		}
		return
	}
	n, e := find.Node(x.b, at)
	if e != api.OK || n.Leaf != p.leaf() || !slices.Equal(n.Keys, p.keys) || n.Leaf && !slices.Equal(n.Vals, p.vals) {
		x.t.Fatalf("Node(%d): %v %v, not %v %v", at, n, e, p.keys, p.vals)
	}
	for i, kid := range p.kids {
		x.reads(int(n.Vals[i]), kid)
	}
}

// pages are the blocks of count pages and directory pages.
func (x *set) pages() []int {
	x.t.Helper()
	var pages []int
	for i := range 2 {
		dir := x.b.Root(i)
		if dir == 0 {
			continue
		}
		data, e := x.d.Read(dir)
		x.is("Read", e, api.OK)
		l, e := index.Decode(api.PageDir, data)
		x.is("Decode", e, api.OK)
		pages = append(pages, dir)
		for _, at := range l {
			pages = append(pages, int(at))
		}
	}
	return pages
}

// recount holds each block's count against how many references there are to it: from what one has, and from each node that some root leads to.
func (x *set) recount() {
	x.t.Helper()
	want := make([]int, x.b.Blocks())
	var todo []int
	for _, r := range x.trees {
		if r.at != 0 {
			want[r.at]++
			todo = append(todo, r.at)
		}
	}
	for _, at := range slices.Concat(x.data, x.pages()) {
		want[at]++
	}
	for met := map[int]bool{}; len(todo) > 0; todo = todo[1:] {
		if met[todo[0]] {
			continue
		}
		met[todo[0]] = true
		n, e := find.Node(x.b, todo[0])
		x.is("Node", e, api.OK)
		for _, val := range n.Vals {
			if n.Leaf && !x.refers(val) {
				continue
			}
			want[val]++
			if !n.Leaf {
				todo = append(todo, int(val))
			}
		}
	}
	for at := range want {
		if n := x.b.Count(at); n != want[at] {
			x.t.Fatalf("Count(%d): %d, not %d", at, n, want[at])
		}
	}
}

// holds holds all that one has: each tree is right, and has what it has; counts are references.
func (x *set) holds() {
	x.t.Helper()
	x.recount()
	for _, r := range x.trees {
		x.reads(r.at, r.has)
		if !find.Right(x.b, r.at) {
			x.t.Fatal("a tree is not right any more:", r.has.form())
		}
		if l, e := find.Walk(x.b, r.at, 0, math.MaxUint64, math.MaxInt); e != api.OK || !slices.Equal(l, r.has.items()) {
			x.t.Fatal("Walk:", l, e, r.has.items())
		}
	}
}

// puts puts a key. What val refers to goes up ahead, what the key had goes down behind.
func (x *set) puts(r *root, key, val uint64) {
	x.t.Helper()
	if x.refers(val) {
		x.up(int(val))
	}
	at, old, _, e := tree.Put(x.b, r.at, key, val)
	x.is("Put", e, api.OK)
	x.back(old)
	r.at, r.has = at, r.has.put(key, val)
}

// takes takes a key that is there.
func (x *set) takes(r *root, key uint64) {
	x.t.Helper()
	at, old, e := tree.Take(x.b, r.at, key)
	x.is("Take", e, api.OK)
	x.back(old)
	r.at, r.has = at, r.has.take(key)
}

// back lets go what was handed back.
func (x *set) back(val uint64) {
	x.t.Helper()
	if x.refers(val) {
		x.is("Let", own.Let(x.b)(val), api.OK)
	}
}

// copies has one tree more that is as one is.
func (x *set) copies(r *root) *root {
	x.t.Helper()
	count := x.b.Count(r.at)
	at, e := share.Copy(x.b, r.at)
	if e != api.OK || at != r.at || at != 0 && x.b.Count(at) != count+1 {
		x.t.Fatalf("Copy of %d: %d %v, counted %d", r.at, at, e, x.b.Count(at))
	}
	other := &root{at, r.has}
	x.trees = append(x.trees, other)
	return other
}

// within are the items of a plant from a key to another one; and the plant without them.
func (p *plant) within(from, to uint64) ([]api.Item, *plant) {
	var l []api.Item
	less := p
	for _, item := range p.items() {
		if item.Key >= from && item.Key <= to {
			l, less = append(l, item), less.take(item.Key)
		}
	}
	return l, less
}

// cuts cuts a range, and holds what is told, which values are let go, and what is left.
func (x *set) cuts(r *root, from, to uint64) {
	x.t.Helper()
	l, less := r.has.within(from, to)
	var want, got []uint64
	for _, item := range l {
		if item.Val != 0 {
			want = append(want, item.Val)
		}
	}
	let := own.Let(x.b)
	at, many, e := share.Cut(x.b, r.at, from, to, func(val uint64) api.Errno {
		got = append(got, val)
		return let(val)
	})
	if e != api.OK || many != len(l) || !slices.Equal(got, want) {
		x.t.Fatalf("Cut from %d to %d: %d %v, not %d; %v, not %v", from, to, many, e, len(l), got, want)
	}
	r.at, r.has = at, less
}

// differ is in which keys two plants differ.
func differ(p, q *plant) []uint64 {
	one, two := p.items(), q.items()
	var l []uint64
	for i, x := range slices.Concat(one, two) {
		other := two
		if i >= len(one) {
			other = one
		}
		if !slices.Contains(other, x) {
			l = append(l, x.Key)
		}
	}
	slices.Sort(l)
	return slices.Compact(l)
}

// differs holds in which keys two trees differ.
func (x *set) differs(r, s *root) {
	x.t.Helper()
	want := differ(r.has, s.has)
	for _, c := range [][2]int{{r.at, s.at}, {s.at, r.at}} {
		if l, e := share.Diff(x.b, c[0], c[1]); e != api.OK || !slices.Equal(l, want) {
			x.t.Fatalf("Diff of %d and %d: %v %v, not %v", c[0], c[1], l, e, want)
		}
	}
}

// nodes notes the blocks of all nodes of a tree.
func (x *set) nodes(at int, met map[int]bool) {
	x.t.Helper()
	if at == 0 || met[at] {
		return
	}
	met[at] = true
	n, e := find.Node(x.b, at)
	x.is("Node", e, api.OK)
	for _, kid := range n.Vals {
		if !n.Leaf {
			x.nodes(int(kid), met)
		}
	}
}

// stands holds at which blocks the nodes of some trees stand, and tells how many these are.
func (x *set) stands(l ...*root) int {
	x.t.Helper()
	met := map[int]bool{}
	var roots, want []int
	for _, r := range l {
		roots = append(roots, r.at)
		x.nodes(r.at, met)
	}
	for at := range x.b.Blocks() {
		if met[at] {
			want = append(want, at)
		}
	}
	if got, e := share.Blocks(x.b, roots); e != api.OK || !slices.Equal(got, want) {
		x.t.Fatalf("Blocks of %v: %v %v, not %v", roots, got, e, want)
	}
	return len(want)
}

// all holds all that one has, and what is told of it as a whole: in which keys each two trees differ, where the nodes of one, of some, of all trees stand.
func (x *set) all() {
	x.t.Helper()
	x.holds()
	for i, r := range x.trees {
		x.stands(r)
		x.stands(x.trees[:i]...)
		for _, s := range x.trees[:i+1] {
			x.differs(r, s)
		}
	}
	x.stands(x.trees...)
}

// state is all that later calls could tell of a base and its disk: also which blocks are handed out next, if last is set; the base can't be used any more then.
func (x *set) state(last bool) string {
	var out strings.Builder
	b := x.b
	fmt.Fprintln(&out, b.Gen(), b.Blocks(), b.Room(), b.Waits(), b.Broken(), x.d.Down(), x.d.Cached())
	for i := range 8 {
		fmt.Fprintln(&out, b.Root(i), b.Mark(i))
	}
	for at := range b.Blocks() {
		data, e := b.Read(at)
		fmt.Fprintln(&out, at, b.Count(at), b.Fresh(at), string(data), e)
	}
	if last {
		for b.Room() > 0 && !b.Broken() {
			at, e := b.Put(mixed(1))
			fmt.Fprintln(&out, at, e)
		}
	}
	return out.String()
}

// changesNothing holds that a call changes nothing that a later call could tell, also not which block is handed out next: a set that is made likewise, of which nothing was asked, tells the same.
func changesNothing(t testing.TB, what string, from func() *set, call func(x *set)) {
	t.Helper()
	x, y := from(), from()
	before := x.state(false)
	call(x)
	if x.state(false) != before {
		t.Fatal(what, "has changed something")
	}
	if x.state(true) != y.state(true) {
		t.Fatal(what, "has changed which block is next")
	}
	if !bytes.Equal(onDisk(x), onDisk(y)) {
		t.Fatal(what, "has changed the disk")
	}
}

// unlessDone holds the same of a call that tells an error.
func unlessDone(t testing.TB, what string, from func() *set, call func(x *set) api.Errno) {
	t.Helper()
	if call(from()) != api.OK {
		changesNothing(t, what, from, func(x *set) { call(x) })
	}
}

// onDisk is what would be on a disk behind a crash.
func onDisk(x *set) []byte {
	var all []byte
	c := x.d.Copy()
	c.Crash(api.Crash{Torn: -1})
	for at := range c.Len() {
		data, _ := c.Read(at)
		all = append(all, data...)
	}
	return all
}

// of is a leaf with these values, at the keys 10, 20, ..
func of(vals ...uint64) api.Node {
	return api.Node{Leaf: true, Keys: row(len(vals)), Vals: vals}
}

// kids is a node with kids at these blocks, at the keys 10, 20, ..
func kids(blocks ...int) api.Node {
	n := api.Node{Keys: row(len(blocks))}
	for _, at := range blocks {
		n.Vals = append(n.Vals, uint64(at))
	}
	return n
}

// row is the keys of n values.
func row(n int) []uint64 {
	var l []uint64
	for i := range n {
		l = append(l, uint64(10*i+10))
	}
	return l
}

// nowhere are numbers that are no block behind both supers, on any disk, and are not 0.
var nowhere = []int{-1, 1, -2, -4, math.MinInt32, math.MinInt + 1, math.MinInt, 4096, 4097, 65536 + 4, 1 << 32, 1<<32 + 4, math.MaxInt - 1, math.MaxInt}
