package own_test

import (
	"bytes"
	"encoding/binary"
	"fmt"
	"math"
	"slices"
	"strings"
	"testing"

	"catchment/api"
	"catchment/base"
	"catchment/disk"
	"catchment/index"
	"catchment/leaf"
	"catchment/octets"
	"catchment/own"
)

// plain is what the words say of a base's blocks: their counts, now and at the last commit, what the disk says of them, what was put since; where pages stand.
type plain struct {
	now, was     []int
	says         [][]byte
	fresh        map[int][]byte
	pages        []int
	down, broken bool
}

// is tells whether there is such a block behind both supers.
func (p *plain) is(at int) bool { return at >= 2 && at < len(p.now) }

// read is what stands at a block.
func (p *plain) read(at int) ([]byte, api.Errno) {
	switch {
	case at < 0 || at >= len(p.now):
		return nil, api.ErrArg
	case p.fresh[at] != nil:
		return p.fresh[at], api.OK
	case p.down:
		return nil, api.ErrDown
	}
	return p.says[at], api.OK
}

// node is what find.Node tells.
func (p *plain) node(at int) (api.Node, api.Errno) {
	if !p.is(at) {
		return api.Node{}, api.ErrArg
	}
	data, e := p.read(at)
	if e != api.OK {
		return api.Node{}, e
	}
	n, e := leaf.Decode(data)
	if e != api.OK {
		return api.Node{}, api.ErrTree
	}
	return n, api.OK
}

// refer is what base.Up and base.Down do.
func (p *plain) refer(at, by int) api.Errno {
	switch {
	case p.broken:
		return api.ErrBroken
	case !p.is(at) || slices.Contains(p.pages, at):
		return api.ErrArg
	case p.now[at] == 0:
		return api.ErrCount
	case p.now[at]+by > 65535:
		return api.ErrRef
	}
	p.now[at] += by
	if p.now[at] == 0 {
		delete(p.fresh, at)
	}
	return api.OK
}

// free tells whether a block may be handed out.
func (p *plain) free(at int) bool { return p.is(at) && p.now[at] == 0 && p.was[at] == 0 }

// room is how many blocks may be put yet; waits how many are let go and not free yet.
func (p *plain) room() int {
	n := -len(p.pages)
	for at := range p.now {
		if p.free(at) {
			n++
		}
	}
	return max(n, 0)
}

func (p *plain) waits() int {
	n := 0
	for at := range p.now {
		if p.now[at] == 0 && p.was[at] > 0 {
			n++
		}
	}
	return n
}

// mine is what Is tells.
func (p *plain) mine(at int) bool {
	_, e := p.node(at)
	return e == api.OK && p.fresh[at] != nil && p.now[at] == 1
}

// place is the block of a value's number; of one that no int has, a number that is no block.
func place(val uint64) int {
	if val > 1<<31 {
		return -1
	}
	return int(val)
}

// own is what Own does ahead of putting the node anew; anew tells whether it is put.
func (p *plain) own(at int) (anew bool, e api.Errno) {
	n, e := p.node(at)
	switch {
	case e != api.OK:
		return false, e
	case p.mine(at):
		return false, api.OK
	case p.room() == 0:
		return false, api.ErrSpace
	}
	now := slices.Clone(p.now)
	if p.now[at] > 1 {
		for _, val := range n.Vals {
			if val == 0 {
				continue
			}
			if p.refer(place(val), 1) != api.OK {
				full := p.is(place(val)) && p.now[place(val)] == 65535
				p.now = now
				if full {
					return false, api.ErrRef
				}
				return false, api.ErrTree
			}
		}
	}
	if e := p.refer(at, -1); e != api.OK {
		p.now = now
		return false, e
	}
	return true, api.OK
}

// drop is what Drop does. What is still to be let go stands in a row, the next one first.
func (p *plain) drop(root int, free func(uint64) api.Errno) api.Errno {
	type thing struct {
		node  bool
		val   uint64
		level int
	}
	if root == 0 {
		return api.OK
	}
	if _, e := p.node(root); e != api.OK {
		return e
	}
	for row := []thing{{true, uint64(root), 1}}; len(row) > 0; {
		x := row[0]
		row = row[1:]
		if !x.node {
			if x.val == 0 {
				continue
			}
			if e := free(x.val); e != api.OK {
				return e
			}
			continue
		}
		if x.level > 8 {
			return api.ErrTree
		}
		n, e := p.node(place(x.val))
		if e != api.OK {
			return e
		}
		if e := p.refer(place(x.val), -1); e != api.OK {
			return e
		}
		if p.now[x.val] > 0 {
			continue
		}
		var below []thing
		for _, val := range n.Vals {
			below = append(below, thing{!n.Leaf, val, x.level + 1})
		}
		row = append(below, row...)
	}
	return api.OK
}

// set is a base, its disk, and what the words say of its blocks.
type set struct {
	t testing.TB
	d *disk.Disk
	b *base.Base
	p *plain
}

// start makes a set of a disk that was just formatted.
func start(t testing.TB, blocks int) *set {
	t.Helper()
	d, e := disk.New(blocks)
	if no := base.Format(d); e != api.OK || no != api.OK {
		t.Fatal(e, no)
	}
	x := &set{t: t, d: d}
	x.again()
	return x
}

// again opens the disk anew.
func (x *set) again() {
	x.t.Helper()
	b, e := base.Open(x.d)
	if e != api.OK {
		x.t.Fatal(e)
	}
	x.b = b
	x.look()
}

// look takes what the words say from a base that has nothing to be committed.
func (x *set) look() {
	x.t.Helper()
	p := &plain{fresh: map[int][]byte{}}
	for at := range x.b.Blocks() {
		data, e := x.b.Read(at)
		if e != api.OK || x.b.Fresh(at) {
			x.t.Fatal(at, e, "is fresh, or can't be read")
		}
		p.now, p.says = append(p.now, x.b.Count(at)), append(p.says, data)
	}
	p.was = slices.Clone(p.now)
	for i := range 2 {
		dir := x.b.Root(i)
		if dir == 0 {
			continue
		}
		l, e := index.Decode(api.PageDir, p.says[dir])
		if e != api.OK {
			x.t.Fatal("no directory page", dir)
		}
		p.pages = append(p.pages, dir)
		for _, at := range l {
			p.pages = append(p.pages, int(at))
		}
	}
	x.p = p
}

// tells holds all that the base tells of its blocks against the words.
func (x *set) tells() {
	x.t.Helper()
	if room, waits := x.b.Room(), x.b.Waits(); room != x.p.room() || waits != x.p.waits() || x.b.Broken() != x.p.broken {
		x.t.Fatalf("Room %d, Waits %d, Broken %v, not %d, %d, %v", room, waits, x.b.Broken(), x.p.room(), x.p.waits(), x.p.broken)
	}
	for at := range x.p.now {
		if n, fresh := x.b.Count(at), x.b.Fresh(at); n != x.p.now[at] || fresh != (x.p.fresh[at] != nil) {
			x.t.Fatalf("Count(%d) %d, Fresh %v, not %d, %v", at, n, fresh, x.p.now[at], x.p.fresh[at] != nil)
		}
		want, no := x.p.read(at)
		if data, e := x.b.Read(at); e != no || !bytes.Equal(data, want) {
			x.t.Fatalf("Read(%d): %v %v, not %v %v", at, data, e, want, no)
		}
	}
}

// is holds an error against what it should be.
func (x *set) is(what string, e, want api.Errno) {
	x.t.Helper()
	if e != want {
		x.t.Fatalf("%s: %v, not %v", what, e, want)
	}
}

// took holds that a block which was told to be put is one that was free, and that it has that now.
func (x *set) took(what string, at int, data []byte) {
	x.t.Helper()
	if !x.p.free(at) {
		x.t.Fatalf("%s: %d, which is not free", what, at)
	}
	x.p.now[at], x.p.fresh[at] = 1, data
}

// data puts bytes, those of no node, if they are noughts or mixed.
func (x *set) data(b []byte) int {
	x.t.Helper()
	at, e := x.b.Put(b)
	x.is("base.Put", e, api.OK)
	x.took("base.Put", at, slices.Clone(b))
	return at
}

// some puts n blocks of data.
func (x *set) some(n int) []int {
	x.t.Helper()
	var l []int
	for i := range n {
		l = append(l, x.data(mixed(i)))
	}
	return l
}

// put puts a node, and is let.
func (x *set) put(n api.Node) int {
	x.t.Helper()
	at, e := own.Put(x.b, n)
	x.is("Put", e, api.OK)
	x.took("Put", at, page(n))
	x.tells()
	return at
}

// up lets blocks be referred to once more each; down once less.
func (x *set) up(l ...int) {
	x.t.Helper()
	for _, at := range l {
		x.is(fmt.Sprint("base.Up of ", at), x.b.Up(at), x.p.refer(at, 1))
	}
}

func (x *set) down(l ...int) {
	x.t.Helper()
	for _, at := range l {
		x.is(fmt.Sprint("base.Down of ", at), x.b.Down(at), x.p.refer(at, -1))
	}
}

// upTo lets a block be referred to so often.
func (x *set) upTo(at, n int) {
	x.t.Helper()
	for x.b.Count(at) < n {
		x.is("base.Up", x.b.Up(at), api.OK)
	}
	x.p.now[at] = n
}

// mine holds what Is tells against the words, and against what the test says.
func (x *set) mine(at int, want bool) {
	x.t.Helper()
	if is := own.Is(x.b, at); is != want || is != x.p.mine(at) {
		x.t.Fatalf("Is(%d): %v, not %v, %v", at, is, want, x.p.mine(at))
	}
	x.tells()
}

// own holds what Own tells against the words. It answers what Own does.
func (x *set) own(at int) (int, api.Errno) {
	x.t.Helper()
	n, _ := x.p.node(at)
	to, e := own.Own(x.b, at)
	anew, want := x.p.own(at)
	x.is(fmt.Sprintf("Own(%d)", at), e, want)
	switch {
	case e != api.OK && to != 0:
		x.t.Fatalf("Own(%d): %d beside %v", at, to, e)
	case e == api.OK && !anew && to != at:
		x.t.Fatalf("Own(%d): %d, and it is one's own", at, to)
	case anew:
		x.took(fmt.Sprintf("Own(%d)", at), to, page(n))
	}
	x.tells()
	return to, e
}

// owned is where a node stands that is owned now, which has to be let.
func (x *set) owned(at int) int {
	x.t.Helper()
	to, e := x.own(at)
	x.is(fmt.Sprintf("Own(%d)", at), e, api.OK)
	if !own.Is(x.b, to) {
		x.t.Fatalf("Own(%d): %d, which is not one's own", at, to)
	}
	return to
}

// over holds what Set tells against the words.
func (x *set) over(at int, n api.Node) api.Errno {
	x.t.Helper()
	want := api.ErrKept
	switch {
	case !leaf.Right(n):
		want = api.ErrNode
	case x.p.mine(at) && x.p.broken:
		want = api.ErrBroken
	case x.p.mine(at):
		want = api.OK
		x.p.fresh[at] = page(n)
	}
	x.is(fmt.Sprintf("Set(%d)", at), own.Set(x.b, at, n), want)
	x.tells()
	return want
}

// letting is a free that lets go; it notes what it is asked, and the one at some place answers an error instead.
type letting struct {
	asked []uint64
	nth   int
	e     api.Errno
}

func (l *letting) by(let func(uint64) api.Errno) func(uint64) api.Errno {
	l.asked = nil
	return func(val uint64) api.Errno {
		l.asked = append(l.asked, val)
		if l.e != api.OK && len(l.asked) == l.nth+1 {
			return l.e
		}
		return let(val)
	}
}

// drop holds what Drop does against the words, with a free that fails at some place, if e is set. It answers what free was asked.
func (x *set) drop(at, nth int, e api.Errno) ([]uint64, api.Errno) {
	x.t.Helper()
	one, two := &letting{nth: nth, e: e}, &letting{nth: nth, e: e}
	e = own.Drop(x.b, at, one.by(own.Let(x.b)))
	want := x.p.drop(at, two.by(func(val uint64) api.Errno { return x.p.refer(place(val), -1) }))
	x.is(fmt.Sprintf("Drop(%d)", at), e, want)
	if !slices.Equal(one.asked, two.asked) {
		x.t.Fatalf("Drop(%d) asks free %v, not %v", at, one.asked, two.asked)
	}
	x.tells()
	return one.asked, e
}

// dropped holds that a tree is let go without an error, and what free is asked.
func (x *set) dropped(at int, asked ...uint64) {
	x.t.Helper()
	l, e := x.drop(at, 0, api.OK)
	x.is(fmt.Sprintf("Drop(%d)", at), e, api.OK)
	if !slices.Equal(l, asked) {
		x.t.Fatalf("Drop(%d) asks free %v, not %v", at, l, asked)
	}
}

// counts holds the counts of some blocks.
func (x *set) counts(want int, l ...int) {
	x.t.Helper()
	for _, at := range l {
		if n := x.b.Count(at); n != want {
			x.t.Fatalf("Count(%d): %d, not %d", at, n, want)
		}
	}
}

// commit lets all that was done stand on the disk.
func (x *set) commit() {
	x.t.Helper()
	x.is("Commit", x.b.Commit(), api.OK)
	x.look()
}

// back takes it back.
func (x *set) back() {
	x.t.Helper()
	x.is("Back", x.b.Back(), api.OK)
	x.p.now, x.p.fresh = slices.Clone(x.p.was), map[int][]byte{}
	x.tells()
}

// fail lets the power go.
func (x *set) fail() {
	x.t.Helper()
	x.d.Arm(0)
	if e := x.d.Flush(); e != api.ErrDown || !x.d.Down() {
		x.t.Fatal(e)
	}
	x.p.down = true
	x.tells()
}

// breaks lets the power go in a Commit.
func (x *set) breaks() {
	x.t.Helper()
	x.d.Arm(0)
	if e := x.b.Commit(); e != api.ErrDown || !x.b.Broken() {
		x.t.Fatal(e)
	}
	x.p.down, x.p.broken = true, true
	x.tells()
}

// power lets the power come again; of what waits nothing is kept.
func (x *set) power() {
	x.t.Helper()
	x.is("Crash", x.d.Crash(api.Crash{Torn: -1}), api.OK)
	x.p.down = false
	x.tells()
}

// page is what a node is written as, right or not.
func page(n api.Node) []byte {
	kind, body := api.PageInner, []byte{byte(len(n.Keys))}
	if n.Leaf {
		kind = api.PageLeaf
	}
	for i, key := range n.Keys {
		body = binary.BigEndian.AppendUint64(body, key)
		body = binary.BigEndian.AppendUint64(body, n.Vals[i])
	}
	b, e := octets.Seal(kind, body)
	if e != api.OK {
		panic("a node with too many keys")
	}
	return b
}

// countPage is what counts are written as.
func countPage(counts []int) []byte {
	var l []uint16
	for _, n := range counts {
		l = append(l, uint16(n))
	}
	b, e := index.Encode(api.PageCounts, l)
	if e != api.OK {
		panic("more counts than a page has")
	}
	return b
}

// of is a leaf with these values, at the keys 10, 20, ..
func of(vals ...uint64) api.Node {
	return api.Node{Leaf: true, Keys: row(len(vals)), Vals: vals}
}

// leafOf is a leaf whose values refer to these blocks.
func leafOf(blocks ...int) api.Node { return of(vals(blocks)...) }

// kids is a node with kids at these blocks.
func kids(blocks ...int) api.Node { return api.Node{Keys: row(len(blocks)), Vals: vals(blocks)} }

// row is the keys of n values.
func row(n int) []uint64 {
	var l []uint64
	for i := range n {
		l = append(l, uint64(10*i+10))
	}
	return l
}

// vals are blocks as values.
func vals(blocks []int) []uint64 {
	var l []uint64
	for _, at := range blocks {
		l = append(l, uint64(at))
	}
	return l
}

// same tells whether two nodes are the same (R6).
func same(a, b api.Node) bool {
	return a.Leaf == b.Leaf && slices.Equal(a.Keys, b.Keys) && slices.Equal(a.Vals, b.Vals)
}

// mixed is a block of bytes that are no page's.
func mixed(seed int) []byte {
	b := make([]byte, 128)
	for i := range b {
		b[i] = byte((i+seed)%200 + 50)
	}
	return b
}

// nowhere are numbers that are no block behind both supers, on any disk.
var nowhere = []int{-1, 0, 1, -2, -4, math.MinInt32, math.MinInt + 1, math.MinInt, 4096, 4097, 65536 + 4, 1 << 32, 1<<32 + 4, math.MaxInt - 1, math.MaxInt}

// noNodes are nodes that leaf.Encode does not take.
func noNodes() map[string]api.Node {
	return map[string]api.Node{
		"keys that fall":       {Leaf: true, Keys: []uint64{2, 1}, Vals: []uint64{4, 5}},
		"a key twice":          {Leaf: true, Keys: []uint64{2, 2}, Vals: []uint64{4, 5}},
		"eight keys":           of(4, 5, 6, 7, 8, 9, 10, 11),
		"more keys than vals":  {Leaf: true, Keys: []uint64{1, 2}, Vals: []uint64{4}},
		"more vals than keys":  {Leaf: true, Keys: []uint64{1}, Vals: []uint64{4, 5}},
		"vals alone":           {Leaf: true, Vals: []uint64{4}},
		"no leaf, no key":      {},
		"no leaf, a kid 0":     kids(4, 0),
		"no leaf, a kid 4096":  kids(4096, 4),
		"no leaf, a kid twice": kids(4, 5, 4),
		"no leaf, eight kids":  kids(4, 5, 6, 7, 8, 9, 10, 11),
		"no leaf, keys fall":   {Keys: []uint64{2, 1}, Vals: []uint64{4, 5}},
	}
}

// state is all that later calls could tell of a base and its disk: also which blocks are handed out next, if last is set; the base can't be used any more then.
func (x *set) state(last bool) string {
	var out strings.Builder
	b := x.b
	fmt.Fprintln(&out, b.Gen(), b.Blocks(), b.Room(), b.Waits(), b.Broken(), x.d.Down(), x.d.Cached())
	for i := range 8 {
		fmt.Fprintln(&out, b.Root(i), b.Mark(i))
	}
	for at := range b.Blocks() {
		data, e := b.Read(at)
		fmt.Fprintln(&out, at, b.Count(at), b.Fresh(at), data, e)
	}
	c := x.d.Copy()
	c.Crash(api.Crash{Torn: -1})
	for at := range c.Len() {
		data, e := c.Read(at)
		fmt.Fprintln(&out, at, data, e)
	}
	if last {
		for b.Room() > 0 && !b.Broken() {
			at, e := b.Put(mixed(1))
			fmt.Fprintln(&out, at, e)
		}
	}
	return out.String()
}

// changesNothing holds that a call changes nothing that a later call could tell, also not which block is handed out next: a set that is made likewise, of which nothing was asked, tells the same.
func changesNothing(t testing.TB, what string, from func() *set, call func(x *set)) {
	t.Helper()
	x, y := from(), from()
	before := x.state(false)
	call(x)
	if x.state(false) != before {
		t.Fatal(what, "has changed something")
	}
	if x.state(true) != y.state(true) {
		t.Fatal(what, "has changed which block is next")
	}
}
