package base_test

import (
	"bytes"
	"fmt"
	"maps"
	"slices"
	"strings"
	"testing"

	"catchment/api"
	"catchment/base"
	"catchment/disk"
	"catchment/octets"
)

// op is a write, or, at -1, a flush.
type op struct {
	at   int
	data []byte
}

// plain is what the words say of a base, and of what its disk says.
type plain struct {
	gen              uint64
	roots, rootsWere [8]int
	marks, marksWere [8]uint64
	now, was         []int
	pages, dirs      []int
	next             int
	fresh            map[int][]byte
	says             [][]byte
	broken           bool
}

// pagesOf counts one by one on how many pages so many numbers stand.
func pagesOf(n int) int {
	pages := 0
	for left := n; left > 0; left -= 61 {
		pages++
	}
	return pages
}

// need is how many pages the counts of so many blocks have.
func need(n int) int { return pagesOf(n) + pagesOf(pagesOf(n)) }

// big writes n as so many bytes, the highest first.
func big(n uint64, size int) []byte {
	b := make([]byte, size)
	for i := range b {
		b[size-1-i] = byte(n >> (8 * i))
	}
	return b
}

// sealed is the page of these parts of a body.
func sealed(kind uint8, parts ...[]byte) []byte {
	page, e := octets.Seal(kind, bytes.Join(parts, nil))
	if e != api.OK {
		panic("a body that is too long")
	}
	return page
}

// numbersPage is a page of numbers of two bytes.
func numbersPage(kind uint8, l []int) []byte {
	body := []byte{byte(len(l))}
	for _, n := range l {
		body = append(body, big(uint64(n), 2)...)
	}
	return sealed(kind, body)
}

// superPage is the page of a super.
func superPage(gen uint64, blocks int, roots [8]int, marks [8]uint64) []byte {
	body := slices.Concat(big(gen, 8), big(uint64(blocks), 4))
	for _, r := range roots {
		body = append(body, big(uint64(r), 4)...)
	}
	for _, m := range marks {
		body = append(body, big(m, 8)...)
	}
	return sealed(6, body, make([]byte, 7), big(gen, 8))
}

// blank is a disk of so many blocks of noughts, as far as a plain has one.
func blank(n int) [][]byte {
	l := make([][]byte, n)
	for i := range l {
		l[i] = make([]byte, 128)
	}
	return l
}

// formatted is what a disk that said this is behind a Format, as Open tells it, and what Format does.
func formatted(says [][]byte) (*plain, []op) {
	n := len(says)
	p := &plain{gen: 1, now: make([]int, n), was: make([]int, n), next: 2, fresh: map[int][]byte{}, says: slices.Clone(says)}
	p.pages, p.dirs = make([]int, pagesOf(n)), make([]int, pagesOf(pagesOf(n)))
	ops := []op{{0, make([]byte, 128)}, {1, make([]byte, 128)}, {at: -1}}
	ops = append(ops, p.finish(p.place())...)
	p.do(ops)
	p.keep()
	p.open()
	return p, ops
}

// take is what a pick takes.
func (p *plain) take() int {
	many := len(p.now) - 2
	for i := range many {
		b := 2 + (p.next-2+i)%many
		if p.now[b] == 0 && p.was[b] == 0 {
			p.now[b] = 1
			p.next = 2 + (b-1)%many
			return b
		}
	}
	panic("no room")
}

// free counts blocks from First on that are free.
func (p *plain) free() int {
	n := 0
	for b := 2; b < len(p.now); b++ {
		if p.now[b] == 0 && p.was[b] == 0 {
			n++
		}
	}
	return n
}

func (p *plain) room() int { return max(0, p.free()-need(len(p.now))) }

func (p *plain) waits() int {
	n := 0
	for b := range p.now {
		if p.now[b] == 0 && p.was[b] != 0 {
			n++
		}
	}
	return n
}

// lay places a page.
func (p *plain) lay(at *int) {
	if *at != 0 {
		p.now[*at]--
	}
	*at = p.take()
}

// place is which pages are placed.
func (p *plain) place() (pages, dirs []bool) {
	pages, dirs = make([]bool, len(p.pages)), make([]bool, len(p.dirs))
	for again := true; again; {
		again = false
		for c := range p.pages {
			if !pages[c] && (p.pages[c] == 0 || !slices.Equal(p.part(p.now, c), p.part(p.was, c))) {
				p.lay(&p.pages[c])
				pages[c], again = true, true
				break
			}
		}
		for d := 0; d < len(p.dirs) && !again; d++ {
			if !dirs[d] && (p.dirs[d] == 0 || slices.Contains(pages[61*d:min(61*d+61, len(pages))], true)) {
				p.lay(&p.dirs[d])
				dirs[d], again = true, true
			}
		}
	}
	return pages, dirs
}

// part is what a page has of a list.
func (p *plain) part(l []int, page int) []int { return l[61*page : min(61*page+61, len(l))] }

// finish is what is done from the count pages on.
func (p *plain) finish(pages, dirs []bool) []op {
	var ops []op
	for c, at := range p.pages {
		if pages[c] {
			ops = append(ops, op{at, numbersPage(5, p.part(p.now, c))})
		}
	}
	for d, at := range p.dirs {
		if dirs[d] {
			ops = append(ops, op{at, numbersPage(4, p.part(p.pages, d))})
		}
	}
	copy(p.roots[:], p.dirs)
	return append(ops, op{at: -1}, op{int(p.gen % 2), superPage(p.gen, len(p.now), p.roots, p.marks)}, op{at: -1})
}

// do does what is done with a disk.
func (p *plain) do(ops []op) {
	for _, o := range ops {
		if o.at >= 0 {
			p.says[o.at] = o.data
		}
	}
}

// keep is what is behind a Commit.
func (p *plain) keep() {
	copy(p.was, p.now)
	p.rootsWere, p.marksWere = p.roots, p.marks
	p.fresh = map[int][]byte{}
}

// open is what is behind an Open: of what was not committed nothing.
func (p *plain) open() {
	p.broken = false
	p.back()
	p.next = 2
}

func (p *plain) back() api.Errno {
	if p.broken {
		return api.ErrBroken
	}
	copy(p.now, p.was)
	p.roots, p.marks = p.rootsWere, p.marksWere
	p.fresh = map[int][]byte{}
	return api.OK
}

// commit is what a Commit does, if the disk lets it; what is answered is what is done with the disk.
func (p *plain) commit() []op {
	if slices.Equal(p.now, p.was) && p.roots == p.rootsWere && p.marks == p.marksWere {
		return nil
	}
	pages, dirs := p.place()
	p.gen++
	var ops []op
	for _, at := range slices.Sorted(maps.Keys(p.fresh)) {
		ops = append(ops, op{at, p.fresh[at]})
	}
	ops = append(ops, p.finish(pages, dirs)...)
	p.do(ops)
	p.keep()
	return ops
}

func (p *plain) is(at int) bool { return at >= 0 && at < len(p.now) }

func (p *plain) page(at int) bool {
	return slices.Contains(p.pages, at) || slices.Contains(p.dirs, at)
}

func (p *plain) count(at int) int {
	if !p.is(at) {
		return 0
	}
	return p.now[at]
}

func (p *plain) put(data []byte) (int, api.Errno) {
	switch {
	case p.broken:
		return 0, api.ErrBroken
	case len(data) != 128:
		return 0, api.ErrArg
	case p.room() == 0:
		return 0, api.ErrSpace
	}
	at := p.take()
	p.fresh[at] = bytes.Clone(data)
	return at, api.OK
}

func (p *plain) over(at int, data []byte) api.Errno {
	switch {
	case p.broken:
		return api.ErrBroken
	case !p.is(at) || len(data) != 128:
		return api.ErrArg
	case p.fresh[at] == nil:
		return api.ErrKept
	}
	p.fresh[at] = bytes.Clone(data)
	return api.OK
}

// refer is an Up, or a Down, by 1 or -1.
func (p *plain) refer(at, by int) api.Errno {
	switch {
	case p.broken:
		return api.ErrBroken
	case !p.is(at) || at < 2 || p.page(at):
		return api.ErrArg
	case p.now[at] == 0:
		return api.ErrCount
	case p.now[at]+by > 65535:
		return api.ErrRef
	}
	p.now[at] += by
	if p.now[at] == 0 {
		delete(p.fresh, at)
	}
	return api.OK
}

func (p *plain) setRoot(i, block int) api.Errno {
	switch {
	case p.broken:
		return api.ErrBroken
	case i < 2 || i > 7 || block != 0 && (block < 2 || !p.is(block)):
		return api.ErrArg
	}
	p.roots[i] = block
	return api.OK
}

func (p *plain) setMark(i int, n uint64) api.Errno {
	switch {
	case p.broken:
		return api.ErrBroken
	case i < 0 || i > 7:
		return api.ErrArg
	}
	p.marks[i] = n
	return api.OK
}

// clone is the same plain, apart from this one.
func (p *plain) clone() *plain {
	q := *p
	q.now, q.was, q.pages, q.dirs, q.says = slices.Clone(p.now), slices.Clone(p.was), slices.Clone(p.pages), slices.Clone(p.dirs), slices.Clone(p.says)
	q.fresh = maps.Clone(p.fresh)
	return &q
}

// differs tells what of a base is not as the words say; blocks without a count are read only if all is set.
func (p *plain) differs(b *base.Base, all, down bool) string {
	if b.Gen() != p.gen || b.Blocks() != len(p.now) || b.Broken() != p.broken {
		return fmt.Sprintf("Gen %d, Blocks %d, Broken %v, not %d, %d, %v", b.Gen(), b.Blocks(), b.Broken(), p.gen, len(p.now), p.broken)
	}
	if b.Room() != p.room() || b.Waits() != p.waits() {
		return fmt.Sprintf("Room %d, Waits %d, not %d, %d", b.Room(), b.Waits(), p.room(), p.waits())
	}
	for i := -2; i < 11; i++ {
		root, mark := 0, uint64(0)
		if i >= 0 && i < 8 {
			root, mark = p.roots[i], p.marks[i]
		}
		if b.Root(i) != root || b.Mark(i) != mark {
			return fmt.Sprintf("Root(%d) %d, Mark %d, not %d, %d", i, b.Root(i), b.Mark(i), root, mark)
		}
	}
	for at := -2; at < len(p.now)+2; at++ {
		if b.Count(at) != p.count(at) || b.Fresh(at) != (p.fresh[at] != nil) {
			return fmt.Sprintf("Count(%d) %d, Fresh %v, not %d, %v", at, b.Count(at), b.Fresh(at), p.count(at), p.fresh[at] != nil)
		}
		if !all && p.count(at) == 0 && p.is(at) {
			continue
		}
		var want []byte
		e := api.OK
		switch {
		case !p.is(at):
			e = api.ErrArg
		case p.fresh[at] != nil:
			want = p.fresh[at]
		case down:
			e = api.ErrDown
		default:
			want = p.says[at]
		}
		if data, no := b.Read(at); no != e || !bytes.Equal(data, want) || (data == nil) != (want == nil) {
			return fmt.Sprintf("Read(%d): %v %v, not %v %v", at, data, no, want, e)
		}
	}
	return ""
}

// set is a base, its disk, and what the words say of both.
type set struct {
	t testing.TB
	d *disk.Disk
	b *base.Base
	p *plain
}

// made makes a disk.
func made(t testing.TB, n int) *disk.Disk {
	t.Helper()
	d, e := disk.New(n)
	if e != api.OK {
		t.Fatal(n, e)
	}
	return d
}

// start makes a set of a disk that was just formatted.
func start(t testing.TB, n int) *set {
	t.Helper()
	d := made(t, n)
	if e := base.Format(d); e != api.OK {
		t.Fatal(n, e)
	}
	p, _ := formatted(blank(n))
	return opened(t, d, p)
}

// opened opens a disk, and holds it against a plain, which is opened likewise.
func opened(t testing.TB, d *disk.Disk, p *plain) *set {
	t.Helper()
	b, e := base.Open(d)
	if e != api.OK || b == nil {
		t.Fatal("Open:", b, e)
	}
	p.open()
	x := &set{t, d, b, p}
	x.tells()
	return x
}

// tells holds all that a base tells against the words.
func (x *set) tells() {
	x.t.Helper()
	if s := x.p.differs(x.b, true, x.d.Down()); s != "" {
		x.t.Fatal(s)
	}
}

// is holds an error against what it should be.
func (x *set) is(what string, e, want api.Errno) {
	x.t.Helper()
	if e != want {
		x.t.Fatalf("%s: %v, not %v", what, e, want)
	}
}

func (x *set) put(data []byte) int {
	x.t.Helper()
	at, e := x.b.Put(data)
	want, no := x.p.put(data)
	if at != want || e != no {
		x.t.Fatalf("Put of %d bytes: %d %v, not %d %v", len(data), at, e, want, no)
	}
	return at
}

func (x *set) over(at int, data []byte) api.Errno {
	x.t.Helper()
	e := x.b.Over(at, data)
	x.is(fmt.Sprintf("Over(%d)", at), e, x.p.over(at, data))
	return e
}

func (x *set) up(at int) api.Errno {
	x.t.Helper()
	e := x.b.Up(at)
	x.is(fmt.Sprintf("Up(%d)", at), e, x.p.refer(at, 1))
	return e
}

func (x *set) down(at int) api.Errno {
	x.t.Helper()
	e := x.b.Down(at)
	x.is(fmt.Sprintf("Down(%d)", at), e, x.p.refer(at, -1))
	return e
}

func (x *set) root(i, block int) api.Errno {
	x.t.Helper()
	e := x.b.SetRoot(i, block)
	x.is(fmt.Sprintf("SetRoot(%d, %d)", i, block), e, x.p.setRoot(i, block))
	return e
}

func (x *set) mark(i int, n uint64) api.Errno {
	x.t.Helper()
	e := x.b.SetMark(i, n)
	x.is(fmt.Sprintf("SetMark(%d, %d)", i, n), e, x.p.setMark(i, n))
	return e
}

func (x *set) back() {
	x.t.Helper()
	x.is("Back", x.b.Back(), x.p.back())
	x.tells()
}

// commit commits, and must be let; it tells what was done with the disk.
func (x *set) commit() []op {
	x.t.Helper()
	const most = 5000
	arm(x.t, x.d, most)
	ops := x.p.commit()
	x.is("Commit", x.b.Commit(), api.OK)
	if n := most - left(x.d, most); n != len(ops) {
		x.t.Fatalf("Commit writes and flushes %d times, not %d", n, len(ops))
	}
	if l := x.d.Cached(); len(l) > 0 {
		x.t.Fatal("Commit leaves writes that wait:", l)
	}
	x.tells()
	return ops
}

// again opens the disk anew.
func (x *set) again() {
	x.t.Helper()
	y := opened(x.t, x.d, x.p)
	x.b = y.b
}

// refuses holds that something is refused, and that nothing has changed.
func (x *set) refuses(want api.Errno, l ...api.Errno) {
	x.t.Helper()
	for i, e := range l {
		if e != want {
			x.t.Fatalf("%d: %v, not %v", i, e, want)
		}
	}
	x.tells()
}

func arm(t testing.TB, d *disk.Disk, n int) {
	t.Helper()
	if e := d.Arm(n); e != api.OK {
		t.Fatal("Arm:", e)
	}
}

// left tells how many writes and flushes are done yet, if they are less than that.
func left(d *disk.Disk, most int) int {
	c, n := d.Copy(), 0
	for n < most && c.Flush() == api.OK {
		n++
	}
	return n
}

// mixed is a block of which no two bytes are alike, and none is a nought; those of other seeds differ from it everywhere.
func mixed(seed int) []byte {
	b := make([]byte, 128)
	for i := range b {
		b[i] = byte((i+seed)%255 + 1)
	}
	return b
}

// whole tells all that later calls could tell of a disk.
func whole(t testing.TB, d *disk.Disk) string {
	t.Helper()
	var out strings.Builder
	fmt.Fprint(&out, d.Len(), d.Down(), d.Cached(), left(d, 200))
	c := d.Copy()
	for range 2 {
		for at := range c.Len() {
			b, e := c.Read(at)
			fmt.Fprint(&out, e)
			out.Write(b)
		}
		c.Crash(api.Crash{Torn: -1})
	}
	return out.String()
}
