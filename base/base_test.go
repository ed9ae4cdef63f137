package base_test

import (
	"bytes"
	"math"
	"slices"
	"testing"

	"catchment/api"
	"catchment/base"
	"catchment/disk"
)

// sizes are disks of the fewest and of the most blocks, and of as many as fill count pages, directory pages, and have one more.
var sizes = []int{16, 17, 60, 61, 62, 121, 122, 123, 3721, 3722, 4095, 4096}

// nowhere are numbers that are no block, root or mark.
var nowhere = []int{-1, -2, -61, math.MinInt32, math.MinInt + 1, math.MinInt, 4096, 65536, 1 << 32, 1<<32 + 2, 1<<32 + 4, 1 << 40, math.MaxInt - 1, math.MaxInt}

// P11.1 to P11.6: the chapter's examples.
func TestExamples(t *testing.T) {
	x := start(t, 16)
	if x.b.Gen() != 1 || x.b.Room() != 10 || x.b.Root(0) != 3 || x.b.Count(2) != 1 || x.b.Count(3) != 1 {
		t.Fatal(x.b.Gen(), x.b.Room(), x.b.Root(0))
	}
	if at := x.put(mixed(1)); at != 4 || x.b.Count(4) != 1 || !x.b.Fresh(4) {
		t.Fatal(at, x.b.Count(4))
	}
	x.commit()
	if x.b.Root(0) != 6 || x.b.Count(5) != 1 || x.b.Count(2) != 0 || x.b.Gen() != 2 || x.b.Waits() != 0 {
		t.Fatal(x.b.Root(0), x.b.Gen(), x.b.Waits())
	}
	if e := x.over(4, mixed(2)); e != api.ErrKept {
		t.Fatal(e)
	}
	if e := x.down(4); e != api.OK || x.b.Waits() != 1 {
		t.Fatal(e, x.b.Waits())
	}
	x.back()
	if x.b.Count(4) != 1 {
		t.Fatal(x.b.Count(4))
	}
	x.root(2, 4)
	x.commit()
	if x.b.Root(2) != 4 {
		t.Fatal(x.b.Root(2))
	}
	x.again()
	if x.b.Root(2) != 4 {
		t.Fatal(x.b.Root(2))
	}
}

// P11.2, P11.3: Gen, Blocks, Room of what was just formatted; all else is 0.
func TestOpenOfFormatted(t *testing.T) {
	for n, room := range map[int]int{16: 10, 17: 11, 60: 54, 61: 55, 62: 54, 122: 114, 123: 113, 3721: 3595, 3722: 3592, 4096: 3954} {
		x := start(t, n)
		if x.b.Gen() != 1 || x.b.Blocks() != n || x.b.Room() != room || x.b.Waits() != 0 || x.b.Broken() {
			t.Errorf("%d blocks: %d %d %d %d", n, x.b.Gen(), x.b.Blocks(), x.b.Room(), x.b.Waits())
		}
		two := 0 // the second directory page, if there is one
		if n > 61*61 {
			two = x.b.Root(0) + 1
		}
		if x.b.Root(0) != 2+pagesOf(n) || x.b.Root(1) != two {
			t.Errorf("%d blocks: %d %d", n, x.b.Root(0), x.b.Root(1))
		}
	}
}

// P11.3: roots that may be set, and blocks that they may be set to; all others are refused, and change nothing.
func TestSetRoot(t *testing.T) {
	for _, n := range []int{16, 62, 4096} {
		x := start(t, n)
		for i := 2; i < 8; i++ {
			for _, block := range []int{2, 3, 0, n - 1, i + 4, i + 5} {
				if e := x.root(i, block); e != api.OK || x.b.Root(i) != block {
					t.Fatal(i, block, e, x.b.Root(i))
				}
			}
		}
		x.tells()
		for _, i := range slices.Concat(nowhere, []int{0, 1, 8, 9}) {
			x.refuses(api.ErrArg, x.b.SetRoot(i, 4), x.b.SetRoot(i, 0), x.b.SetRoot(i, -1))
		}
		for _, block := range slices.Concat(nowhere, []int{1, n, n + 1}) {
			x.refuses(api.ErrArg, x.b.SetRoot(2, block), x.b.SetRoot(7, block))
		}
		x.commit()
		x.again()
	}
}

// P11.3: all marks may be set to any number.
func TestSetMark(t *testing.T) {
	x := start(t, 16)
	for i := range 8 {
		for _, n := range []uint64{1, math.MaxUint64, 0, 1 << 63, 1<<32 + uint64(i)} {
			if e := x.mark(i, n); e != api.OK || x.b.Mark(i) != n {
				t.Fatal(i, n, e, x.b.Mark(i))
			}
		}
	}
	x.tells()
	for _, i := range append(nowhere, 8, 9) {
		x.refuses(api.ErrArg, x.b.SetMark(i, 4), x.b.SetMark(i, 0))
		if x.b.Mark(i) != 0 || x.b.Root(i) != 0 {
			t.Error(i, x.b.Mark(i), x.b.Root(i))
		}
	}
	x.commit()
	x.again()
}

// P11.4: Read of supers, of pages, of blocks that nobody put, of what is fresh, of what was committed; of no block.
func TestRead(t *testing.T) {
	x := start(t, 62)
	at := x.put(mixed(1))
	x.put(mixed(2))
	x.tells()
	x.commit()
	x.put(mixed(3))
	x.over(x.put(mixed(4)), mixed(5))
	x.tells()
	if data, e := x.b.Read(at); e != api.OK || !bytes.Equal(data, mixed(1)) {
		t.Error(data, e)
	}
	for _, i := range append(nowhere, 62, 63) {
		if data, e := x.b.Read(i); e != api.ErrArg || data != nil {
			t.Error(i, data, e)
		}
	}
}

// P11.4: the disk's errors come behind ErrArg; what is fresh is not asked of the disk.
func TestReadWithoutPower(t *testing.T) {
	x := start(t, 16)
	at := x.put(mixed(1))
	arm(t, x.d, 0)
	x.d.Flush()
	x.tells()
	for _, i := range nowhere {
		if data, e := x.b.Read(i); e != api.ErrArg || data != nil {
			t.Error(i, data, e)
		}
	}
	if data, e := x.b.Read(2); e != api.ErrDown || data != nil {
		t.Error(data, e)
	}
	if data, e := x.b.Read(at); e != api.OK || !bytes.Equal(data, mixed(1)) {
		t.Error(data, e)
	}
}

// P11.4: Put of a block's bytes, and of fewer and more of them.
func TestPut(t *testing.T) {
	x := start(t, 16)
	for _, n := range []int{0, 1, 127, 129, 256, 4096} {
		x.put(make([]byte, n))
		at, e := x.b.Put(make([]byte, n))
		if at != 0 {
			t.Error(n, at)
		}
		x.refuses(api.ErrArg, e)
	}
	if at, e := x.b.Put(nil); at != 0 || e != api.ErrArg {
		t.Error(at, e)
	}
	for i := range 3 {
		if at := x.put(mixed(i)); at != 4+i {
			t.Error(at)
		}
		x.tells()
	}
}

// P11.4, P11.5: Put while Room is 1, and while it is 0: what is kept back is never handed out.
func TestPutTillRoomIsNone(t *testing.T) {
	for _, n := range []int{16, 61, 62, 122, 123, 200} {
		x := start(t, n)
		for room := x.b.Room(); room > 0; room-- {
			if x.b.Room() != room {
				t.Fatal(n, x.b.Room(), room)
			}
			if x.put(mixed(room)) == 0 {
				t.Fatal(n, room)
			}
		}
		x.tells()
		at, e := x.b.Put(mixed(1))
		if at != 0 || x.b.Room() != 0 || x.p.free() != need(n) {
			t.Fatal(n, at, x.b.Room(), x.p.free())
		}
		x.refuses(api.ErrSpace, e)
		_, e = x.b.Put(mixed(1)[:127])
		x.refuses(api.ErrArg, e)
		x.commit()
		if x.b.Room() != 0 {
			t.Fatal(n, x.b.Room())
		}
		x.down(5 + need(n)) // it was committed, so it is none to be put yet
		if x.b.Room() != 0 || x.b.Waits() != 1 {
			t.Fatal(n, x.b.Room(), x.b.Waits())
		}
		_, e = x.b.Put(mixed(1))
		x.refuses(api.ErrSpace, e)
		x.commit()
		if x.b.Room() != 1 || x.b.Waits() != 0 {
			t.Fatal(n, x.b.Room(), x.b.Waits())
		}
		x.put(mixed(2))
		_, e = x.b.Put(mixed(1))
		x.refuses(api.ErrSpace, e)
		x.commit()
	}
}

// P11.4, R3: what is handed in may be written over behind the call; what is handed out, too.
func TestMemory(t *testing.T) {
	x := start(t, 16)
	data := append(mixed(1), mixed(2)...)[:128]
	at := x.put(data)
	clear(data[:cap(data)])
	x.tells()
	copy(data, mixed(3))
	x.over(at, data)
	if !bytes.Equal(data[:256][128:], make([]byte, 128)) {
		t.Error("the spare room of what was handed in has changed")
	}
	clear(data)
	x.tells()
	for _, i := range []int{at, 0, 1, 2, 3, 15} {
		one, _ := x.b.Read(i)
		two, _ := x.b.Read(i)
		want := bytes.Clone(two)
		for j := range one[:cap(one)] {
			one[:cap(one)][j] ^= 255
		}
		if !bytes.Equal(two, want) {
			t.Error(i, "two answers share memory")
		}
		x.tells()
	}
	x.commit()
	one, _ := x.b.Read(at)
	clear(one)
	x.tells()
}

// P11.4: Over of what is fresh, of what was committed, of what was let go, of what nobody put, of pages and supers.
func TestOver(t *testing.T) {
	x := start(t, 16)
	at, gone := x.put(mixed(1)), x.put(mixed(2))
	for i := range 4 {
		if e := x.over(at, mixed(3+i)); e != api.OK {
			t.Fatal(e)
		}
		x.tells()
	}
	x.down(gone)
	for _, i := range []int{gone, 0, 1, 2, 3, 9, 15} {
		x.refuses(api.ErrKept, x.b.Over(i, mixed(9)))
	}
	for _, i := range append(nowhere, 16, 17) {
		x.refuses(api.ErrArg, x.b.Over(i, mixed(9)), x.b.Over(i, nil))
	}
	for _, n := range []int{0, 1, 127, 129} { // ErrArg is ahead of ErrKept
		x.refuses(api.ErrArg, x.b.Over(at, make([]byte, n)), x.b.Over(9, make([]byte, n)), x.b.Over(2, make([]byte, n)))
	}
	x.commit()
	x.refuses(api.ErrKept, x.b.Over(at, mixed(9)))
	x.down(at)
	x.refuses(api.ErrKept, x.b.Over(at, mixed(9)))
	x.back()
	x.refuses(api.ErrKept, x.b.Over(at, mixed(9)))
}

// P11.4: a block that is fresh, and referred to more than once, may be written over; so may one that was put again.
func TestOverOfWhatIsReferredTo(t *testing.T) {
	x := start(t, 16)
	at := x.put(mixed(1))
	x.up(at)
	x.up(at)
	if e := x.over(at, mixed(2)); e != api.OK {
		t.Error(e)
	}
	x.down(at)
	x.tells()
	if !x.b.Fresh(at) || x.over(at, mixed(3)) != api.OK {
		t.Error("it has a count yet")
	}
	x.commit()
}

// P11.5: Up and Down of blocks that are put, of all that are none, of pages, of those without a count.
func TestUpAndDown(t *testing.T) {
	x := start(t, 62)
	at := x.put(mixed(1))
	for range 3 {
		x.up(at)
	}
	x.tells()
	x.down(at)
	x.commit()
	if x.b.Count(at) != 3 {
		t.Fatal(x.b.Count(at))
	}
	for _, i := range slices.Concat(nowhere, []int{0, 1, 62, 63}, x.p.pages, x.p.dirs) {
		x.refuses(api.ErrArg, x.b.Up(i), x.b.Down(i))
	}
	for i := range 62 { // those where pages stood are blocks as others are
		if x.p.now[i] == 0 && i > 1 {
			x.refuses(api.ErrCount, x.b.Up(i), x.b.Down(i))
		}
	}
	x.down(at)
	x.down(at)
	x.down(at)
	x.refuses(api.ErrCount, x.b.Up(at), x.b.Down(at))
	x.back()
	x.again()
	for _, i := range slices.Concat(x.p.pages, x.p.dirs) {
		x.refuses(api.ErrArg, x.b.Up(i), x.b.Down(i))
	}
}

// P11.5: the greatest count there may be.
func TestGreatestCount(t *testing.T) {
	x := start(t, 16)
	at := x.put(mixed(1))
	for range 65534 {
		if e := x.b.Up(at); e != api.OK {
			t.Fatal(e)
		}
	}
	x.p.now[at] = 65535
	x.tells()
	x.refuses(api.ErrRef, x.b.Up(at), x.b.Up(at))
	x.commit()
	x.again()
	x.refuses(api.ErrRef, x.b.Up(at))
	x.down(at)
	x.up(at)
	x.refuses(api.ErrRef, x.b.Up(at))
	if ops := x.commit(); len(ops) > 0 {
		t.Error(ops)
	}
}

// P11.5: a fresh block that goes down to nothing is as if it had never been put: it is not written, and is handed out in its turn.
func TestFreshGoesDown(t *testing.T) {
	x := start(t, 16)
	at := x.put(mixed(1))
	x.put(mixed(2))
	room := x.b.Room()
	x.down(at)
	if x.b.Fresh(at) || x.b.Count(at) != 0 || x.b.Waits() != 0 || x.b.Room() != room+1 {
		t.Fatal(x.b.Fresh(at), x.b.Count(at), x.b.Waits(), x.b.Room())
	}
	if data, e := x.b.Read(at); e != api.OK || !bytes.Equal(data, make([]byte, 128)) {
		t.Fatal(data, e)
	}
	x.refuses(api.ErrKept, x.b.Over(at, mixed(3)))
	x.refuses(api.ErrCount, x.b.Up(at), x.b.Down(at))
	if next := x.put(mixed(4)); next == at {
		t.Fatal(next)
	}
	for _, o := range x.commit() {
		if o.at == at {
			t.Fatal("it was written")
		}
	}
	for i := range 16 {
		next := x.put(mixed(5))
		if next == at {
			break
		}
		x.down(next)
		if i == 15 {
			t.Fatal("it is not handed out")
		}
	}
	x.tells()
	x.commit()
}

// P11.5: a fresh block that goes down to nothing, alone: nothing is to be committed.
func TestFreshGoesDownAlone(t *testing.T) {
	x := start(t, 16)
	x.down(x.put(mixed(1)))
	if ops := x.commit(); len(ops) > 0 || x.b.Gen() != 1 {
		t.Error(ops, x.b.Gen())
	}
}

// P11.5, P11.6: what waits, ahead of a Commit and behind one; it is handed out behind it alone.
func TestWaits(t *testing.T) {
	x := start(t, 16)
	var l []int
	for i := range 4 {
		l = append(l, x.put(mixed(i)))
	}
	x.up(l[0])
	x.commit()
	room := x.b.Room()
	for i, want := range []int{0, 1, 2, 3} {
		x.down(l[i])
		if x.b.Waits() != want || x.b.Room() != room {
			t.Fatal(i, x.b.Waits(), x.b.Room())
		}
	}
	x.down(l[0])
	if x.b.Waits() != 4 {
		t.Fatal(x.b.Waits())
	}
	for x.b.Room() > 0 {
		if at := x.put(mixed(9)); slices.Contains(l, at) {
			t.Fatal(at, "waits")
		}
	}
	x.tells()
	x.commit()
	if x.b.Waits() != 0 || x.b.Room() != 4 {
		t.Fatal(x.b.Waits(), x.b.Room())
	}
}

// P11.6: what was not changed, or came back to what it was, is not committed: the disk is not asked, even without power.
func TestCommitOfNothing(t *testing.T) {
	x := start(t, 16)
	at := x.put(mixed(1))
	x.root(2, at)
	x.mark(0, 7)
	x.commit()
	for i, do := range []func(){
		func() {},
		func() { x.up(at); x.down(at) },
		func() { x.down(x.put(mixed(1))) },
		func() { x.root(2, at); x.mark(0, 7); x.root(3, 0); x.mark(7, 0) },
		func() { x.root(2, 9); x.mark(0, 8); x.root(2, at); x.mark(0, 7) },
		func() { x.put(mixed(2)); x.down(at); x.root(5, 9); x.mark(7, 9); x.back() },
		func() { x.up(3); x.root(0, 4); x.over(2, mixed(2)); x.down(9); x.put(nil) },
	} {
		do()
		before := whole(t, x.d)
		if ops := x.commit(); len(ops) > 0 || x.b.Gen() != 2 {
			t.Fatal(i, ops, x.b.Gen())
		}
		x.d.Crash(api.Crash{Torn: -1})
		if whole(t, x.d) != before {
			t.Fatal(i, "the disk has changed")
		}
	}
	arm(t, x.d, 0)
	x.d.Flush()
	if e := x.b.Commit(); e != api.OK || x.b.Broken() {
		t.Error(e)
	}
}

// P11.6: a change back over several Commits is one.
func TestCommitOfWhatComesBackLater(t *testing.T) {
	x := start(t, 16)
	at := x.put(mixed(1))
	x.commit()
	for i := range 3 {
		for _, do := range []func(){
			func() { x.up(at) }, func() { x.down(at) }, func() { x.root(7, at) }, func() { x.root(7, 0) }, func() { x.mark(1, 1) }, func() { x.mark(1, 0) },
		} {
			do()
			if ops := x.commit(); len(ops) == 0 {
				t.Fatal(i, "nothing is committed")
			}
		}
	}
	if x.b.Gen() != 20 {
		t.Error(x.b.Gen())
	}
	x.again()
}

// places are those of what is done with a disk.
func places(ops []op) []int {
	var l []int
	for _, o := range ops {
		l = append(l, o.at)
	}
	return l
}

// P11.6: a root or a mark alone: no page is placed; the disk is flushed, and flushed again behind the super.
func TestCommitOfRootOrMark(t *testing.T) {
	x := start(t, 62)
	for i, do := range []func(){func() { x.root(2, 9) }, func() { x.mark(7, 1) }, func() { x.root(2, 0) }, func() { x.mark(0, math.MaxUint64) }} {
		do()
		if l := places(x.commit()); !slices.Equal(l, []int{-1, i % 2, -1}) {
			t.Error(i, l)
		}
	}
}

// P11.6: which blocks a Commit writes, in which order: what is fresh, rising, then count pages, then directory pages.
func TestCommitWrites(t *testing.T) {
	x := start(t, 16) // pages at 2 and 3
	for i, want := range [][]int{{4, 5, 6, -1, 0, -1}, {7, 8, 9, -1, 1, -1}, {10, 11, 12, -1, 0, -1}, {13, 14, 15, -1, 1, -1}, {2, 3, 5, -1, 0, -1}, {6, 8, 9, -1, 1, -1}} {
		x.put(mixed(i))
		if l := places(x.commit()); !slices.Equal(l, want) {
			t.Fatal(i, l)
		}
	}
	x = start(t, 62) // pages at 2, 3, and 4
	x.put(mixed(1))
	x.put(mixed(2))
	x.root(3, 61)
	if l := places(x.commit()); !slices.Equal(l, []int{5, 6, 7, 8, -1, 0, -1}) {
		t.Fatal(l)
	}
	if x.p.pages[1] != 3 { // nothing of the second page's block has changed
		t.Fatal(x.p.pages)
	}
	for x.b.Room() > 0 {
		x.put(mixed(3)) // 61 is among them, so the second page is placed, too; then 2 is looked at first
	}
	l := places(x.commit())
	if !slices.IsSorted(l[:len(l)-6]) || !slices.Equal(l[len(l)-3:], []int{-1, 1, -1}) {
		t.Fatal(l)
	}
	x.tells()
}

// P11.6: what is fresh is written rising, though it was put behind the end and then from the first block on.
func TestCommitWritesRising(t *testing.T) {
	x := start(t, 16)
	var l []int
	for i := range 9 {
		l = append(l, x.put(mixed(i)))
	}
	for _, at := range l[:7] {
		x.down(at)
	}
	x.put(mixed(9))
	x.put(mixed(10))
	for i := range 3 {
		if at := x.put(mixed(11 + i)); at != 15 && at != 4+i-1 {
			t.Fatal(at)
		}
	}
	if l := places(x.commit()); !slices.Equal(l, []int{4, 5, 11, 12, 13, 14, 15, 6, 7, -1, 0, -1}) {
		t.Fatal(l)
	}
}

// P11.6: disks whose counts stand on more than one page, and on two directory pages; all that they tell is there behind an Open.
func TestCommitOfManyPages(t *testing.T) {
	for _, n := range []int{61, 62, 122, 123, 3721, 3722, 4096} {
		x := start(t, n)
		var l []int
		for i := range 5 {
			l = append(l, x.put(mixed(i)))
		}
		x.root(2, n-1)
		x.mark(7, uint64(n))
		x.commit()
		x.again()
		x.skip(n - 3) // pages at the end, and from the first blocks on
		for i := range 6 {
			l = append(l, x.put(mixed(5+i)))
		}
		x.commit()
		x.again()
		for _, at := range l[3:8] {
			x.down(at)
		}
		x.commit()
		x.again()
	}
}

// skip lets a base hand out blocks till the next one that it looks at is that: what it hands out is let go again.
func (x *set) skip(next int) {
	x.t.Helper()
	for at := 0; at != next-1; {
		b, e := x.b.Put(make([]byte, 128))
		x.is("Put", e, api.OK)
		x.is("Down", x.b.Down(b), api.OK)
		at = b
	}
	x.p.next = next
}

// P11.6: Back behind nothing, a Put, a Down, an Up, an Over, a root, a mark; where a block is looked for first stays.
func TestBack(t *testing.T) {
	x := start(t, 16)
	at := x.put(mixed(1))
	x.up(at)
	x.root(2, at)
	x.mark(3, 5)
	x.commit()
	for i, do := range []func(){
		func() {},
		func() { x.put(mixed(2)) },
		func() { x.over(x.put(mixed(2)), mixed(3)) },
		func() { x.down(x.put(mixed(2))) },
		func() { x.up(at) },
		func() { x.down(at) },
		func() { x.down(at); x.down(at) },
		func() { x.root(2, 0); x.root(7, 9) },
		func() { x.mark(3, 6); x.mark(0, 6) },
		func() {
			x.put(mixed(2))
			x.down(at)
			x.down(at)
			x.root(4, at)
			x.mark(7, 1)
			x.up(x.put(mixed(3)))
		},
	} {
		before := whole(t, x.d)
		do()
		x.tells()
		x.back()
		if x.b.Count(at) != 2 || x.b.Root(2) != at || x.b.Mark(3) != 5 || x.b.Gen() != 2 || x.b.Waits() != 0 || whole(t, x.d) != before {
			t.Fatal(i)
		}
		x.back()
		if ops := x.commit(); len(ops) > 0 {
			t.Fatal(i, ops)
		}
	}
	y := start(t, 16)
	for i, want := range []int{4, 5, 6, 7} {
		if at := y.put(mixed(i)); at != want {
			t.Error(at)
		}
		y.back()
	}
	y.put(mixed(1))
	y.commit()
	y.again()
}

// P11.6: Back takes back to the last Commit, not to the Open.
func TestBackToTheLastCommit(t *testing.T) {
	x := start(t, 16)
	var l []int
	for i := range 4 {
		l = append(l, x.put(mixed(i)))
		x.root(2, l[i])
		x.mark(0, uint64(i))
		x.commit()
		x.root(2, 0)
		x.mark(0, 9)
		x.down(l[i])
		x.back()
		if x.b.Root(2) != l[i] || x.b.Mark(0) != uint64(i) || x.b.Count(l[i]) != 1 {
			t.Fatal(i)
		}
	}
}

// fail lets the power go in a Commit, behind so many writes and flushes.
func (x *set) fail(n int) {
	x.t.Helper()
	arm(x.t, x.d, n)
	x.is("Commit", x.b.Commit(), api.ErrDown)
	x.p.broken = true
}

// P11.6, R2: a base that is broken tells what it told, and does nothing any more, whether the power comes again or not.
func TestBroken(t *testing.T) {
	for n := range 6 {
		x := start(t, 16)
		at := x.put(mixed(1))
		x.mark(0, 3)
		x.commit()
		fresh := x.put(mixed(2))
		x.put(mixed(3))
		x.down(at)
		x.up(fresh)
		x.root(3, 9)
		x.mark(1, 4)
		x.fail(n)
		for range 2 {
			if !x.b.Broken() || x.b.Gen() != 2 || !x.b.Fresh(fresh) || x.b.Count(fresh) != 2 || x.b.Root(3) != 9 || x.b.Mark(1) != 4 {
				t.Fatal(n, "it tells something else")
			}
			for _, i := range append(nowhere, 0, 1, 2, 3, at, fresh, 12, 15, 16) {
				_, one := x.b.Put(make([]byte, 127))
				_, two := x.b.Put(mixed(1))
				x.refuses(api.ErrBroken, one, two, x.b.Over(i, mixed(1)), x.b.Over(i, nil), x.b.Up(i), x.b.Down(i), x.b.SetRoot(i, 4), x.b.SetRoot(4, i), x.b.SetMark(i, 4), x.b.SetMark(4, 4), x.b.Commit(), x.b.Back())
			}
			// the blocks to which the Commit came are free ones: what is committed says what it said
			x.d.Crash(api.Crash{Torn: -1})
			for i := range 16 {
				if x.p.was[i] == 0 {
					x.p.says[i], _ = x.d.Read(i)
				}
			}
		}
		y, e := base.Open(x.d)
		if e != api.OK || y.Broken() || y.Gen() != 2 || y.Commit() != api.OK || y.Back() != api.OK {
			t.Fatal(n, e)
		}
	}
}

// P11.6: a Commit that the disk does not let begin breaks, even if the power was gone before.
func TestCommitWithoutPower(t *testing.T) {
	x := start(t, 16)
	arm(t, x.d, 0)
	x.d.Flush()
	x.put(mixed(1))
	x.is("Commit", x.b.Commit(), api.ErrDown)
	x.p.broken = true
	x.tells()
	x.refuses(api.ErrBroken, x.b.Commit())
}

// noDisks are disks that are none.
func noDisks(t testing.TB) []*disk.Disk {
	byValue, over, emptied := *start(t, 16).d, start(t, 16).d, start(t, 16).d
	*over = *start(t, 16).d
	*emptied = disk.Disk{}
	return []*disk.Disk{nil, {}, new(disk.Disk), &byValue, over, emptied}
}

// P11.1, P11.2, R5: no disk is formatted, nor opened.
func TestNoDisk(t *testing.T) {
	for i, d := range noDisks(t) {
		if e := base.Format(d); e != api.ErrNil {
			t.Error(i, e)
		}
		if b, e := base.Open(d); b != nil || e != api.ErrNil {
			t.Error(i, b, e)
		}
	}
}

// R1: a base whose disk is none any more ends each call with an error.
func TestDiskIsNoneAnyMore(t *testing.T) {
	x := start(t, 16)
	x.put(mixed(1))
	*x.d = disk.Disk{}
	if data, e := x.b.Read(2); data != nil || e != api.ErrNil {
		t.Error(data, e)
	}
	if e := x.b.Commit(); e != api.ErrNil || !x.b.Broken() {
		t.Error(e)
	}
}

// R5: a base that is nil, or that Open did not answer, answers zeros, and ErrNil.
func TestNoBase(t *testing.T) {
	byValue, over, emptied := *start(t, 16).b, start(t, 16).b, start(t, 16).b
	*over = *start(t, 16).b
	*emptied = base.Base{}
	refused, _ := base.Open(made(t, 16))
	for i, b := range []*base.Base{nil, {}, new(base.Base), &byValue, over, emptied, refused} {
		for _, at := range append(nowhere, 0, 1, 2, 3, 4, 15, 16) {
			data, one := b.Read(at)
			put, two := b.Put(mixed(1))
			for j, e := range []api.Errno{one, two, b.Over(at, mixed(1)), b.Over(at, nil), b.Up(at), b.Down(at), b.SetRoot(2, at), b.SetRoot(at, 4), b.SetMark(at, 1), b.Commit(), b.Back()} {
				if e != api.ErrNil {
					t.Error(i, at, j, e)
				}
			}
			if data != nil || put != 0 || b.Gen() != 0 || b.Blocks() != 0 || b.Root(at) != 0 || b.Mark(at) != 0 || b.Fresh(at) || b.Count(at) != 0 || b.Room() != 0 || b.Waits() != 0 || b.Broken() {
				t.Error(i, at, "it tells something")
			}
		}
	}
}

// P11.2: two bases of copies of one disk have nothing in common; a base of a copied disk stays at its own.
func TestBasesApart(t *testing.T) {
	x := start(t, 16)
	x.put(mixed(1))
	y := opened(t, x.d.Copy(), x.p.clone())
	y.put(mixed(2))
	y.mark(0, 9)
	y.commit()
	x.tells()
	x.commit()
	y.tells()
	y.again()
	x.again()
}
