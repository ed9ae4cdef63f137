package dir_test

import (
	"fmt"
	"math"
	"math/bits"
	"math/rand"
	"slices"
	"testing"

	"catchment/api"
	"catchment/dir"
)

const top = math.MaxUint64 // the greatest fingerprint

// of answers a directory that names these blocks.
func of(blocks ...uint16) api.Dir {
	return api.Dir{Depth: uint8(bits.Len(uint(len(blocks))) - 1), Slots: blocks}
}

// row answers n blocks from first on, step apart.
func row(n int, first, step uint16) []uint16 {
	out := make([]uint16, n)
	for i := range out {
		out[i] = first + uint16(i)*step
	}
	return out
}

// same tells whether two directories are the same (R6).
func same(a, b api.Dir) bool {
	return a.Depth == b.Depth && slices.Equal(a.Slots, b.Slots)
}

// none tells whether every field of a directory is zero.
func none(d api.Dir) bool {
	return d.Depth == 0 && len(d.Slots) == 0
}

// shapes answers all right directories of so many bits: their blocks are told in the order of their slots, each other than those ahead.
func shapes(depth int) []api.Dir {
	var out []api.Dir
	for _, cuts := range trees(depth) {
		d := api.Dir{Depth: uint8(depth)}
		for i, many := range cuts {
			d.Slots = append(d.Slots, slices.Repeat([]uint16{uint16(4095 - 3*i)}, many)...)
		}
		out = append(out, d)
	}
	return out
}

// trees answers, of all ways in which so many bits may be buckets, how many slots each bucket has.
func trees(depth int) [][]int {
	out := [][]int{{1 << depth}}
	if depth == 0 {
		return out
	}
	halves := trees(depth - 1)
	for _, a := range halves {
		for _, b := range halves {
			out = append(out, slices.Concat(a, b))
		}
	}
	return out
}

// random answers a right directory of so many bits by chance; its blocks are in no order.
func random(r *rand.Rand, depth int) api.Dir {
	blocks := r.Perm(4095)
	d := api.Dir{Depth: uint8(depth), Slots: make([]uint16, 1<<depth)}
	var fill func(from, to int)
	fill = func(from, to int) {
		if to-from == 1 || r.Intn(4) == 0 {
			for i := from; i < to; i++ {
				d.Slots[i] = uint16(blocks[0] + 1)
			}
			blocks = blocks[1:]
			return
		}
		fill(from, (from+to)/2)
		fill((from+to)/2, to)
	}
	fill(0, 1<<depth)
	return d
}

// alone is a directory of so many bits of which each slot is a bucket.
func alone(depth int) api.Dir {
	return of(row(1<<depth, 1, 1)...)
}

// one is a directory of so many bits that is one bucket.
func one(depth int, block uint16) api.Dir {
	return of(row(1<<depth, block, 0)...)
}

// stairs is a directory of so many bits whose buckets are of 1, 2 .. bits, and the last one of as many as that one.
func stairs(depth int) api.Dir {
	d := api.Dir{Depth: uint8(depth)}
	for k := 1; k <= depth; k++ {
		d.Slots = append(d.Slots, row(1<<(depth-k), uint16(k), 0)...)
	}
	d.Slots = append(d.Slots, 4095)
	return d
}

// backwards is the same directory with its slots in the other order.
func backwards(d api.Dir) api.Dir {
	d.Slots = slices.Clone(d.Slots)
	slices.Reverse(d.Slots)
	return d
}

// rights are right directories of all depths: few buckets, as many as may be, some of unlike depths.
func rights() []api.Dir {
	var out []api.Dir
	for depth := range 4 {
		out = append(out, shapes(depth)...)
	}
	r := rand.New(rand.NewSource(1))
	for depth := range 9 {
		out = append(out, alone(depth), one(depth, 4095), one(depth, 1), stairs(depth), backwards(stairs(depth)), random(r, depth))
		if depth > 0 { // just one bucket has two slots
			out = append(out, with(alone(depth), 1, 1), with(alone(depth), 1<<depth-2, uint16(1<<depth)))
		}
	}
	return out
}

// with answers a directory whose slot names another block.
func with(d api.Dir, slot int, block uint16) api.Dir {
	d.Slots = slices.Clone(d.Slots)
	d.Slots[slot] = block
	return d
}

// wrongs are directories that are not right, each by one thing alone.
func wrongs() map[string]api.Dir {
	out := map[string]api.Dir{
		"nothing":                      {},
		"an empty list":                {Slots: []uint16{}},
		"Depth 0, two slots":           {Slots: []uint16{5, 5}},
		"Depth 9, 512 slots":           {Depth: 9, Slots: row(512, 1, 1)},
		"Depth 9, 512 slots, 1 bucket": {Depth: 9, Slots: row(512, 1, 0)},
		"Depth 9, 256 slots":           {Depth: 9, Slots: row(256, 1, 1)},
		"Depth 10, 1024 slots":         {Depth: 10, Slots: row(1024, 1, 1)},
		"5 6 6 5":                      of(5, 6, 6, 5),
		"5 6 5 6":                      of(5, 6, 5, 6),
		"5 5 5 6":                      of(5, 5, 5, 6),
		"6 5 5 5":                      of(6, 5, 5, 5),
		"5 5 6 5":                      of(5, 5, 6, 5),
		"5 6 5 5":                      of(5, 6, 5, 5),
		"5 6 6 7":                      of(5, 6, 6, 7),
		"5 6 7 5":                      of(5, 6, 7, 5),
		"5 6 5 7":                      of(5, 6, 5, 7),
		"5 6 7 6":                      of(5, 6, 7, 6),
		"quarters of two halves":       of(1, 1, 2, 2, 2, 2, 3, 3),
		"quarters apart":               of(1, 1, 2, 2, 1, 1, 3, 3),
		"halves beside a quarter":      of(1, 1, 1, 1, 1, 1, 3, 3),
		"a quarter beside a half":      of(3, 3, 1, 1, 1, 1, 1, 1),
		"a half, and one far":          of(1, 1, 1, 1, 2, 2, 3, 1),
		"a pair over an odd place":     of(1, 2, 2, 3, 4, 4, 5, 5),
		"four over an odd place":       of(1, 1, 2, 2, 2, 2, 4, 5),
		"three":                        of(1, 1, 1, 2, 3, 3, 3, 3),
		"six of Depth 3":               of(1, 2, 2, 2, 2, 2, 2, 3),
	}
	for depth := range 9 {
		name := fmt.Sprint("Depth ", depth, ", ")
		for _, n := range []int{0, 1<<depth - 1, 1<<depth + 1, 2 << depth, 3 << depth, 1 << depth >> 1} {
			out[name+fmt.Sprint(n, " slots")] = api.Dir{Depth: uint8(depth), Slots: row(n, 1, 1)}
			out[name+fmt.Sprint(n, " slots of one bucket")] = api.Dir{Depth: uint8(depth), Slots: row(n, 7, 0)}
		}
		for _, block := range []uint16{0, 4096, 4097, 1 << 15, 65535} {
			out[name+fmt.Sprint("all slots ", block)] = one(depth, block)
			for _, slot := range []int{0, 1 << depth / 2, 1<<depth - 1} {
				out[name+fmt.Sprint("slot ", slot, " ", block)] = with(alone(depth), slot, block)
			}
		}
		for _, slot := range []int{0, 1, 1 << depth / 2, 1<<depth - 1} {
			if depth > 1 { // a bucket that has a hole
				out[name+fmt.Sprint("one bucket, but slot ", slot)] = with(one(depth, 9), slot, 10)
				out[name+fmt.Sprint("two buckets, but slot ", slot)] = with(of(slices.Concat(row(1<<depth/2, 1, 0), row(1<<depth/2, 2, 0))...), slot, 3-uint16(slot>>(depth-1)+1))
			}
			if depth > 1 && slot > 1 { // blocks that stand apart
				out[name+fmt.Sprint("slot ", slot, " like slot 0")] = with(alone(depth), slot, 1)
			}
		}
	}
	for _, depth := range []uint8{16, 31, 32, 33, 63, 64, 65, 127, 128, 254, 255} {
		for _, n := range []int{0, 1, 2, 256} {
			out[fmt.Sprint("Depth ", depth, ", ", n, " slots")] = api.Dir{Depth: depth, Slots: row(n, 1, 1)}
		}
	}
	return out
}

// edges are fingerprints at the ends of each slot of a directory of so many bits.
func edges(depth int) []uint64 {
	out := []uint64{0, 1, 1<<63 - 1, 1 << 63, 1<<63 + 1, top - 1, top, 1 << 55, 1 << 56, 1<<56 - 1, 255, 256}
	many := uint64(1) << (64 - depth) // 0, if one slot has all of them
	for i := range uint64(1) << depth {
		out = append(out, i*many, i*many+1, i*many+many/2, i*many+many-1, i*many+many-2)
	}
	return out
}

// places are slots about the ends of a directory, and far beyond them.
func places(d api.Dir) []int {
	n := len(d.Slots)
	return []int{-1, -2, math.MinInt, math.MinInt + 1, -n, -256, n, n + 1, 2 * n, 256, 257, 4096, 1 << 32, math.MaxInt - 1, math.MaxInt}
}

// P17.1 to P17.4: the chapter's examples.
func TestExamples(t *testing.T) {
	d := of(5)
	for _, print := range []uint64{0, 1, 1 << 63, top} {
		isAt(t, d, print, 0)
	}
	isDir(t, "Double of 5", of(5, 5))(dir.Double(d))
	isDir(t, "Point", of(5, 6))(dir.Point(of(5, 5), 1, 1, 6))
	isDepth(t, of(5, 6), 0, 1)
	isDepth(t, of(5, 6), 1, 1)
	isDir(t, "Double of 5 6", of(5, 5, 6, 6))(dir.Double(of(5, 6)))
	isBucket(t, of(5, 5, 6, 6), 3, 2, 3)
	isDir(t, "Halve of 5 5 6 6", of(5, 6))(dir.Halve(of(5, 5, 6, 6)))
	refused(t, "Halve of 5 6", api.ErrDeep)(dir.Halve(of(5, 6)))
	isAt(t, of(5, 5, 6, 6), 1<<63, 2)
	for _, d := range []api.Dir{of(5, 6, 6, 5), of(5, 6, 5, 6), of(5, 5, 5, 6)} {
		if dir.Right(d) {
			t.Error(d, "is right")
		}
	}
	refused(t, "Point of 5 5 5 5", api.ErrDeep)(dir.Point(of(5, 5, 5, 5), 3, 2, 6))
	isBuddy(t, 3, 1, 2, 0)
	isBuddy(t, 3, 2, 2, 2)
}

// isAt tells where a fingerprint has to come to.
func isAt(t *testing.T, d api.Dir, print uint64, want int) {
	t.Helper()
	if slot, e := dir.At(d, print); slot != want || e != api.OK {
		t.Errorf("At(%v, %x): %d, %d; not %d", d, print, slot, e, want)
	}
}

// isBucket tells which slots have to be a slot's bucket.
func isBucket(t *testing.T, d api.Dir, slot int, want ...int) {
	t.Helper()
	if l, e := dir.Bucket(d, slot); !slices.Equal(l, want) || e != api.OK {
		t.Errorf("Bucket(%v, %d): %v, %d; not %v", d, slot, l, e, want)
	}
}

// isDepth tells what has to be the depth of a slot's bucket.
func isDepth(t *testing.T, d api.Dir, slot, want int) {
	t.Helper()
	if k, e := dir.Depth(d, slot); k != want || e != api.OK {
		t.Errorf("Depth(%v, %d): %d, %d; not %d", d, slot, k, e, want)
	}
}

// isBuddy tells what has to be a buddy.
func isBuddy(t *testing.T, slot, depth, bits, want int) {
	t.Helper()
	if b, e := dir.Buddy(slot, depth, bits); b != want || e != api.OK {
		t.Errorf("Buddy(%d, %d, %d): %d, %d; not %d", slot, depth, bits, b, e, want)
	}
}

// isDir tells what a call has to answer.
func isDir(t *testing.T, what string, want api.Dir) func(api.Dir, api.Errno) {
	return func(d api.Dir, e api.Errno) {
		t.Helper()
		if !same(d, want) || e != api.OK {
			t.Errorf("%s: %v, %d; not %v", what, d, e, want)
		}
	}
}

// refused tells which error a call has to answer, with nothing beside it (R2).
func refused(t *testing.T, what string, want api.Errno) func(api.Dir, api.Errno) {
	return func(d api.Dir, e api.Errno) {
		t.Helper()
		if !none(d) || e != want {
			t.Errorf("%s: %v, %d; not %d", what, d, e, want)
		}
	}
}

// like tells what a call has to answer as a plain one does.
func like(t *testing.T, what string, want api.Dir, as api.Errno) func(api.Dir, api.Errno) {
	if as != api.OK {
		return refused(t, what, as)
	}
	return isDir(t, what, want)
}

// P17.1: Right of right directories, as few and as many bits and buckets as may be.
func TestRight(t *testing.T) {
	for depth := range 5 {
		for _, d := range shapes(depth) {
			if !dir.Right(d) || !right(d) {
				t.Error(d, "is not right")
			}
		}
	}
	for _, d := range rights() {
		if !dir.Right(d) || !right(d) {
			t.Error(d, "is not right")
		}
	}
	blocks := map[string]api.Dir{
		"1":             of(1),
		"4095":          of(4095),
		"1 4095":        of(1, 4095),
		"256 greatest":  of(row(256, 3840, 1)...),
		"falling":       backwards(alone(8)),
		"one of 256":    one(8, 77),
		"two halves":    of(slices.Concat(row(128, 2, 0), row(128, 1, 0))...),
		"half of it":    of(slices.Concat(row(128, 4000, 0), row(128, 1, 1))...),
		"blocks 0 on 1": of(slices.Concat(row(128, 1, 1), row(128, 4000, 0))...),
	}
	for name, d := range blocks {
		if !dir.Right(d) {
			t.Error(name, "is not right")
		}
	}
}

// P17.1: Right of directories that are not right.
func TestNotRight(t *testing.T) {
	for name, d := range wrongs() {
		if dir.Right(d) || right(d) {
			t.Error(name, "is right:", d)
		}
	}
}

// P17.1: Right of all lists of a few blocks, beside the words.
func TestRightOfAllLists(t *testing.T) {
	many := 0
	for _, x := range []struct {
		slots  int
		blocks []uint16
	}{{1, []uint16{0, 1, 2, 4095, 4096, 65535}}, {2, []uint16{0, 1, 2, 4095, 4096, 65535}}, {4, []uint16{0, 1, 2, 3, 4095, 4096}}, {8, []uint16{1, 2, 3}}, {8, []uint16{4094, 4095}}} {
		lists(x.slots, x.blocks, nil, func(l []uint16) {
			d := of(l...)
			if is := right(d); dir.Right(d) != is {
				t.Error(d, "is right:", !is)
			} else if is {
				many++
			}
		})
	}
	if many < 100 {
		t.Error("no more than", many, "of all lists are right")
	}
}

// lists tells all lists of so many of these blocks.
func lists(n int, blocks, ahead []uint16, tell func([]uint16)) {
	if n == 0 {
		tell(slices.Clone(ahead))
		return
	}
	for _, block := range blocks {
		lists(n-1, blocks, append(ahead, block), tell)
	}
}

// P17.1: a right directory in which one slot names another block, beside the words: each slot, some blocks.
func TestOneSlotAnother(t *testing.T) {
	for _, d := range rights() {
		step := max(1, len(d.Slots)/16)
		for slot := 0; slot < len(d.Slots); slot += step {
			for _, block := range []uint16{0, 1, d.Slots[0], d.Slots[slot^1%len(d.Slots)], d.Slots[len(d.Slots)-1], 2222, 4095, 4096} {
				x := with(d, slot, block)
				if is := right(x); dir.Right(x) != is {
					t.Error(x, "is right:", !is)
				}
			}
		}
	}
}

// P17.1: At of fingerprints at the ends of each slot.
func TestAt(t *testing.T) {
	for depth := range 9 {
		for _, d := range []api.Dir{alone(depth), one(depth, 4095), stairs(depth)} {
			for i, print := range edges(depth) {
				want := 0
				if depth > 0 {
					want = int(print >> (64 - depth))
				}
				if i%7 == 0 && want != at(d, print) {
					t.Fatal("the test's words differ", depth, print)
				}
				isAt(t, d, print, want)
			}
		}
	}
}

// P17.1: At hangs on the first bits alone, and not on what slots name.
func TestAtOfEachBit(t *testing.T) {
	for depth := range 9 {
		d := alone(depth)
		for bit := range 64 {
			want := 0
			if bit >= 64-depth {
				want = 1 << (bit - (64 - depth))
			}
			isAt(t, d, 1<<bit, want)
			isAt(t, one(depth, 9), 1<<bit, want)
			isAt(t, d, ^uint64(1<<bit), 1<<depth-1-want)
		}
	}
}

// P17.1: Bucket and Depth of each slot.
func TestBucketAndDepth(t *testing.T) {
	for _, d := range rights() {
		for slot := range d.Slots {
			if len(d.Slots) > 16 && slot%5 != 0 && slot != len(d.Slots)-1 {
				continue
			}
			k, ok := deep(d, slot)
			if !ok {
				t.Fatal(d, "is not right")
			}
			isBucket(t, d, slot, bucket(d, slot)...)
			isDepth(t, d, slot, k)
		}
	}
}

// P17.1: Bucket and Depth of the stairs: a bucket of each depth.
func TestBucketsOfUnlikeDepths(t *testing.T) {
	d := stairs(8)
	from := 0
	for k := 1; k <= 8; k++ {
		many := 1 << (8 - k)
		want := make([]int, many)
		for i := range want {
			want[i] = from + i
		}
		for _, slot := range want {
			isDepth(t, d, slot, k)
			isBucket(t, d, slot, want...)
		}
		from += many
	}
	isDepth(t, d, 255, 8)
	isBucket(t, d, 255, 255)
}

// P17.1: slots that there are not.
func TestNoSuchSlot(t *testing.T) {
	for _, d := range rights() {
		for _, slot := range places(d) {
			if slot >= 0 && slot < len(d.Slots) {
				continue
			}
			if l, e := dir.Bucket(d, slot); len(l) != 0 || e != api.ErrArg {
				t.Errorf("Bucket of slot %d of %d: %v, %d", slot, len(d.Slots), l, e)
			}
			if k, e := dir.Depth(d, slot); k != 0 || e != api.ErrArg {
				t.Errorf("Depth of slot %d of %d: %d, %d", slot, len(d.Slots), k, e)
			}
			refused(t, fmt.Sprint("Point at ", slot, " of ", len(d.Slots)), api.ErrArg)(dir.Point(d, slot, 0, 5))
		}
		last := len(d.Slots) - 1
		isBucket(t, d, last, bucket(d, last)...)
		isBucket(t, d, 0, bucket(d, 0)...)
	}
}

// P17.2: Point that joins buckets, cuts one, names what was named, takes a block that stands elsewhere.
func TestPoint(t *testing.T) {
	for _, x := range []struct {
		what        string
		d           api.Dir
		slot, depth int
		block       uint16
		want        []uint16
	}{
		{"a new block", of(5), 0, 0, 6, []uint16{6}},
		{"the same block", of(5), 0, 0, 5, []uint16{5}},
		{"the least block", of(5), 0, 0, 1, []uint16{1}},
		{"the greatest block", of(5), 0, 0, 4095, []uint16{4095}},
		{"a bucket cut, its second half", of(5, 5), 1, 1, 6, []uint16{5, 6}},
		{"a bucket cut, its first half", of(5, 5), 0, 1, 6, []uint16{6, 5}},
		{"a bucket joined by the block beside", of(5, 6), 1, 1, 5, []uint16{5, 5}},
		{"two buckets joined by one's block", of(5, 6), 1, 0, 5, []uint16{5, 5}},
		{"two buckets joined by a new block", of(5, 6), 0, 0, 7, []uint16{7, 7}},
		{"all of them", of(1, 2, 3, 4, 5, 6, 7, 8), 5, 0, 9, []uint16{9, 9, 9, 9, 9, 9, 9, 9}},
		{"a half of them", of(1, 2, 3, 4, 5, 6, 7, 8), 5, 1, 9, []uint16{1, 2, 3, 4, 9, 9, 9, 9}},
		{"a half of them, by a block of theirs", of(1, 2, 3, 4, 5, 6, 7, 8), 7, 1, 6, []uint16{1, 2, 3, 4, 6, 6, 6, 6}},
		{"a quarter of a half", of(1, 1, 1, 1, 5, 5, 5, 5), 3, 2, 9, []uint16{1, 1, 9, 9, 5, 5, 5, 5}},
		{"a quarter put back", of(1, 1, 9, 9, 5, 5, 5, 5), 2, 2, 1, []uint16{1, 1, 1, 1, 5, 5, 5, 5}},
		{"a bucket's block, renamed by its own depth", of(1, 1, 2, 3), 1, 1, 4, []uint16{4, 4, 2, 3}},
		{"one slot of a pair, named as it was", of(1, 1, 2, 3), 1, 2, 1, []uint16{1, 1, 2, 3}},
		{"a bucket beside, whole", of(1, 1, 2, 3), 3, 1, 1, []uint16{1, 1, 1, 1}},
	} {
		isDir(t, x.what, of(x.want...))(dir.Point(x.d, x.slot, x.depth, x.block))
	}
	for _, x := range []struct {
		what        string
		d           api.Dir
		slot, depth int
		block       uint16
	}{
		{"a quarter of one bucket", of(5, 5, 5, 5), 3, 2, 6},
		{"a block that stands elsewhere", of(1, 2, 3, 4), 0, 2, 3},
		{"a block that stands over the half's end", of(1, 2, 3, 4), 1, 2, 3},
		{"a block that stands over the half's end, from behind", of(1, 2, 3, 4), 2, 2, 2},
		{"a bucket's block, for a slot beside", of(1, 1, 2, 3), 2, 2, 1},
		{"half of a bucket, by the block beside", of(1, 1, 2, 3), 1, 2, 2},
		{"a half, by a quarter's block of the other one", of(1, 1, 2, 3), 0, 1, 3},
		{"a slot of a half", of(1, 1, 1, 1, 2, 2, 2, 2), 0, 3, 9},
		{"a slot of a half, the last one", of(1, 1, 1, 1, 2, 2, 2, 2), 7, 3, 9},
	} {
		refused(t, x.what, api.ErrDeep)(dir.Point(x.d, x.slot, x.depth, x.block))
	}
}

// P17.2: Point of all shapes, at each slot and depth, with each block of the directory and others, beside the words.
func TestPointBesideTheWords(t *testing.T) {
	done := map[api.Errno]int{}
	for depth := range 4 {
		for _, d := range shapes(depth) {
			blocks := append(slices.Compact(slices.Clone(d.Slots)), 0, 1, 2, 4096, 65535)
			for slot := -1; slot <= len(d.Slots); slot++ {
				for k := -1; k <= depth+1; k++ {
					for _, block := range blocks {
						want, as := point(d, slot, k, block)
						like(t, fmt.Sprint("Point ", d, slot, k, block), want, as)(dir.Point(d, slot, k, block))
						done[as]++
					}
				}
			}
		}
	}
	if len(done) != 3 || done[api.OK] < 1000 || done[api.ErrDeep] < 1000 {
		t.Error("too few of each:", done)
	}
}

// P17.2: Point of deep directories by chance, beside the words.
func TestPointByChance(t *testing.T) {
	r := rand.New(rand.NewSource(2))
	done := map[api.Errno]int{}
	for range 1500 {
		d := random(r, 4+r.Intn(5))
		slot, k, block := r.Intn(len(d.Slots)), r.Intn(int(d.Depth)+1), uint16(1+r.Intn(4095))
		if r.Intn(2) == 0 {
			block = d.Slots[r.Intn(len(d.Slots))]
		}
		if own, _ := deep(d, slot); r.Intn(2) == 0 {
			k = min(own+r.Intn(2), int(d.Depth))
		}
		want, as := point(d, slot, k, block)
		like(t, fmt.Sprint("Point ", d, slot, k, block), want, as)(dir.Point(d, slot, k, block))
		done[as]++
	}
	if done[api.OK] < 300 || done[api.ErrDeep] < 300 {
		t.Error("too few of each:", done)
	}
}

// P17.2: what Point refuses: ErrArg comes ahead of ErrDeep.
func TestPointRefused(t *testing.T) {
	for _, d := range rights() {
		deepest := int(d.Depth)
		for _, depth := range []int{-1, deepest + 1, 9, 64, 255, 256, 1 << 32, math.MinInt, math.MaxInt} {
			refused(t, fmt.Sprint("Point of ", deepest, " bits by ", depth), api.ErrArg)(dir.Point(d, 0, depth, 4000))
			refused(t, fmt.Sprint("Point of ", deepest, " bits by ", depth), api.ErrArg)(dir.Point(d, 0, depth, 0))
		}
		for _, block := range []uint16{0, 4096, 4097, 65535} {
			for _, depth := range []int{0, deepest} {
				refused(t, fmt.Sprint("Point of ", deepest, " bits by ", depth, " to ", block), api.ErrArg)(dir.Point(d, 0, depth, block))
			}
		}
		isDir(t, "Point by no bits", one(deepest, 4095))(dir.Point(d, len(d.Slots)-1, 0, 4095))
		isDir(t, "Point by no bits", one(deepest, 1))(dir.Point(d, 0, 0, 1))
		isDir(t, "Point to the same", d)(dir.Point(d, len(d.Slots)-1, deepest, d.Slots[len(d.Slots)-1]))
	}
}

// P17.3: Double of directories of each depth.
func TestDouble(t *testing.T) {
	for _, d := range rights() {
		want, as := double(d)
		like(t, fmt.Sprint("Double ", d), want, as)(dir.Double(d))
		if (as == api.ErrDeep) != (d.Depth == 8) {
			t.Fatal("the test's words are wrong")
		}
	}
	seven := alone(7)
	x, e := dir.Double(seven)
	if e != api.OK || x.Depth != 8 || len(x.Slots) != 256 || x.Slots[254] != 128 || x.Slots[255] != 128 || x.Slots[1] != 1 || x.Slots[2] != 2 {
		t.Error("Double of 7 bits:", x, e)
	}
	refused(t, "Double of 8 bits", api.ErrDeep)(dir.Double(x))
	refused(t, "Double of 8 bits, one bucket", api.ErrDeep)(dir.Double(one(8, 5)))
}

// P17.3: Halve of directories of each depth.
func TestHalve(t *testing.T) {
	done := map[api.Errno]int{}
	for _, d := range rights() {
		want, as := halve(d)
		like(t, fmt.Sprint("Halve ", d), want, as)(dir.Halve(d))
		done[as]++
	}
	if done[api.OK] < 15 || done[api.ErrDeep] < 15 {
		t.Error("too few of each:", done)
	}
	refused(t, "Halve of no bits", api.ErrDeep)(dir.Halve(of(5)))
	refused(t, "Halve of 1 2", api.ErrDeep)(dir.Halve(of(1, 2)))
	isDir(t, "Halve of 1 1", of(1))(dir.Halve(of(1, 1)))
	isDir(t, "Halve of 8 bits", one(7, 9))(dir.Halve(one(8, 9)))
}

// P17.3: Halve where just one pair of slots is cut: any of them.
func TestHalveOfOneSingle(t *testing.T) {
	for depth := 1; depth <= 8; depth++ {
		d, _ := double(alone(depth - 1))
		isDir(t, "Halve of pairs", alone(depth-1))(dir.Halve(d))
		for slot := range d.Slots {
			refused(t, fmt.Sprint("Halve, slot ", slot, " single, of ", depth, " bits"), api.ErrDeep)(dir.Halve(with(d, slot, 4000)))
		}
	}
}

// P17.4: Buddy of all numbers, beside the words.
func TestBuddy(t *testing.T) {
	for bits := -2; bits <= 10; bits++ {
		for depth := -2; depth <= bits+2; depth++ {
			for slot := -2; slot <= 1<<max(bits, 0)+1; slot++ {
				if bits == 8 && slot%3 != 0 && slot > 5 && slot < 250 {
					continue
				}
				want, as := buddy(slot, depth, bits)
				if b, e := dir.Buddy(slot, depth, bits); b != want || e != as {
					t.Errorf("Buddy(%d, %d, %d): %d, %d; not %d, %d", slot, depth, bits, b, e, want, as)
				}
			}
		}
	}
}

// P17.4: some buddies, and what there is none of.
func TestSomeBuddies(t *testing.T) {
	for _, x := range [][4]int{
		{0, 1, 1, 1}, {1, 1, 1, 0},
		{0, 1, 8, 128}, {127, 1, 8, 128}, {128, 1, 8, 0}, {255, 1, 8, 0},
		{0, 8, 8, 1}, {255, 8, 8, 254}, {254, 8, 8, 255}, {128, 8, 8, 129},
		{255, 4, 8, 224}, {5, 1, 3, 0}, {5, 2, 3, 6}, {5, 3, 3, 4},
	} {
		isBuddy(t, x[0], x[1], x[2], x[3])
	}
	for _, x := range [][3]int{
		{0, 0, 0}, {0, 1, 0}, {0, -1, 0}, {0, 0, 1}, {0, 2, 1}, {2, 1, 1}, {-1, 1, 1}, {0, 0, 8}, {0, 9, 8}, {256, 8, 8}, {256, 1, 8}, {-1, 8, 8},
		{0, 1, 9}, {0, 9, 9}, {0, 1, -1}, {0, -1, -1}, {0, 1, 64}, {0, 64, 64}, {0, 1, 65}, {0, 1, 63}, {0, 1, 62},
		{math.MaxInt, 1, 8}, {math.MinInt, 1, 8}, {0, math.MaxInt, 8}, {0, math.MinInt, 8}, {0, 1, math.MaxInt}, {0, 1, math.MinInt},
		{math.MaxInt, math.MaxInt, math.MaxInt}, {math.MinInt, math.MinInt, math.MinInt}, {0, math.MaxInt, math.MaxInt}, {0, math.MinInt, math.MinInt},
	} {
		if b, e := dir.Buddy(x[0], x[1], x[2]); b != 0 || e != api.ErrArg {
			t.Errorf("Buddy(%v): %d, %d", x, b, e)
		}
	}
}

// P17.4: a buddy's own buddy is in the slot's half; both halves are all that are alike in one bit less.
func TestBuddyOfTheBuddy(t *testing.T) {
	for bits := 1; bits <= 8; bits++ {
		for depth := 1; depth <= bits; depth++ {
			for slot := range 1 << bits {
				a, _ := dir.Buddy(slot, depth, bits)
				b, _ := dir.Buddy(a, depth, bits)
				half := 1 << (bits - depth)
				if slot < b || slot >= b+half || min(a, b)%(2*half) != 0 || max(a, b) != min(a, b)+half {
					t.Fatal("Buddy", slot, depth, bits, a, b)
				}
			}
		}
	}
}

// P17.5: each slot is in one bucket: buckets tell the same of each of their slots, and have no other.
func TestEachSlotInOneBucket(t *testing.T) {
	for _, d := range rights() {
		in := make([]int, len(d.Slots))
		for slot := 0; slot < len(d.Slots); {
			l, _ := dir.Bucket(d, slot)
			k, _ := dir.Depth(d, slot)
			if len(l) != len(d.Slots)>>k {
				t.Fatal(d, slot, l, k)
			}
			for _, i := range l {
				in[i]++
				other, _ := dir.Bucket(d, i)
				deep, e := dir.Depth(d, i)
				if !slices.Equal(other, l) || deep != k || e != api.OK {
					t.Fatal(d, slot, i, l, other, k, deep)
				}
			}
			slot = slices.Max(l) + 1
		}
		if slices.ContainsFunc(in, func(n int) bool { return n != 1 }) {
			t.Error(d, in)
		}
	}
}

// P17.5: fingerprints that are alike in a bucket's depth bits come to that bucket, those that are not do not.
func TestFingerprintsOfABucket(t *testing.T) {
	r := rand.New(rand.NewSource(3))
	for _, d := range rights() {
		for range 20 {
			print := r.Uint64()
			slot, _ := dir.At(d, print)
			k, _ := dir.Depth(d, slot)
			block := d.Slots[slot]
			for bit := range 64 {
				other := print ^ 1<<(63-bit)
				if bit >= k { // and whatever is behind it
					other ^= r.Uint64() >> bit >> 1
				}
				at, e := dir.At(d, other)
				if e != api.OK || (d.Slots[at] == block) != (bit >= k) {
					t.Fatalf("%v: %x at %d in %d bits, but %x at %d", d, print, slot, k, other, at)
				}
			}
		}
	}
}

// P17.5: doubled and halved again, a directory is the same, and each fingerprint comes to the same block all the way.
func TestDoubledAndHalved(t *testing.T) {
	r := rand.New(rand.NewSource(4))
	for _, d := range rights() {
		prints := append(edges(int(d.Depth)), r.Uint64(), r.Uint64(), r.Uint64())
		leads := func(x api.Dir) {
			t.Helper()
			for _, print := range prints {
				at, e := dir.At(x, print)
				was, _ := dir.At(d, print)
				if e != api.OK || x.Slots[at] != d.Slots[was] {
					t.Fatalf("%x leads elsewhere in %v than in %v", print, x, d)
				}
			}
		}
		x := d
		for x.Depth < 8 {
			y, e := dir.Double(x)
			if e != api.OK || !dir.Right(y) {
				t.Fatal("Double", x, e)
			}
			leads(y)
			z, e := dir.Halve(y)
			if e != api.OK || !same(z, x) {
				t.Fatal("Halve", y, z, e)
			}
			x = y
		}
		for x.Depth > d.Depth {
			y, e := dir.Halve(x)
			if e != api.OK {
				t.Fatal("Halve", x, e)
			}
			leads(y)
			x = y
		}
		if !same(x, d) {
			t.Error(x, "was", d)
		}
	}
}

// P17.5: a directory that is pointed, doubled and halved by chance stays right, and leads each fingerprint as a map of all numbers of 8 bits does.
func TestADirectoryThatGrows(t *testing.T) {
	r := rand.New(rand.NewSource(5))
	for range 20 {
		d := of(1)
		var leads [256]uint16
		for i := range leads {
			leads[i] = 1
		}
		next := uint16(2)
		for range 300 {
			d, next = grown(t, r, d, &leads, next)
			for i, block := range leads {
				if at, e := dir.At(d, uint64(i)<<56|r.Uint64()>>8); e != api.OK || d.Slots[at] != block {
					t.Fatal("number", i, "comes to", at, "of", d, "not to", block)
				}
			}
		}
	}
}

// grown does one thing to a directory, and the same to the map.
func grown(t *testing.T, r *rand.Rand, d api.Dir, leads *[256]uint16, next uint16) (api.Dir, uint16) {
	t.Helper()
	slot := r.Intn(len(d.Slots))
	k, _ := dir.Depth(d, slot)
	var x api.Dir
	var e api.Errno
	switch r.Intn(4) {
	case 0:
		if x, e = dir.Double(d); e == api.ErrDeep && d.Depth == 8 {
			return d, next
		}
	case 1:
		if x, e = dir.Halve(d); e == api.ErrDeep && (d.Depth == 0 || slices.ContainsFunc(d.Slots, func(b uint16) bool { return once(d, b) })) {
			return d, next
		}
	case 2: // a bucket is cut
		k++
		if x, e = dir.Point(d, slot, k, next); k > int(d.Depth) {
			if e != api.ErrArg {
				t.Fatal("Point", d, slot, k, e)
			}
			return d, next
		}
		lead(leads, slot, k, int(d.Depth), next)
	default: // buckets are joined, if there are others
		k = max(k-1, 0)
		x, e = dir.Point(d, slot, k, next)
		lead(leads, slot, k, int(d.Depth), next)
	}
	if e != api.OK || !dir.Right(x) || !right(x) {
		t.Fatal(d, "comes to", x, e)
	}
	return x, next + 1
}

// once tells whether a block stands in one slot alone.
func once(d api.Dir, block uint16) bool {
	n := 0
	for _, b := range d.Slots {
		if b == block {
			n++
		}
	}
	return n == 1
}

// lead lets all numbers of 8 bits that are alike with a slot in k bits lead to a block.
func lead(leads *[256]uint16, slot, k, depth int, block uint16) {
	for _, i := range alikes(slot<<(8-depth), k, 8) {
		leads[i] = block
	}
}

// P17.1 to P17.3: of a directory that is not right all calls tell ErrDir, ahead of anything else, and nothing beside it.
func TestWrongDirectories(t *testing.T) {
	for name, d := range wrongs() {
		for _, print := range []uint64{0, 1 << 63, top} {
			if at, e := dir.At(d, print); at != 0 || e != api.ErrDir {
				t.Errorf("At of %s: %d, %d", name, at, e)
			}
		}
		for _, slot := range append(places(d), 0, len(d.Slots)-1) {
			if l, e := dir.Bucket(d, slot); len(l) != 0 || e != api.ErrDir {
				t.Errorf("Bucket of %s at %d: %v, %d", name, slot, l, e)
			}
			if k, e := dir.Depth(d, slot); k != 0 || e != api.ErrDir {
				t.Errorf("Depth of %s at %d: %d, %d", name, slot, k, e)
			}
			for _, depth := range []int{0, -1, 1, 8, 9, 255, math.MinInt, math.MaxInt} {
				for _, block := range []uint16{0, 5, 4096} {
					refused(t, "Point of "+name, api.ErrDir)(dir.Point(d, slot, depth, block))
				}
			}
		}
		refused(t, "Double of "+name, api.ErrDir)(dir.Double(d))
		refused(t, "Halve of "+name, api.ErrDir)(dir.Halve(d))
	}
}

// given is a directory whose slots lie in a list with others ahead and behind.
type given struct {
	d        api.Dir
	all, was []uint16
}

// give answers a directory with spare room that is told of, too.
func give(d api.Dir) given {
	all := slices.Concat(row(3, 60000, 1), d.Slots, row(300, 50000, 1))
	return given{api.Dir{Depth: d.Depth, Slots: all[3 : 3+len(d.Slots)]}, all, slices.Clone(all)}
}

// stays tells whether all of it is as it was.
func (g given) stays(t *testing.T, what string) {
	t.Helper()
	if !slices.Equal(g.all, g.was) {
		t.Error(what, "changes what is handed in:", g.was, "to", g.all)
	}
}

// calls answers all that is done to a directory, and the lists that are told by it.
func calls(d api.Dir) map[string][][]uint16 {
	out := map[string][][]uint16{}
	tell := func(what string) func(api.Dir, api.Errno) {
		return func(x api.Dir, _ api.Errno) { out[what] = append(out[what], x.Slots) }
	}
	dir.Right(d)
	for _, slot := range []int{-1, 0, len(d.Slots) / 2, len(d.Slots) - 1, len(d.Slots)} {
		dir.At(d, uint64(slot)<<56)
		dir.Depth(d, slot)
		dir.Bucket(d, slot)
		for depth := range int(d.Depth) + 2 {
			for _, block := range []uint16{0, 3333, 4096} {
				tell("Point")(dir.Point(d, slot, depth, block))
			}
			if slot >= 0 && slot < len(d.Slots) {
				tell("Point to the same")(dir.Point(d, slot, depth, d.Slots[slot]))
			}
		}
	}
	tell("Double")(dir.Double(d))
	tell("Halve")(dir.Halve(d))
	return out
}

// R3: what is handed in stays, its spare room too; of right directories and others.
func TestWhatIsHandedInStays(t *testing.T) {
	all := rights()
	for _, d := range wrongs() {
		all = append(all, d)
	}
	for _, d := range all {
		g := give(d)
		lists := calls(g.d)
		g.stays(t, "a call")
		for what, l := range lists { // what is told is new: so it may be written over
			for _, x := range l {
				x = x[:cap(x)]
				for i := range x {
					x[i] = 9
				}
			}
			g.stays(t, "what is told by "+what)
		}
	}
}

// R3: no two answers share memory, and none changes when what was handed in does.
func TestWhatIsToldIsNew(t *testing.T) {
	for _, d := range rights() {
		g := give(d)
		first, second := calls(g.d), calls(g.d)
		want := map[string][][]uint16{}
		for what, l := range second {
			for _, x := range l {
				want[what] = append(want[what], slices.Clone(x))
			}
		}
		for i := range g.all {
			g.all[i] = 7
		}
		for _, l := range first {
			for _, x := range l {
				x = x[:cap(x)]
				for i := range x {
					x[i] = 9
				}
			}
		}
		for what, l := range want {
			for i := range l {
				if !slices.Equal(second[what][i], l[i]) {
					t.Fatal(what, "shares memory")
				}
			}
		}
	}
}

// R3: two buckets that are told share no memory.
func TestBucketsAreNew(t *testing.T) {
	for _, d := range rights() {
		a, _ := dir.Bucket(d, 0)
		b, _ := dir.Bucket(d, 0)
		for i := range a[:cap(a)] {
			a[:cap(a)][i] = -5
		}
		if c, _ := dir.Bucket(d, 0); !slices.Equal(b, bucket(d, 0)) || !slices.Equal(c, b) {
			t.Error(d, b, c)
		}
	}
}

// R4: a call's answer hangs on its arguments alone: not on calls ahead of it.
func TestAnswersHangOnArguments(t *testing.T) {
	all := rights()
	var first []map[string][][]uint16
	for _, d := range all {
		first = append(first, calls(d))
	}
	for i := len(all) - 1; i >= 0; i-- {
		for what, l := range calls(all[i]) {
			if !slices.EqualFunc(l, first[i][what], slices.Equal[[]uint16]) {
				t.Error(what, "of", all[i], "answers something else")
			}
		}
	}
}
