package super_test

import (
	"bytes"
	"encoding/binary"
	"fmt"
	"math"
	"math/rand"
	"slices"
	"testing"

	"catchment/api"
	"catchment/octets"
	"catchment/super"
)

const greatest = uint64(math.MaxUint64) // the greatest generation, and the greatest mark

// spots are the first, middle and last places of roots and marks: all of them, as it is.
var spots = []int{0, 1, 2, 3, 4, 5, 6, 7}

// of answers a super of that generation and so many blocks, without roots and marks.
func of(gen uint64, blocks uint32) api.Super {
	return api.Super{Gen: gen, Blocks: blocks}
}

// full answers one whose numbers are all unlike, and differ from those of other seeds.
func full(gen uint64, blocks, seed uint32) api.Super {
	s := of(gen, blocks)
	for i := range s.Roots {
		s.Roots[i] = (seed*7 + uint32(i) + 1) % blocks
		s.Marks[i] = (uint64(seed)+1)*0x0102030405060708 + uint64(i)<<32 + uint64(i)
	}
	return s
}

// rooted answers a super with that root at a place.
func rooted(s api.Super, i int, root uint32) api.Super {
	s.Roots[i] = root
	return s
}

// marked answers a super with that mark at a place.
func marked(s api.Super, i int, mark uint64) api.Super {
	s.Marks[i] = mark
	return s
}

// bodyOf answers what should stand in the body of a page, laid by other means than the program's.
func bodyOf(s api.Super) []byte {
	body := binary.BigEndian.AppendUint64(nil, s.Gen)
	body = binary.BigEndian.AppendUint32(body, s.Blocks)
	for _, root := range s.Roots {
		body = binary.BigEndian.AppendUint32(body, root)
	}
	for _, mark := range s.Marks {
		body = binary.BigEndian.AppendUint64(body, mark)
	}
	return binary.BigEndian.AppendUint64(append(body, 0, 0, 0, 0, 0, 0, 0), s.Gen)
}

// sealed answers the page of a kind and a body, laid by other means than the program's, but for the sum.
func sealed(kind uint8, body []byte) []byte {
	page := append([]byte{kind}, body...)
	return binary.BigEndian.AppendUint32(page, octets.Sum(page))
}

// pageOf answers the page that a super should have, right or not.
func pageOf(s api.Super) []byte {
	return sealed(6, bodyOf(s))
}

// right is what the words say of a super.
func right(s api.Super) bool {
	return s.Gen != 0 && s.Blocks >= 16 && s.Blocks <= 4096 && slices.Max(s.Roots[:]) < s.Blocks
}

// read is what the words say of a page: the only super that it can have, if its bytes are that one's.
func read(page []byte) (api.Super, bool) {
	if len(page) != 128 {
		return api.Super{}, false
	}
	s := of(binary.BigEndian.Uint64(page[1:]), binary.BigEndian.Uint32(page[9:]))
	for i := range 8 {
		s.Roots[i] = binary.BigEndian.Uint32(page[13+4*i:])
		s.Marks[i] = binary.BigEndian.Uint64(page[45+8*i:])
	}
	return s, right(s) && bytes.Equal(pageOf(s), page)
}

// encode encodes, and must be let.
func encode(t *testing.T, s api.Super) []byte {
	t.Helper()
	page, e := super.Encode(s)
	if e != api.OK {
		t.Fatalf("Encode(%v): %v", s, e)
	}
	return page
}

// fits holds that a super is right, has its page, and that the page has it.
func fits(t *testing.T, s api.Super) {
	t.Helper()
	if page, e := super.Encode(s); !super.Right(s) || e != api.OK || !bytes.Equal(page, pageOf(s)) {
		t.Errorf("%v: %v %v %v, not %v", s, super.Right(s), page, e, pageOf(s))
	}
	decoded(t, pageOf(s), s)
}

// barred holds that a super is not right, has no page, and that the page that it would have has none.
func barred(t *testing.T, s api.Super) {
	t.Helper()
	if page, e := super.Encode(s); super.Right(s) || e != api.ErrSuper || len(page) != 0 {
		t.Errorf("%v: %v %v %v", s, super.Right(s), page, e)
	}
	refused(t, pageOf(s), s)
}

// decoded holds that a page has this super.
func decoded(t *testing.T, page []byte, want api.Super) {
	t.Helper()
	if s, e := super.Decode(page); e != api.OK || s != want {
		t.Errorf("%v: %v %v, not %v", page, s, e, want)
	}
}

// refused holds that a page has no super, and counts in neither slot.
func refused(t *testing.T, page []byte, what ...any) {
	t.Helper()
	if s, e := super.Decode(page); e != api.ErrSuper || s != (api.Super{}) {
		t.Errorf("%s: %v %v", fmt.Sprint(what...), s, e)
	}
	none(t, page, page, what...)
}

// picked holds that of two blocks this super counts.
func picked(t *testing.T, zero, one []byte, want api.Super, slot int, what ...any) {
	t.Helper()
	if s, at, e := super.Pick(zero, one); e != api.OK || at != slot || s != want {
		t.Errorf("%s: %v %v %v, not %v %v", fmt.Sprint(what...), s, at, e, want, slot)
	}
}

// none holds that of two blocks neither counts.
func none(t *testing.T, zero, one []byte, what ...any) {
	t.Helper()
	if s, at, e := super.Pick(zero, one); e != api.ErrSuper || at != 0 || s != (api.Super{}) {
		t.Errorf("%s: %v %v %v", fmt.Sprint(what...), s, at, e)
	}
}

// gens are generations that stand at an edge, and ordinary ones; all are right.
func gens() []uint64 {
	out := []uint64{3, 7, 100, 101, 254, 65534, 1<<32 - 2, 0x0102030405060708, 0x8070605040302011, greatest - 2, greatest - 1, greatest}
	for i := range 64 {
		out = append(out, 1<<i, 1<<i+1)
	}
	return out
}

// supers are right ones: ordinary ones, and all that stand at an edge.
func supers() []api.Super {
	out := []api.Super{of(1, 16), of(2, 16), of(greatest, 4096), full(3, 300, 1), full(8, 4096, 2), full(greatest-1, 16, 3)}
	for _, i := range spots {
		out = append(out, rooted(of(4, 16), i, 15), rooted(of(5, 4096), i, 4095), marked(of(6, 20), i, greatest), marked(full(9, 99, 4), i, 0))
	}
	return out
}

// P6.1: right supers have their pages, and are what these have.
func TestSupersHavePages(t *testing.T) {
	for _, s := range supers() {
		fits(t, s)
	}
}

// P6.1: the examples' bytes, one by one.
func TestBytesOfPages(t *testing.T) {
	page, want := encode(t, of(2, 16)), make([]byte, 124)
	want[0], want[8], want[12], want[123] = 6, 2, 16, 2
	if len(page) != 128 || !bytes.Equal(page[:124], want) {
		t.Errorf("Gen 2, Blocks 16: %v", page)
	}
	s := of(0x0102030405060708, 0x0a0b)
	for i := range 8 {
		s.Roots[i] = 0x0900 + uint32(i)
		s.Marks[i] = 0x1112131415161700 + uint64(i)
	}
	page, want = encode(t, s), []byte{6, 1, 2, 3, 4, 5, 6, 7, 8, 0, 0, 10, 11}
	for i := range 8 {
		want = append(want, 0, 0, 9, byte(i))
	}
	for i := range 8 {
		want = append(want, 0x11, 0x12, 0x13, 0x14, 0x15, 0x16, 0x17, byte(i))
	}
	want = append(want, 0, 0, 0, 0, 0, 0, 0, 1, 2, 3, 4, 5, 6, 7, 8)
	if len(page) != 128 || len(want) != 124 || !bytes.Equal(page[:124], want) {
		t.Errorf("%v: %v, not %v", s, page, want)
	}
	if kind, body, e := octets.Open(page); kind != 6 || len(body) != 123 || e != api.OK {
		t.Errorf("%v: no page: %v", s, e)
	}
}

// P6.1, R2: generations: all but 0 are right.
func TestGenerations(t *testing.T) {
	for _, gen := range gens() {
		fits(t, of(gen, 16))
		fits(t, full(gen, 4096, 5))
	}
	for _, blocks := range []uint32{0, 16, 300, 4096} {
		barred(t, of(0, blocks))
	}
	barred(t, full(0, 300, 1))
	barred(t, api.Super{})
}

// P6.1, R2: how many blocks there may be.
func TestBlocks(t *testing.T) {
	for blocks := range uint32(9000) {
		if s := of(1, blocks); blocks < 16 || blocks > 4096 {
			barred(t, s)
		} else {
			fits(t, s)
		}
	}
	for _, blocks := range []uint32{1 << 16, 1<<16 + 16, 1 << 24, 1<<31 + 16, 1<<32 - 1, 1<<32 - 16} {
		barred(t, of(2, blocks))
		barred(t, marked(of(3, blocks), 7, 5))
	}
}

// P6.1, R2: at each place a root of 0, of one less than the blocks, of as many, and more.
func TestRoots(t *testing.T) {
	for _, blocks := range []uint32{16, 17, 255, 256, 257, 300, 4095, 4096} {
		for _, i := range spots {
			for _, s := range []api.Super{of(2, blocks), full(3, blocks, 6)} {
				for _, root := range []uint32{0, 1, 15, blocks / 2, blocks - 2, blocks - 1} {
					fits(t, rooted(s, i, root))
				}
				for _, root := range []uint32{blocks, blocks + 1, 4096, 4097, 1 << 16, 1<<16 + 1, 1 << 31, 1<<32 - 1} {
					barred(t, rooted(s, i, root))
				}
			}
		}
	}
	for root := range uint32(5000) {
		if s := rooted(of(1, 300), 3, root); root < 300 {
			fits(t, s)
		} else {
			barred(t, s)
		}
	}
}

// P6.1: roots of which several are the same, or all are the greatest.
func TestRootsThatAreAlike(t *testing.T) {
	for _, root := range []uint32{0, 1, 7, 15} {
		s := of(5, 16)
		for i := range s.Roots {
			s.Roots[i] = root
		}
		fits(t, s)
		s.Blocks = 15
		barred(t, s)
	}
}

// P6.1: at each place a mark may be any.
func TestMarks(t *testing.T) {
	for _, i := range spots {
		for _, mark := range append(gens(), 0) {
			fits(t, marked(of(2, 16), i, mark))
			fits(t, marked(full(5, 4096, 7), i, mark))
			barred(t, marked(of(0, 16), i, mark))
			barred(t, marked(of(1, 15), i, mark))
			barred(t, marked(rooted(of(1, 16), 7-i, 16), i, mark))
		}
	}
}

// P6.1, P6.3: unlike supers have unlike pages.
func TestUnlikeSupersHaveUnlikePages(t *testing.T) {
	met, asked := map[string]bool{}, map[api.Super]bool{}
	meet := func(s api.Super) {
		asked[s] = true
		met[string(encode(t, s))] = true
	}
	for _, gen := range gens() {
		meet(of(gen, 20))
	}
	for blocks := uint32(16); blocks <= 4096; blocks++ {
		meet(of(9, blocks))
	}
	for _, i := range spots {
		for n := uint32(1); n < 500; n++ {
			meet(rooted(of(9, 500), i, n))
			meet(marked(of(9, 500), i, uint64(n)))
			meet(marked(of(9, 500), i, uint64(n)<<55))
		}
	}
	if len(met) != len(asked) {
		t.Errorf("%d pages of %d supers", len(met), len(asked))
	}
}

// P6.1: of all kinds one is a super's.
func TestKinds(t *testing.T) {
	for kind := range 256 {
		for _, s := range supers() {
			if page := sealed(uint8(kind), bodyOf(s)); kind == 6 {
				decoded(t, page, s)
			} else {
				refused(t, page, "kind ", kind, ": ", s)
			}
		}
	}
}

// P6.1, R6: pages of a wrong length, with what is right as far as it goes; nil, and empty ones.
func TestLengths(t *testing.T) {
	for _, s := range supers() {
		long := append(pageOf(s), make([]byte, 200)...)
		for size := range len(long) {
			if size != 128 {
				refused(t, long[:size:size], s, ", length ", size)
				refused(t, long[:size], s, ", length ", size, " and room")
			}
		}
		refused(t, append(pageOf(s), pageOf(s)...), s, ", twice")
	}
	refused(t, nil, "no page")
	refused(t, []byte{}, "an empty page")
}

// P6.1: a sum that is wrong, whichever byte is another one.
func TestSums(t *testing.T) {
	for _, s := range supers() {
		for at := range 128 {
			for _, by := range []byte{1, 0x80, 0xff} {
				page := pageOf(s)
				page[at] ^= by
				refused(t, page, s, ", byte ", at, " by ", by)
			}
		}
	}
}

// P6.1: each of the seven noughts is one, whatever the sum.
func TestNoughts(t *testing.T) {
	for _, s := range []api.Super{of(2, 16), full(3, 300, 8), full(greatest, 4096, 9)} {
		for at := 108; at < 115; at++ {
			for b := 1; b < 256; b++ {
				body := bodyOf(s)
				body[at] = byte(b)
				refused(t, sealed(6, body), s, ", byte ", at, " of the body is ", b)
			}
		}
	}
}

// P6.1: the first and the last generation are the same, whatever the sum.
func TestFirstAndLastGeneration(t *testing.T) {
	for _, s := range []api.Super{of(2, 16), full(3, 300, 8), of(greatest, 4096), of(1<<56, 40)} {
		for _, from := range []int{0, 115} {
			for at := from; at < from+8; at++ {
				for by := 1; by < 256; by++ {
					body := bodyOf(s)
					body[at] ^= byte(by)
					refused(t, sealed(6, body), s, ", byte ", at, " of the body by ", by)
				}
			}
		}
	}
	for _, first := range gens() {
		for _, last := range append(gens(), 0) {
			body := bodyOf(of(first, 16))
			binary.BigEndian.PutUint64(body[115:], last)
			if page := sealed(6, body); first == last {
				decoded(t, page, of(first, 16))
			} else {
				refused(t, page, "generations ", first, " and ", last)
			}
		}
	}
}

// P6.1: blocks that are no page at all.
func TestBlocksThatAreNoPages(t *testing.T) {
	for b := range 256 {
		refused(t, bytes.Repeat([]byte{byte(b)}, 128), "all bytes are ", b)
		refused(t, sealed(6, bytes.Repeat([]byte{byte(b)}, 123)), "a page, all bytes of whose body are ", b)
	}
}

// near answers a page that is near to a right one: of a super that may not be right, some of whose bytes may be others.
func near(r *rand.Rand) []byte {
	s := full(r.Uint64()>>r.Intn(64), 16+uint32(r.Intn(4081)), uint32(r.Intn(1000)))
	if r.Intn(4) == 0 {
		s.Roots[r.Intn(8)] += uint32(r.Intn(300))
	}
	body := bodyOf(s)
	for range r.Intn(3) {
		body[r.Intn(123)] = byte(r.Intn(3))
	}
	kind := uint8(6)
	if r.Intn(20) == 0 {
		kind = uint8(r.Intn(9))
	}
	return sealed(kind, body)
}

// P6.1: beside what the words say, of pages that are near to right ones.
func TestBesideTheWords(t *testing.T) {
	r := rand.New(rand.NewSource(6))
	pages, others := 0, 0
	for range 40000 {
		page := near(r)
		if s, ok := read(page); ok {
			pages++
			fits(t, s)
		} else {
			others++
			refused(t, page, "a page that is near to one")
		}
	}
	if pages < 5000 || others < 5000 {
		t.Errorf("too few of %d and %d", pages, others)
	}
}

// P6.1: the slot of generations, right ones and 0.
func TestSlot(t *testing.T) {
	for gen := range uint64(70000) {
		for _, x := range []uint64{gen, greatest - gen, 1<<63 + gen, 1<<32 - 30000 + gen, 1<<31 + gen} {
			want := 0
			if x&1 == 1 {
				want = 1
			}
			if got := super.Slot(x); got != want {
				t.Fatalf("Slot(%d): %d, not %d", x, got, want)
			}
		}
	}
}

// P6.2: the examples.
func TestPickOfTheExamples(t *testing.T) {
	two, three, noughts := encode(t, of(2, 16)), encode(t, of(3, 16)), make([]byte, 128)
	picked(t, two, three, of(3, 16), 1, "Gen 2 and Gen 3")
	picked(t, two, noughts, of(2, 16), 0, "Gen 2 and noughts")
	none(t, noughts, two, "noughts and Gen 2")
}

// P6.2: of two that count that of the greater generation is told, whatever else they say; of one, that one; slots that are changed tell none.
func TestPickOfTwo(t *testing.T) {
	for _, even := range gens() {
		for _, odd := range gens() {
			if even%2 != 0 || odd%2 != 1 {
				continue
			}
			for _, x := range [][2]api.Super{{of(even, 16), of(odd, 4096)}, {full(even, 4096, 3), of(odd, 16)}, {of(even, 99), full(odd, 99, 4)}} {
				zero, one := pageOf(x[0]), pageOf(x[1])
				if even > odd {
					picked(t, zero, one, x[0], 0, even, " and ", odd)
				} else {
					picked(t, zero, one, x[1], 1, even, " and ", odd)
				}
				none(t, one, zero, odd, " and ", even, ", each in the other's slot")
			}
		}
	}
}

// bad are pages that count in no slot.
func bad() [][]byte {
	nought := bodyOf(of(8, 20))
	nought[110] = 1
	last := bodyOf(of(8, 20))
	last[122] = 9
	sum := pageOf(of(9, 20))
	sum[127]++
	return [][]byte{
		nil, {}, {6}, make([]byte, 128), make([]byte, 127), pageOf(of(9, 20))[:127], append(pageOf(of(8, 20)), 0), sum,
		sealed(5, bodyOf(of(8, 20))), sealed(6, nought), sealed(6, last), pageOf(of(0, 20)),
		pageOf(of(greatest, 15)), pageOf(of(greatest-1, 4097)), pageOf(rooted(of(greatest, 16), 7, 16)), pageOf(rooted(of(greatest-1, 16), 0, 16)),
	}
}

// beside answers the blocks 0 and 1, of which the one at slot is page, and the other one other.
func beside(slot int, page, other []byte) (zero, one []byte) {
	if slot == 0 {
		return page, other
	}
	return other, page
}

// P6.2: of one that counts beside one that does not, whichever it is, the first is told; in the slot of the other it is not.
func TestPickOfOne(t *testing.T) {
	for _, gen := range gens() {
		s, slot := full(gen, 300, uint32(gen%1000)), int(gen%2)
		for i, other := range bad() {
			zero, one := beside(slot, pageOf(s), other)
			picked(t, zero, one, s, slot, gen, " in its slot, and bad page ", i)
			none(t, one, zero, gen, " in the other slot, and bad page ", i)
		}
	}
}

// P6.2: of two right ones of one slot that which stands there is told, though the other one's generation be greater.
func TestPickOfTwoOfOneSlot(t *testing.T) {
	for _, gen := range gens() {
		for _, g := range gens() {
			if s, slot := full(gen, 300, 12), int(gen%2); g%2 == gen%2 {
				zero, one := beside(slot, pageOf(s), pageOf(of(g, 4096)))
				picked(t, zero, one, s, slot, gen, " in its slot, and ", g, " in the other's")
			}
		}
	}
}

// P6.2, R2: of two that don't count neither is told.
func TestPickOfNone(t *testing.T) {
	for i, zero := range bad() {
		for j, one := range bad() {
			none(t, zero, one, i, " and ", j)
		}
		for _, s := range supers() {
			if s.Gen%2 == 0 {
				none(t, zero, pageOf(s), i, " and ", s)
			} else {
				none(t, pageOf(s), zero, s, " and ", i)
			}
		}
	}
}

// P6.2: beside what the words say, of blocks that are near to right ones.
func TestPickBesideTheWords(t *testing.T) {
	r, told := rand.New(rand.NewSource(7)), [3]int{}
	for range 40000 {
		zero, one := near(r), near(r)
		a, f := read(zero)
		b, g := read(one)
		f, g = f && a.Gen%2 == 0, g && b.Gen%2 == 1
		switch {
		case f && (!g || a.Gen > b.Gen):
			told[0]++
			picked(t, zero, one, a, 0, "near to right ones")
		case g:
			told[1]++
			picked(t, zero, one, b, 1, "near to right ones")
		default:
			told[2]++
			none(t, zero, one, "near to right ones")
		}
	}
	if slices.Min(told[:]) < 4000 {
		t.Errorf("too few of %v", told)
	}
}

// torn answers the first bytes of one page, and behind them those of another.
func torn(over, page []byte, cut int) []byte {
	return slices.Concat(page[:cut], over[cut:])
}

// wholly holds that a block tells one super or the other, or none.
func wholly(t *testing.T, block []byte, a, b api.Super, what ...any) {
	t.Helper()
	s, e := super.Decode(block)
	if e == api.OK && s != a && s != b || e != api.OK && (e != api.ErrSuper || s != api.Super{}) {
		t.Errorf("%s: %v %v, not %v, nor %v", fmt.Sprint(what...), s, e, a, b)
	}
}

// P6.3: a super that is torn over another one, wherever it is, tells one of both wholly, or none: also if the sum says that all is right.
func TestTornSupers(t *testing.T) {
	few := []uint64{1, 2, 3, 4, 255, 256, 257, 65535, 65537, 1 << 32, 0x0102030405060708, 1 << 63, 1<<63 + 2, greatest - 2, greatest - 1, greatest}
	for i, old := range few {
		for j, gen := range few {
			if old == gen {
				continue
			}
			a, b := full(old, 4096, uint32(i)), full(gen, 300, uint32(500+j))
			over, page := pageOf(a), pageOf(b)
			for cut := range 129 {
				block := torn(over, page, cut)
				wholly(t, block, a, b, gen, " over ", old, ", torn at ", cut)
				wholly(t, sealed(6, block[1:124]), a, b, gen, " over ", old, ", torn at ", cut, ", with a right sum")
			}
			decoded(t, torn(over, page, 0), a)
			decoded(t, torn(over, page, 128), b)
		}
	}
}

// P6.3: what is torn between both generations tells none, whatever the sum does; what is torn ahead of the first byte that is unlike, the old one; behind the last one, the new.
func TestWhereSupersAreTorn(t *testing.T) {
	for _, x := range [][2]uint64{{1, 3}, {3, 1}, {2, 4}, {255, 257}, {65535, 65537}, {greatest, 1}, {greatest - 2, greatest}, {1 << 63, 1<<63 + 2}, {2, 1 << 63}} {
		a, b := of(x[0], 16), full(x[1], 4096, 77)
		over, page := pageOf(a), pageOf(b)
		first := 1
		for over[first] == page[first] {
			first++
		}
		last := 123
		for over[last] == page[last] {
			last--
		}
		for cut := range 129 {
			block := sealed(6, torn(over, page, cut)[1:124])
			switch {
			case cut <= first:
				decoded(t, block, a)
			case cut > last:
				decoded(t, block, b)
			default:
				refused(t, block, x[1], " over ", x[0], ", torn at ", cut, ", with a right sum")
			}
		}
	}
}

// P6.3: supers that are written one behind the other: whatever becomes of the next, wherever it is torn, the last one is told, or the next; once it stands, the next.
func TestTheLastOneStays(t *testing.T) {
	for _, from := range []uint64{1, 2, 250, 65530, 1<<32 - 5, 1<<63 - 5, greatest - 20} {
		var blocks [2][]byte
		last, slot := full(from, 400, 0), int(from%2)
		blocks[slot] = encode(t, last)
		picked(t, blocks[0], blocks[1], last, slot, "the first one, ", from)
		blocks[1-slot] = make([]byte, 128)
		for i := range uint32(20) {
			next := full(last.Gen+1, 500+i, i+1)
			page, to := encode(t, next), super.Slot(last.Gen+1)
			if to == slot {
				t.Fatalf("%d is written over %d", next.Gen, last.Gen)
			}
			for cut := range 129 {
				after := blocks
				after[to] = torn(blocks[to], page, cut)
				s, at, e := super.Pick(after[0], after[1])
				if e != api.OK || (s != last || at != slot) && (s != next || at != to) {
					t.Fatalf("%d, torn at %d: %v %v %v", next.Gen, cut, s, at, e)
				}
				after[to] = sealed(6, after[to][1:124])
				s, at, e = super.Pick(after[0], after[1])
				if e != api.OK || (s != last || at != slot) && (s != next || at != to) {
					t.Fatalf("%d, torn at %d, with a right sum: %v %v %v", next.Gen, cut, s, at, e)
				}
			}
			blocks[to], last, slot = page, next, to
			picked(t, blocks[0], blocks[1], last, slot, "generation ", last.Gen)
		}
	}
}

// R3: no two pages share memory, not even their spare room.
func TestEncodeKeepsNothing(t *testing.T) {
	for _, s := range supers() {
		page, again := encode(t, s), encode(t, s)
		clear(page[:cap(page)])
		if !bytes.Equal(again, pageOf(s)) || !bytes.Equal(encode(t, s), pageOf(s)) {
			t.Errorf("%v: its pages share memory", s)
		}
	}
}

// R3: pages that are handed in, and their spare room, stay, whether they tell a super or not; a super stays, whatever becomes of its page.
func TestDecodeAndPickKeepNothing(t *testing.T) {
	pages := bad()
	for _, s := range supers() {
		pages = append(pages, pageOf(s))
	}
	for i, page := range pages {
		was := append(slices.Clone(page), bytes.Repeat([]byte{7}, 40)...)
		all, same := slices.Clone(was), slices.Clone(was)
		n := len(page)
		s, e := super.Decode(all[:n])
		a, slot, f := super.Pick(all[:n], same[:n])
		if !bytes.Equal(all, was) || !bytes.Equal(same, was) {
			t.Errorf("page %d was changed: %v", i, was)
		}
		clear(all)
		clear(same)
		want, err := api.Super{}, api.ErrSuper
		if x, ok := read(page); ok {
			want, err = x, api.OK
		}
		if s != want || e != err || a != want || slot != int(want.Gen%2) || f != err {
			t.Errorf("page %d: %v %v, %v %v %v, not %v %v", i, s, e, a, slot, f, want, err)
		}
	}
}

// R3, R4: a super that is handed in is a value: it stays, and the same is answered again.
func TestSupersStay(t *testing.T) {
	for _, s := range append(supers(), of(0, 16), of(1, 15), rooted(of(2, 16), 7, 16)) {
		was := s
		a, e := super.Encode(s)
		b, f := super.Encode(s)
		if s != was || super.Right(s) != right(s) || s != was || e != f || !bytes.Equal(a, b) {
			t.Errorf("%v: %v %v, %v %v", was, a, e, b, f)
		}
	}
}
