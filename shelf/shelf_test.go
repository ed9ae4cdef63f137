package shelf_test

import (
	"bytes"
	"encoding/binary"
	"fmt"
	"math"
	"math/rand"
	"slices"
	"strings"
	"testing"

	"catchment/api"
	"catchment/octets"
	"catchment/shelf"
)

const (
	top  = uint64(1) << 63
	full = uint64(math.MaxUint64)
)

// of answers a shelf whose entries are told as fingerprint, block, fingerprint, block ..
func of(depth uint8, next uint32, numbers ...uint64) api.Shelf {
	s := api.Shelf{Depth: depth, Next: next}
	for i := 0; i < len(numbers); i += 2 {
		s.Entries = append(s.Entries, api.Entry{Print: numbers[i], Block: uint32(numbers[i+1])})
	}
	return s
}

// row answers n entries from that one on, their fingerprints and blocks so far apart.
func row(n int, print, block, prints, blocks uint64) []uint64 {
	var out []uint64
	for i := range uint64(n) {
		out = append(out, print+i*prints, block+i*blocks)
	}
	return out
}

// bodyOf answers what should stand in a shelf's body, laid by other means than the program's.
func bodyOf(s api.Shelf) []byte {
	body := binary.BigEndian.AppendUint32([]byte{s.Depth, byte(len(s.Entries))}, s.Next)
	for _, e := range s.Entries {
		body = binary.BigEndian.AppendUint64(body, e.Print)
		body = binary.BigEndian.AppendUint32(body, e.Block)
	}
	return append(body, make([]byte, max(0, api.Body-len(body)))...)
}

// sealed answers the page of a kind and a body, laid by other means than the program's, but for the sum.
func sealed(kind uint8, body []byte) []byte {
	page := append([]byte{kind}, body...)
	page = append(page, make([]byte, api.Body-len(body))...)
	return binary.BigEndian.AppendUint32(page, octets.Sum(page))
}

// pageOf answers the page that a shelf should have.
func pageOf(s api.Shelf) []byte {
	return sealed(3, bodyOf(s))
}

// encode encodes, and must be let.
func encode(t *testing.T, s api.Shelf) []byte {
	t.Helper()
	page, e := shelf.Encode(s)
	if e != api.OK {
		t.Fatalf("Encode(%v): %v", s, e)
	}
	return page
}

// same tells whether two shelves are the same (R6).
func same(a, b api.Shelf) bool {
	return a.Depth == b.Depth && a.Next == b.Next && slices.Equal(a.Entries, b.Entries)
}

// none tells whether every field of a shelf is zero.
func none(s api.Shelf) bool {
	return s.Depth == 0 && s.Next == 0 && len(s.Entries) == 0
}

// bits answers a fingerprint as text, bit by bit.
func bits(print uint64) string {
	return fmt.Sprintf("%064b", print)
}

// right is what the chapter's words say of a right shelf, pair by pair, and fingerprints as texts of bits.
func right(s api.Shelf) bool {
	if s.Depth > 64 || s.Next > 4095 || len(s.Entries) > 9 {
		return false
	}
	for i, e := range s.Entries {
		if e.Block == 0 || e.Block > 4095 {
			return false
		}
		for _, ahead := range s.Entries[:i] {
			if ahead.Print > e.Print || ahead.Print == e.Print && ahead.Block >= e.Block {
				return false
			}
			if !strings.HasPrefix(bits(e.Print), bits(ahead.Print)[:s.Depth]) {
				return false
			}
		}
	}
	return true
}

// read is what the words of P4.2 say of a page: the only shelf that it can be of, if its bytes are that one's.
func read(page []byte) (api.Shelf, bool) {
	if len(page) != 128 || page[0] != 3 || page[2] > 9 {
		return api.Shelf{}, false
	}
	s := api.Shelf{Depth: page[1], Next: binary.BigEndian.Uint32(page[3:])}
	for i := range int(page[2]) {
		at := page[7+12*i:]
		s.Entries = append(s.Entries, api.Entry{Print: binary.BigEndian.Uint64(at), Block: binary.BigEndian.Uint32(at[8:])})
	}
	return s, right(s) && bytes.Equal(pageOf(s), page)
}

// rights are right shelves: ordinary ones, and all that stand at an edge.
func rights() map[string]api.Shelf {
	return map[string]api.Shelf{
		"no entry":                          of(0, 0),
		"no entry, depth 1":                 of(1, 0),
		"no entry, depth 63":                of(63, 5),
		"no entry, depth 64":                of(64, 0),
		"no entry, next 4095":               of(64, 4095),
		"1 entry":                           of(1, 5, top, 6),
		"1 entry, depth 0":                  of(0, 0, 7, 9),
		"1 entry, depth 63":                 of(63, 0, 7, 9),
		"1 entry, depth 64":                 of(64, 0, 7, 9),
		"1 entry, the fingerprint 0":        of(64, 1, 0, 1),
		"1 entry, the greatest fingerprint": of(64, 4095, full, 4095),
		"the least next and block":          of(3, 1, 9, 1),
		"the greatest next and block":       of(3, 4095, 9, 4095),
		"its own next":                      of(3, 77, 9, 77),
		"2 entries":                         of(0, 2, 3, 9, 4, 8),
		"8 entries":                         of(2, 3, row(8, top, 40, 11, 5)...),
		"9 entries":                         of(2, 4, row(9, top, 40, 11, 5)...),
		"9 entries, the last blocks":        of(0, 4095, row(9, full-8, 4087, 1, 1)...),
		"9 entries of one fingerprint":      of(64, 0, row(9, 12345, 1, 0, 1)...),
		"blocks that fall":                  of(0, 0, 1, 4095, 2, 300, 3, 299, 4, 1),
		"one block of all fingerprints":     of(0, 0, row(9, 1, 8, 1, 0)...),
		"equal fingerprints, blocks rise":   of(0, 0, 5, 1, 5, 2, 5, 4095),
		"equal, then a block that falls":    of(0, 0, 5, 3, 5, 4, 6, 1, 6, 2),
		"blocks rise, one byte's edge":      of(8, 256, 5, 255, 5, 256, 5, 257),
		"no bits, least and greatest":       of(0, 0, 0, 1, full, 1),
		"no bits, about the half":           of(0, 0, top-1, 1, top, 1, top+1, 1),
		"1 bit, 0 and all below the half":   of(1, 0, 0, 1, top-1, 1),
		"1 bit, the half and the greatest":  of(1, 0, top, 1, full, 1),
		"63 bits, the last one is unlike":   of(63, 0, 6, 1, 7, 1),
		"63 bits, at the end":               of(63, 0, full-1, 1, full, 1),
		"64 bits":                           of(64, 0, top+1, 1, top+1, 2),
		"bytes all unlike":                  of(0, 0x0102, 0x0304050607080910, 0x0b0c, 0xf1f2f3f4f5f6f7f8, 0x0d0e),
	}
}

// wrongs are shelves that are not right, each by one thing alone.
func wrongs() map[string]api.Shelf {
	return map[string]api.Shelf{
		"depth 65":                             of(65, 0),
		"depth 65, 1 entry":                    of(65, 0, 1, 1),
		"depth 65, one fingerprint":            of(65, 0, 1, 1, 1, 2),
		"depth 128":                            of(128, 0, 1, 1),
		"depth 255":                            of(255, 0, 1, 1, 2, 1),
		"next 4096":                            of(0, 4096),
		"next 4096, 1 entry":                   of(1, 4096, 1, 1),
		"next 2^16":                            of(0, 1<<16),
		"next 2^31":                            of(0, 1<<31),
		"the greatest next":                    of(0, math.MaxUint32),
		"10 entries":                           of(0, 0, row(10, 1, 1, 1, 1)...),
		"10 entries of one fingerprint":        of(64, 0, row(10, 1, 1, 0, 1)...),
		"256 entries":                          of(0, 0, row(256, 1, 1, 1, 1)...),
		"265 entries":                          of(0, 0, row(265, 1, 1, 1, 1)...),
		"a block 0":                            of(0, 0, 1, 0),
		"a block 4096":                         of(0, 0, 1, 4096),
		"a block 2^16 + 1":                     of(0, 0, 1, 1<<16+1),
		"a block 2^31 + 1":                     of(0, 0, 1, 1<<31+1),
		"the greatest block":                   of(0, 0, 1, math.MaxUint32),
		"the last block is 0":                  of(0, 0, append(row(8, 1, 1, 1, 1), 9, 0)...),
		"the last block is 4096":               of(0, 0, row(9, 1, 4088, 1, 1)...),
		"the first block of one print is 0":    of(0, 0, 1, 0, 1, 1),
		"the last block of one print is 4096":  of(0, 0, 1, 4095, 1, 4096),
		"fingerprints fall":                    of(0, 0, 2, 1, 1, 2),
		"fingerprints fall, as blocks do":      of(0, 0, 2, 2, 1, 1),
		"fingerprints fall from the half":      of(0, 0, top, 1, 1, 1),
		"fingerprints fall from the greatest":  of(0, 0, full, 1, 0, 2),
		"the last fingerprint falls":           of(0, 0, append(row(8, 2, 1, 1, 1), 1, 9)...),
		"the same entry twice":                 of(0, 0, 5, 6, 5, 6),
		"the same entry twice, last":           of(0, 0, append(row(8, 1, 1, 1, 1), 8, 8)...),
		"the same entry twice, all bits":       of(64, 0, 5, 6, 5, 6),
		"the same entry twice, far apart":      of(0, 0, 5, 6, 5, 7, 5, 6),
		"equal fingerprints, blocks fall":      of(0, 0, 5, 7, 5, 6),
		"equal fingerprints, the last falls":   of(0, 0, append(row(8, 5, 2, 0, 1), 5, 1)...),
		"equal and greatest, blocks fall":      of(64, 0, full, 7, full, 6),
		"1 bit, the first one is unlike":       of(1, 0, 1, 1, top, 2),
		"1 bit, least and greatest":            of(1, 0, 0, 1, full, 1),
		"1 bit, about the half":                of(1, 0, top-1, 1, top, 1),
		"2 bits, the second one is unlike":     of(2, 0, top, 1, top+top/2, 1),
		"63 bits, the one ahead of the last":   of(63, 0, 5, 1, 6, 1),
		"64 bits, the last one is unlike":      of(64, 0, 6, 1, 7, 1),
		"64 bits, the first one is unlike":     of(64, 0, 6, 1, top+6, 1),
		"64 bits, the last entry is unlike":    of(64, 0, append(row(8, 6, 1, 0, 1), 7, 9)...),
		"64 bits, the entries behind are like": of(64, 0, append([]uint64{5, 1}, row(8, 6, 1, 0, 1)...)...),
	}
}

// P4.1: right shelves are right, and have their pages.
func TestRightShelvesHavePages(t *testing.T) {
	for name, s := range rights() {
		if !shelf.Right(s) {
			t.Errorf("%s: not right", name)
		}
		page, e := shelf.Encode(s)
		if e != api.OK || !bytes.Equal(page, pageOf(s)) {
			t.Errorf("%s: %v %v, not %v", name, page, e, pageOf(s))
		}
	}
}

// P4.1, R2: what is not right has no page.
func TestWrongShelvesHaveNone(t *testing.T) {
	for name, s := range wrongs() {
		if shelf.Right(s) {
			t.Errorf("%s: right", name)
		}
		if page, e := shelf.Encode(s); e != api.ErrShelf || len(page) != 0 {
			t.Errorf("%s: %v %v", name, page, e)
		}
	}
}

// numbers are those up to 5000, and those about the edges of narrower numbers.
func numbers() []uint32 {
	var out []uint32
	for n := range uint32(5000) {
		out = append(out, n)
	}
	for shift := range 32 {
		out = append(out, 1<<shift-1, 1<<shift, 1<<shift+1)
	}
	return append(out, math.MaxUint32)
}

// P4.1: each Depth, each Next and each Block; beside no entry, beside one, and at both ends of nine.
func TestDepthsNextsAndBlocks(t *testing.T) {
	for depth := range 256 {
		for name, s := range map[string]api.Shelf{"no": of(0, 0), "one": of(0, 0, 3, 3), "nine": of(0, 0, row(9, 3, 3, 0, 1)...)} {
			s.Depth = uint8(depth)
			if got := shelf.Right(s); got != (depth <= 64) {
				t.Errorf("depth %d, %s entry: %v", depth, name, got)
			}
		}
	}
	for _, n := range numbers() {
		if got := shelf.Right(of(0, n)); got != (n <= 4095) {
			t.Errorf("next %d, no entry: %v", n, got)
		}
		if got := shelf.Right(of(0, n, 3, 3)); got != (n <= 4095) {
			t.Errorf("next %d, one entry: %v", n, got)
		}
		for _, at := range []int{0, 4, 8} {
			s := of(0, 0, row(9, 3, 3, 1, 1)...)
			s.Entries[at].Block = n
			if got := shelf.Right(s); got != (n >= 1 && n <= 4095) {
				t.Errorf("entry %d, block %d: %v", at, n, got)
			}
		}
	}
}

// P4.1: each number of entries.
func TestNumbersOfEntries(t *testing.T) {
	for n := range 300 {
		if got := shelf.Right(of(0, 0, row(n, 1, 1, 1, 1)...)); got != (n <= 9) {
			t.Errorf("%d entries: %v", n, got)
		}
	}
}

// P4.1: each two of nine entries are in order: a fingerprint that is equal to another, or less, wherever both are.
func TestOrder(t *testing.T) {
	for i := range 9 {
		for j := range i {
			swapped := of(0, 0, row(9, 10, 10, 10, 10)...)
			swapped.Entries[i], swapped.Entries[j] = swapped.Entries[j], swapped.Entries[i]
			twice := of(0, 0, row(9, 10, 10, 0, 10)...)
			twice.Entries[i] = twice.Entries[j]
			if shelf.Right(swapped) || shelf.Right(twice) {
				t.Errorf("entries %d and %d: right", j, i)
			}
		}
	}
	for _, a := range []uint64{0, 1, 5, top - 1, top, full - 1, full} {
		for _, b := range []uint64{0, 1, 5, top - 1, top, full - 1, full} {
			for _, block := range []uint64{1, 255, 256, 4095} {
				s := of(0, 0, a, 256, b, block)
				if want := a < b || a == b && block > 256; shelf.Right(s) != want {
					t.Errorf("%v: not %v", s, want)
				}
			}
		}
	}
}

// P4.1, P4.3: fingerprints that are alike in just so many first bits, beside each Depth; whichever of the entries is unlike the others.
func TestFirstBits(t *testing.T) {
	for alike := range 65 {
		for _, print := range []uint64{0, full, 0x123456789abcdef0, 0xfedcba9876543210} {
			low, high := print, print
			if alike < 64 {
				bit := top >> alike
				low, high = print&^bit, print|bit
			}
			for _, lows := range []int{1, 2, 8} {
				s := of(0, 0, row(lows, low, 1, 0, 1)...)
				for i := range 9 - lows {
					s.Entries = append(s.Entries, api.Entry{Print: high, Block: uint32(100 + i)})
				}
				for depth := range 65 {
					s.Depth = uint8(depth)
					if got := shelf.Right(s); got != (depth <= alike) {
						t.Errorf("%d lows, alike in %d bits, depth %d: %v", lows, alike, depth, got)
					}
				}
			}
		}
	}
}

// P4.3: a right shelf is right with any lesser Depth.
func TestLesserDepths(t *testing.T) {
	for name, s := range rights() {
		for depth := range s.Depth {
			lesser := s
			lesser.Depth = depth
			if page, e := shelf.Encode(lesser); !shelf.Right(lesser) || e != api.OK || !bytes.Equal(page, pageOf(lesser)) {
				t.Errorf("%s, depth %d: %v %v", name, depth, page, e)
			}
		}
	}
}

// P4.1: the examples' bytes, one by one.
func TestBytesOfPages(t *testing.T) {
	page := encode(t, of(1, 5, top, 6))
	want := make([]byte, 124)
	copy(want, []byte{3, 1, 1, 0, 0, 0, 5, 128, 0, 0, 0, 0, 0, 0, 0, 0, 0, 0, 6})
	if len(page) != 128 || !bytes.Equal(page[:124], want) {
		t.Errorf("2^63 beside 6: %v", page)
	}
	page = encode(t, of(64, 0))
	if len(page) != 128 || page[0] != 3 || page[1] != 64 || !bytes.Equal(page[2:124], make([]byte, 122)) {
		t.Errorf("no entry: %v", page)
	}
	page = encode(t, of(61, 0x0102, row(8, 0x0102030405060708, 0x301, 0, 1)...))
	for i := range 8 {
		entry := []byte{1, 2, 3, 4, 5, 6, 7, 8, 0, 0, 3, byte(i + 1)}
		if at := 7 + 12*i; !bytes.Equal(page[at:at+12], entry) {
			t.Errorf("entry %d: %v, not %v", i, page[at:at+12], entry)
		}
	}
	if !bytes.Equal(page[:7], []byte{3, 61, 8, 0, 0, 1, 2}) || !bytes.Equal(page[103:124], make([]byte, 21)) {
		t.Errorf("8 entries: %v", page)
	}
	page = encode(t, of(0, 0, row(9, full-8, 4087, 1, 1)...))
	if !bytes.Equal(page[103:124], []byte{255, 255, 255, 255, 255, 255, 255, 255, 0, 0, 15, 255, 0, 0, 0, 0, 0, 0, 0, 0, 0}) {
		t.Errorf("9 entries: %v", page)
	}
	if kind, body, e := octets.Open(page); kind != 3 || len(body) != 123 || e != api.OK {
		t.Errorf("9 entries: no page: %v", e)
	}
}

// P4.2, P4.3: what is encoded is decoded, and encoded to the same page.
func TestPagesOfShelvesAreDecoded(t *testing.T) {
	for name, s := range rights() {
		got, e := shelf.Decode(pageOf(s))
		if e != api.OK || !same(got, s) {
			t.Errorf("%s: %v %v, not %v", name, got, e, s)
		}
		if page := encode(t, got); !bytes.Equal(page, pageOf(s)) {
			t.Errorf("%s: encoded again: %v", name, page)
		}
	}
}

// refused holds that a page has no shelf.
func refused(t *testing.T, page []byte, what ...any) {
	t.Helper()
	if s, e := shelf.Decode(page); e != api.ErrShelf || !none(s) {
		t.Errorf("%s: %v %v", fmt.Sprint(what...), s, e)
	}
}

// P4.2, R2: pages that say what no right shelf is.
func TestPagesOfWrongShelvesAreRefused(t *testing.T) {
	for name, s := range wrongs() {
		if len(s.Entries) <= 9 {
			refused(t, pageOf(s), name)
		}
	}
	refused(t, sealed(3, []byte{0, 0, 0, 0, 16, 0}), "next 4096")
	refused(t, sealed(3, []byte{0, 0, 0, 1, 0, 0}), "next 2^16")
	refused(t, sealed(3, []byte{0, 0, 1, 0, 0, 0}), "next 2^24")
	refused(t, sealed(3, []byte{0, 1, 0, 0, 0, 0, 1, 2, 3, 4, 5, 6, 7, 8, 1, 0, 0, 1}), "block 2^24 + 1")
}

// P4.2: of all kinds one is the shelves'.
func TestKinds(t *testing.T) {
	for _, want := range []api.Shelf{of(0, 0), of(1, 5, top, 6), of(2, 4, row(9, top, 40, 11, 5)...)} {
		for kind := range 256 {
			page := sealed(uint8(kind), bodyOf(want))
			if kind != 3 {
				refused(t, page, "kind ", kind)
			} else if s, e := shelf.Decode(page); e != api.OK || !same(s, want) {
				t.Errorf("kind %d: %v %v", kind, s, e)
			}
		}
	}
}

// P4.2: pages of a wrong length, with what is right as far as it goes.
func TestLengths(t *testing.T) {
	for name, s := range rights() {
		long := append(pageOf(s), make([]byte, 200)...)
		for size := range len(long) {
			if size != 128 {
				refused(t, long[:size:size], name, ", length ", size)
				refused(t, long[:size], name, ", length ", size, " and room")
			}
		}
	}
	page := pageOf(of(0, 0))
	refused(t, append(slices.Clone(page), page...), "twice")
}

// P4.2: a sum that is wrong, whichever byte is another one.
func TestSums(t *testing.T) {
	for name, s := range rights() {
		for at := range 128 {
			for _, by := range []byte{1, 0x80, 0xff} {
				page := pageOf(s)
				page[at] ^= by
				refused(t, page, name, ", byte ", at, " by ", by)
			}
		}
	}
}

// P4.2: pages that say more entries than fit, or fewer or more than they have.
func TestNumbersOfEntriesInPages(t *testing.T) {
	for count := range 256 {
		for _, has := range []int{0, 1, 8, 9} {
			body := bodyOf(of(0, 0, row(has, 1, 1, 1, 1)...))
			body[1] = byte(count)
			what := fmt.Sprint("says ", count, ", has ", has)
			if page := sealed(3, body); count != has {
				refused(t, page, what)
			} else if s, e := shelf.Decode(page); e != api.OK || !same(s, of(0, 0, row(has, 1, 1, 1, 1)...)) {
				t.Errorf("%s: %v %v", what, s, e)
			}
			for i := range 9 { // as if a tenth entry began behind the ninth
				body[114+i] = 0xff
			}
			refused(t, sealed(3, body), what, ", and more")
		}
	}
}

// P4.2: behind the last entry there are noughts alone.
func TestBytesBehindTheLastEntry(t *testing.T) {
	for entries := range 10 {
		for at := 6 + 12*entries; at < 123; at++ {
			for _, b := range []byte{1, 0x80, 0xff} {
				body := bodyOf(of(0, 7, row(entries, 1, 1, 1, 1)...))
				body[at] = b
				refused(t, sealed(3, body), entries, " entries, byte ", at, " is ", b)
			}
		}
	}
}

// P4.1, P4.2: beside what the words say, of shelves and pages that are near to right ones.
func TestBesideTheWords(t *testing.T) {
	r := rand.New(rand.NewSource(4))
	rightOnes, wrongOnes, pages := 0, 0, 0
	for range 40000 {
		s := random(r)
		page, e := shelf.Encode(s)
		switch {
		case shelf.Right(s) != right(s):
			t.Fatalf("%v: right: %v", s, shelf.Right(s))
		case !right(s) && (e != api.ErrShelf || len(page) != 0), right(s) && (e != api.OK || !bytes.Equal(page, pageOf(s))):
			t.Fatalf("%v: %v %v", s, page, e)
		case !right(s):
			wrongOnes++
			continue
		}
		rightOnes++
		body := bodyOf(s)
		for range 1 + r.Intn(2) {
			body[r.Intn(min(123, 10+12*len(s.Entries)))] = byte(r.Intn(12))
		}
		page = sealed(3, body)
		want, ok := read(page)
		if !ok {
			refused(t, page, "a page that is near to one")
			continue
		}
		pages++
		if got, e := shelf.Decode(page); e != api.OK || !same(got, want) {
			t.Fatalf("%v: %v %v, not %v", page, got, e, want)
		}
	}
	if rightOnes < 1000 || wrongOnes < 1000 || pages < 1000 {
		t.Errorf("too few of %d, %d and %d", rightOnes, wrongOnes, pages)
	}
}

// random answers a shelf that is right, or wrong by little.
func random(r *rand.Rand) api.Shelf {
	s := api.Shelf{Depth: uint8(r.Intn(66)), Next: uint32(r.Intn(4100))}
	low := r.Intn(65)
	print := r.Uint64() >> low << low
	for range r.Intn(10) {
		s.Entries = append(s.Entries, api.Entry{Print: print, Block: uint32(1 + r.Intn(4095))})
		if r.Intn(100) == 0 {
			s.Entries[len(s.Entries)-1].Block = r.Uint32() >> r.Intn(32)
		}
		if r.Intn(4) > 0 && low > 0 {
			print += r.Uint64() >> (64 - low) / 8
		}
	}
	if r.Intn(10) > 0 {
		slices.SortFunc(s.Entries, func(a, b api.Entry) int {
			if a.Print != b.Print {
				return map[bool]int{true: -1, false: 1}[a.Print < b.Print]
			}
			return int(a.Block) - int(b.Block)
		})
	}
	if r.Intn(4) > 0 {
		s.Depth = uint8(r.Intn(66 - low))
	}
	return s
}

// P4.3: unlike shelves have unlike pages.
func TestUnlikeShelvesHaveUnlikePages(t *testing.T) {
	met := map[string]api.Shelf{}
	meet := func(s api.Shelf) {
		page, e := shelf.Encode(s)
		if e != api.OK {
			return
		}
		if other, ok := met[string(page)]; ok {
			t.Errorf("%v and %v have one page", s, other)
		}
		met[string(page)] = s
	}
	prints, blocks := []uint64{0, 1, 255, 256, 1 << 32, top, full}, []uint64{1, 2, 255, 256, 4095}
	for _, depth := range []uint8{0, 1, 2, 63, 64} {
		for _, next := range []uint32{0, 1, 2, 255, 256, 4095} {
			meet(of(depth, next))
			for _, p := range prints {
				for _, b := range blocks {
					meet(of(depth, next, p, b))
					for _, q := range prints {
						meet(of(depth, next, p, b, q, 7))
						meet(of(depth, next, p, b, q, 4095))
					}
				}
			}
		}
	}
	if len(met) < 1000 {
		t.Errorf("only %d pages", len(met))
	}
}

// R3: a shelf that is handed in, and its spare room, stay; the page is no part of it, nor of another page.
func TestEncodeKeepsNothing(t *testing.T) {
	for _, s := range []api.Shelf{of(0, 3, 5, 9, 6, 9), of(0, 3), of(2, 4, row(9, top, 40, 11, 5)...), of(0, 3, 6, 1, 6, 1), of(0, 3, 6, 0), of(64, 3, 5, 1, 6, 2)} {
		was := slices.Concat(s.Entries, of(0, 0, row(20, 100, 100, 1, 1)...).Entries)
		all := slices.Clone(was)
		spare := api.Shelf{Depth: s.Depth, Next: s.Next, Entries: all[:len(s.Entries)]}
		shelf.Right(spare)
		page, e := shelf.Encode(spare)
		if !slices.Equal(all, was) {
			t.Errorf("%v was changed: %v", s, all)
		}
		if e != api.OK {
			continue
		}
		again := encode(t, spare)
		clear(all)
		if !bytes.Equal(page, pageOf(s)) {
			t.Errorf("%v: its page is changed with it", s)
		}
		clear(page[:cap(page)])
		if !bytes.Equal(again, pageOf(s)) {
			t.Errorf("%v: its pages share memory", s)
		}
	}
}

// R3: a page that is handed in, and its spare room, stay; the shelf is no part of it, nor of another shelf.
func TestDecodeKeepsNothing(t *testing.T) {
	for name, s := range rights() {
		all := append(pageOf(s), bytes.Repeat([]byte{7}, 40)...)
		a, e := shelf.Decode(all[:128])
		b, f := shelf.Decode(all[:128])
		if e != api.OK || f != api.OK || !bytes.Equal(all, append(pageOf(s), bytes.Repeat([]byte{7}, 40)...)) {
			t.Errorf("%s: its page was changed, or refused: %v %v", name, e, f)
		}
		clear(all)
		if !same(a, s) || !same(b, s) {
			t.Errorf("%s: the shelf is changed with its page", name)
		}
		clear(a.Entries[:cap(a.Entries)])
		if c, e := shelf.Decode(pageOf(s)); !same(b, s) || e != api.OK || !same(c, s) {
			t.Errorf("%s: its shelves share memory", name)
		}
	}
	for _, page := range [][]byte{pageOf(of(0, 0, 1, 0)), pageOf(of(65, 0)), bytes.Repeat([]byte{3}, 128), bytes.Repeat([]byte{3}, 5)} {
		was := slices.Clone(page)
		if refused(t, page, "no shelf's"); !bytes.Equal(page, was) {
			t.Errorf("%v was changed: %v", was, page)
		}
	}
}

// R6: an empty list and none are the same.
func TestEmptyListsAndNone(t *testing.T) {
	for _, list := range [][]api.Entry{nil, {}, of(0, 0, row(9, 1, 0, 0, 0)...).Entries[:0]} {
		s := api.Shelf{Depth: 64, Next: 9, Entries: list}
		if !shelf.Right(s) || !bytes.Equal(encode(t, s), pageOf(of(64, 9))) {
			t.Errorf("%v: not the shelf without entries", s)
		}
		s.Depth = 65
		if page, e := shelf.Encode(s); shelf.Right(s) || e != api.ErrShelf || len(page) != 0 {
			t.Errorf("%v: depth 65", s)
		}
	}
	refused(t, nil, "no page")
	refused(t, []byte{}, "an empty page")
}
