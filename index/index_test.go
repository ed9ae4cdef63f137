package index_test

import (
	"bytes"
	"encoding/binary"
	"fmt"
	"math"
	"math/big"
	"math/rand"
	"slices"
	"testing"

	"catchment/api"
	"catchment/index"
	"catchment/octets"
)

// row answers n numbers from that one on, so far apart, wrapped round.
func row(n int, from, by uint16) []uint16 {
	var out []uint16
	for i := range n {
		out = append(out, from+uint16(i)*by)
	}
	return out
}

// bodyOf answers what should stand in the body of a page, laid by other means than the program's.
func bodyOf(l []uint16) []byte {
	body := []byte{byte(len(l))}
	for _, n := range l {
		body = binary.BigEndian.AppendUint16(body, n)
	}
	return append(body, make([]byte, max(0, api.Body-len(body)))...)
}

// sealed answers the page of a kind and a body, laid by other means than the program's, but for the sum.
func sealed(kind uint8, body []byte) []byte {
	page := append([]byte{kind}, body...)
	page = append(page, make([]byte, api.Body-len(body))...)
	return binary.BigEndian.AppendUint32(page, octets.Sum(page))
}

// pageOf answers the page that numbers should have.
func pageOf(kind uint8, l []uint16) []byte {
	return sealed(kind, bodyOf(l))
}

// read is what the words of P5.1 say of a page: the only numbers that it can have, if its bytes are theirs.
func read(kind uint8, page []byte) ([]uint16, bool) {
	if len(page) != 128 || kind != 4 && kind != 5 || page[1] > 61 {
		return nil, false
	}
	var l []uint16
	for i := range int(page[1]) {
		l = append(l, binary.BigEndian.Uint16(page[2+2*i:]))
	}
	return l, bytes.Equal(pageOf(kind, l), page)
}

// encode encodes, and must be let.
func encode(t *testing.T, kind uint8, l []uint16) []byte {
	t.Helper()
	page, e := index.Encode(kind, l)
	if e != api.OK {
		t.Fatalf("Encode(%d, %v): %v", kind, l, e)
	}
	return page
}

// decoded holds that a page has these numbers.
func decoded(t *testing.T, kind uint8, page []byte, want []uint16) {
	t.Helper()
	if l, e := index.Decode(kind, page); e != api.OK || !slices.Equal(l, want) {
		t.Errorf("kind %d, %v: %v %v, not %v", kind, page, l, e, want)
	}
}

// refused holds that a page has no numbers.
func refused(t *testing.T, kind uint8, page []byte, what ...any) {
	t.Helper()
	if l, e := index.Decode(kind, page); e != api.ErrIndex || len(l) != 0 {
		t.Errorf("%s: %v %v", fmt.Sprint(what...), l, e)
	}
}

// barred holds that numbers have no page.
func barred(t *testing.T, kind uint8, l []uint16) {
	t.Helper()
	if page, e := index.Encode(kind, l); e != api.ErrIndex || len(page) != 0 {
		t.Errorf("Encode of kind %d, %d numbers: %v %v", kind, len(l), page, e)
	}
}

// rows are rows of numbers that have pages: ordinary ones, and all that stand at an edge.
func rows() map[string][]uint16 {
	return map[string][]uint16{
		"no number":                     nil,
		"1 number":                      {7},
		"the number 0":                  {0},
		"the number 65535":              {65535},
		"2 numbers":                     {258, 7},
		"numbers that fall":             {9, 8, 256, 255, 0},
		"noughts about a number":        {0, 0, 3, 0, 0},
		"60 numbers":                    row(60, 1000, 77),
		"61 numbers":                    row(61, 1, 257),
		"61 noughts":                    row(61, 0, 0),
		"61 times 65535":                row(61, 65535, 0),
		"61 numbers, the last 0":        row(61, 60, 65535),
		"61 numbers, the last 65535":    row(61, 65475, 1),
		"60 numbers, the last 65535":    row(60, 65476, 1),
		"60 numbers, then 0":            append(row(60, 4, 4), 0),
		"as many numbers as they say":   row(58, 58, 0),
		"numbers of one byte each":      row(61, 200, 1)[:50],
		"numbers whose last byte is 0":  row(61, 256, 256),
		"numbers like kinds and counts": {4, 5, 61, 4, 5, 61, 62, 128, 123},
	}
}

// P5.1: numbers have their pages, of both kinds.
func TestNumbersHavePages(t *testing.T) {
	for name, l := range rows() {
		for kind := uint8(4); kind <= 5; kind++ {
			page, e := index.Encode(kind, l)
			if e != api.OK || !bytes.Equal(page, pageOf(kind, l)) {
				t.Errorf("%s, kind %d: %v %v, not %v", name, kind, page, e, pageOf(kind, l))
			}
		}
	}
}

// P5.1: the examples' bytes, one by one.
func TestBytesOfPages(t *testing.T) {
	page := encode(t, 4, []uint16{258, 7})
	want := make([]byte, 124)
	copy(want, []byte{4, 2, 1, 2, 0, 7})
	if len(page) != 128 || !bytes.Equal(page[:124], want) {
		t.Errorf("258 7: %v", page)
	}
	refused(t, 5, page, "258 7 of the other kind")
	decoded(t, 4, page, []uint16{258, 7})
	page = encode(t, 5, nil)
	if len(page) != 128 || page[0] != 5 || !bytes.Equal(page[1:124], make([]byte, 123)) {
		t.Errorf("no number: %v", page)
	}
	page = encode(t, 5, row(61, 0x0102, 0x0101))
	for i := range 61 {
		if at := 2 + 2*i; page[at] != byte(1+i) || page[at+1] != byte(2+i) {
			t.Errorf("number %d: %v", i, page[at:at+2])
		}
	}
	if page[0] != 5 || page[1] != 61 {
		t.Errorf("61 numbers: %v", page)
	}
	if kind, body, e := octets.Open(page); kind != 5 || len(body) != 123 || e != api.OK {
		t.Errorf("61 numbers: no page: %v", e)
	}
}

// P5.1: each number, at the first place, the last one, and between.
func TestEachNumber(t *testing.T) {
	for n := range 65536 {
		for _, at := range []int{0, 30, 60} {
			l := row(61, 300, 3)
			l[at] = uint16(n)
			page, e := index.Encode(5, l)
			if e != api.OK || int(page[2+2*at])*256+int(page[3+2*at]) != n {
				t.Fatalf("%d at %d: %v %v", n, at, page, e)
			}
			if got, e := index.Decode(5, page); e != api.OK || !slices.Equal(got, l) {
				t.Fatalf("%d at %d: %v %v", n, at, got, e)
			}
		}
	}
}

// P5.1, R2: each length of a row, and those whose last bytes say less.
func TestLengthsOfRows(t *testing.T) {
	for n := range 600 {
		l := row(n, 1, 1)
		for kind := uint8(4); kind <= 5; kind++ {
			if n > 61 {
				barred(t, kind, l)
			} else if page, e := index.Encode(kind, l); e != api.OK || !bytes.Equal(page, pageOf(kind, l)) {
				t.Errorf("%d numbers: %v %v", n, page, e)
			}
		}
	}
	for _, n := range []int{1 << 15, 1<<16 - 1, 1 << 16, 1<<16 + 1, 1<<16 + 61, 1 << 20} {
		barred(t, 4, make([]uint16, n))
		barred(t, 5, make([]uint16, n))
	}
}

// P5.1, R2: of all kinds two have numbers, and neither has those of another.
func TestKinds(t *testing.T) {
	for kind := range 256 {
		for _, l := range [][]uint16{nil, {0}, {258, 7}, row(61, 3, 5)} {
			ours := kind == 4 || kind == 5
			if !ours {
				barred(t, uint8(kind), l)
			} else if page := encode(t, uint8(kind), l); page[0] != uint8(kind) {
				t.Errorf("kind %d: %v", kind, page)
			}
			for asked := range 256 {
				page := pageOf(uint8(kind), l)
				if ours && asked == kind {
					decoded(t, uint8(asked), page, l)
				} else {
					refused(t, uint8(asked), page, "kind ", kind, ", asked for ", asked)
				}
			}
		}
		barred(t, uint8(kind), row(62, 0, 0))
	}
}

// P5.1, P5.3: what is encoded is decoded, of that kind alone, and encoded to the same page.
func TestPagesOfNumbersAreDecoded(t *testing.T) {
	for name, l := range rows() {
		for kind := uint8(4); kind <= 5; kind++ {
			page := encode(t, kind, l)
			got, e := index.Decode(kind, page)
			if e != api.OK || !slices.Equal(got, l) {
				t.Errorf("%s, kind %d: %v %v, not %v", name, kind, got, e, l)
			}
			if again := encode(t, kind, got); !bytes.Equal(again, pageOf(kind, l)) {
				t.Errorf("%s, kind %d: encoded again: %v", name, kind, again)
			}
			for _, other := range []uint8{0, 1, 2, 3, 9 - kind, 6, 255} {
				refused(t, other, page, name, ", kind ", kind, ", asked for ", other)
			}
		}
	}
}

// P5.1: pages of a wrong length, with what is right as far as it goes.
func TestLengths(t *testing.T) {
	for name, l := range rows() {
		long := append(pageOf(5, l), make([]byte, 200)...)
		for size := range len(long) {
			if size != 128 {
				refused(t, 5, long[:size:size], name, ", length ", size)
				refused(t, 5, long[:size], name, ", length ", size, " and room")
			}
		}
	}
	page := pageOf(4, nil)
	refused(t, 4, append(slices.Clone(page), page...), "twice")
}

// P5.1: a sum that is wrong, whichever byte is another one.
func TestSums(t *testing.T) {
	for name, l := range rows() {
		for at := range 128 {
			for _, by := range []byte{1, 0x80, 0xff} {
				page := pageOf(4, l)
				page[at] ^= by
				refused(t, 4, page, name, ", byte ", at, " by ", by)
			}
		}
	}
}

// P5.1: pages that say more numbers than fit, or fewer or more than they have.
func TestNumbersInPages(t *testing.T) {
	for count := range 256 {
		for _, has := range []int{0, 1, 30, 60, 61} {
			l := row(has, 300, 3)
			body := bodyOf(l)
			body[0] = byte(count)
			for kind := uint8(4); kind <= 5; kind++ {
				page := sealed(kind, body)
				switch {
				case count > 61 || count < has:
					refused(t, kind, page, "says ", count, ", has ", has)
				default: // noughts that stand behind the last number are numbers then
					decoded(t, kind, page, append(slices.Clone(l), make([]uint16, count-has)...))
				}
			}
		}
	}
}

// P5.1: behind the last number there are noughts alone.
func TestBytesBehindTheLastNumber(t *testing.T) {
	for n := range 62 {
		for at := 1 + 2*n; at < 123; at++ {
			for _, b := range []byte{1, 0x80, 0xff} {
				body := bodyOf(row(n, 7, 11))
				body[at] = b
				refused(t, 4, sealed(4, body), n, " numbers, byte ", at, " is ", b)
				refused(t, 5, sealed(5, body), n, " numbers, byte ", at, " is ", b)
			}
		}
	}
}

// P5.1: blocks that are no page at all.
func TestBlocksThatAreNoPages(t *testing.T) {
	for b := range 256 {
		block := bytes.Repeat([]byte{byte(b)}, 128)
		refused(t, 4, block, "all bytes are ", b)
		refused(t, 5, block, "all bytes are ", b)
	}
}

// P5.1: beside what the words say, of pages that are near to right ones.
func TestBesideTheWords(t *testing.T) {
	r := rand.New(rand.NewSource(5))
	pages, others := 0, 0
	for range 40000 {
		l := row(r.Intn(62), uint16(r.Uint32()), uint16(r.Uint32()>>r.Intn(32)))
		kind := uint8(4 + r.Intn(2))
		if page, e := index.Encode(kind, l); e != api.OK || !bytes.Equal(page, pageOf(kind, l)) {
			t.Fatalf("%v: %v %v", l, page, e)
		}
		body := bodyOf(l)
		for range r.Intn(3) {
			body[r.Intn(min(123, 4+2*len(l)))] = byte(r.Intn(64))
		}
		page := sealed(uint8(4+r.Intn(2)), body)
		if want, ok := read(kind, page); ok {
			pages++
			decoded(t, kind, page, want)
		} else {
			others++
			refused(t, kind, page, "a page that is near to one")
		}
	}
	if pages < 1000 || others < 1000 {
		t.Errorf("too few of %d and %d", pages, others)
	}
}

// P5.3: unlike numbers, and like ones of unlike kinds, have unlike pages.
func TestUnlikeNumbersHaveUnlikePages(t *testing.T) {
	met := map[string]bool{}
	few, asked := []uint16{0, 1, 2, 255, 256, 257, 65535}, 0
	meet := func(l ...uint16) {
		for kind := uint8(4); kind <= 5; kind++ {
			asked++
			met[string(encode(t, kind, l))] = true
		}
	}
	meet()
	for _, a := range few {
		meet(a)
		for _, b := range few {
			meet(a, b)
			for _, c := range few {
				meet(a, b, c)
			}
		}
	}
	for n := 4; n <= 61; n++ {
		meet(make([]uint16, n)...)
	}
	if len(met) != asked {
		t.Errorf("%d pages of %d", len(met), asked)
	}
}

// greatest is the last one of its multiples of 61 that is no greater than the greatest int there is.
const greatest = math.MaxInt / 61 * 61

// P5.2: on how many pages a row stands: the edges.
func TestPages(t *testing.T) {
	for _, x := range [][2]int{
		{math.MinInt, 0}, {math.MinInt + 1, 0}, {-4096, 0}, {-62, 0}, {-61, 0}, {-60, 0}, {-5, 0}, {-1, 0}, {0, 0},
		{1, 1}, {2, 1}, {60, 1}, {61, 1}, {62, 2}, {121, 2}, {122, 2}, {123, 3}, {183, 3}, {184, 4}, {4096, 68},
		{greatest, greatest / 61}, {greatest - 60, greatest / 61}, {greatest - 61, greatest/61 - 1}, {greatest + 1, greatest/61 + 1},
	} {
		if got := index.Pages(x[0]); got != x[1] {
			t.Errorf("Pages(%d): %d, not %d", x[0], got, x[1])
		}
	}
}

// rounded answers how many 61s n numbers need, by numbers that don't wrap round.
func rounded(n int) int {
	sum := new(big.Int).Add(big.NewInt(int64(n)), big.NewInt(60))
	return int(sum.Div(sum, big.NewInt(61)).Int64())
}

// P5.2: on how many pages a row stands, beside a division of other numbers; up to the greatest int.
func TestPagesOfGreatRows(t *testing.T) {
	for i := range 2000 {
		for _, n := range []int{math.MaxInt - i, math.MaxInt/2 + i, math.MaxInt32 - i, i + 1} {
			if got := index.Pages(n); got != rounded(n) {
				t.Errorf("Pages(%d): %d, not %d", n, got, rounded(n))
			}
		}
	}
}

// P5.2: where a number stands: the edges.
func TestPlace(t *testing.T) {
	for _, x := range [][3]int{
		{math.MinInt, -1, -1}, {math.MinInt + 1, -1, -1}, {-123, -1, -1}, {-62, -1, -1}, {-61, -1, -1}, {-60, -1, -1}, {-1, -1, -1},
		{0, 0, 0}, {1, 0, 1}, {60, 0, 60}, {61, 1, 0}, {62, 1, 1}, {121, 1, 60}, {122, 2, 0}, {182, 2, 60}, {183, 3, 0}, {4095, 67, 8},
		{greatest - 1, greatest/61 - 1, 60}, {greatest, greatest / 61, 0}, {math.MaxInt, greatest / 61, math.MaxInt - greatest},
	} {
		if page, at := index.Place(x[0]); page != x[1] || at != x[2] {
			t.Errorf("Place(%d): %d %d, not %d %d", x[0], page, at, x[1], x[2])
		}
	}
}

// P5.2, P5.3: row by row: numbers stand on pages of 61, one beside the other; the last page has what is left, and is one of the row's.
func TestPlacesOfRows(t *testing.T) {
	page, at := 0, 0
	for i := range 10000 {
		if p, a := index.Place(i); p != page || a != at {
			t.Fatalf("Place(%d): %d %d, not %d %d", i, p, a, page, at)
		}
		if n := index.Pages(i + 1); n != page+1 {
			t.Fatalf("Pages(%d): %d, not %d", i+1, n, page+1)
		}
		if at++; at == 61 {
			page, at = page+1, 0
		}
	}
}

// P5.3: numbers of great rows: the last one is on the last page, the next beside it or first on the page behind.
func TestPlacesOfGreatRows(t *testing.T) {
	for i := range 2000 {
		n := math.MaxInt - 1 - i
		page, at := index.Place(n)
		next, then := index.Place(n + 1)
		if at < 0 || at > 60 || page+1 != index.Pages(n+1) {
			t.Errorf("Place(%d): %d %d, of %d pages", n, page, at, index.Pages(n+1))
		}
		if beside := next == page && then == at+1; !beside && (at != 60 || next != page+1 || then != 0) {
			t.Errorf("Place(%d): %d %d, and the next one: %d %d", n, page, at, next, then)
		}
	}
}

// P5.3: a row that is laid on its pages by Place, and those by Encode, is got back by them.
func TestRowsOnPages(t *testing.T) {
	for _, n := range []int{0, 1, 60, 61, 62, 121, 122, 123, 500, 4096} {
		row, parts := row(n, 9, 259), make([][]uint16, index.Pages(n))
		for i, x := range row {
			page, at := index.Place(i)
			if page >= len(parts) || at != len(parts[page]) {
				t.Fatalf("%d of %d: %d %d", i, n, page, at)
			}
			parts[page] = append(parts[page], x)
		}
		var back []uint16
		for i, l := range parts {
			if i < len(parts)-1 && len(l) != 61 || len(l) == 0 {
				t.Errorf("%d numbers: %d on page %d", n, len(l), i)
			}
			got, e := index.Decode(5, encode(t, 5, l))
			if e != api.OK {
				t.Errorf("%d numbers, page %d: %v", n, i, e)
			}
			back = append(back, got...)
		}
		if !slices.Equal(back, row) {
			t.Errorf("%d numbers: %v", n, back)
		}
	}
}

// R3: numbers that are handed in, and their spare room, stay; the page is no part of them, nor of another page.
func TestEncodeKeepsNothing(t *testing.T) {
	for name, l := range rows() {
		was := slices.Concat(l, row(100, 500, 1))
		all := slices.Clone(was)
		page, again := encode(t, 4, all[:len(l)]), encode(t, 4, all[:len(l)])
		barred(t, 3, all[:len(l)])
		barred(t, 4, all[:62])
		if !slices.Equal(all, was) {
			t.Errorf("%s: changed: %v", name, all)
		}
		clear(all)
		if !bytes.Equal(page, pageOf(4, l)) {
			t.Errorf("%s: its page is changed with it", name)
		}
		clear(page[:cap(page)])
		if !bytes.Equal(again, pageOf(4, l)) || !bytes.Equal(encode(t, 4, l), pageOf(4, l)) {
			t.Errorf("%s: its pages share memory", name)
		}
	}
}

// R3: a page that is handed in, and its spare room, stay; the numbers are no part of it, nor of others.
func TestDecodeKeepsNothing(t *testing.T) {
	for name, l := range rows() {
		was := append(pageOf(5, l), bytes.Repeat([]byte{7}, 40)...)
		all := slices.Clone(was)
		a, e := index.Decode(5, all[:128])
		b, f := index.Decode(5, all[:128])
		refused(t, 4, all[:128], name, ", the other kind")
		refused(t, 5, all[:127], name, ", a byte less")
		if e != api.OK || f != api.OK || !bytes.Equal(all, was) {
			t.Errorf("%s: its page was changed, or refused: %v %v", name, e, f)
		}
		clear(all)
		if !slices.Equal(a, l) || !slices.Equal(b, l) {
			t.Errorf("%s: changed with their page", name)
		}
		clear(a[:cap(a)])
		if !slices.Equal(b, l) {
			t.Errorf("%s: told twice, they share memory", name)
		}
		decoded(t, 5, pageOf(5, l), l)
	}
	for _, page := range [][]byte{sealed(4, []byte{62}), sealed(4, []byte{0, 1}), bytes.Repeat([]byte{4}, 128), bytes.Repeat([]byte{4}, 5)} {
		was := slices.Clone(page)
		if refused(t, 4, page, "no numbers'"); !bytes.Equal(page, was) {
			t.Errorf("%v was changed: %v", was, page)
		}
	}
}

// R6: an empty list and none are the same.
func TestEmptyListsAndNone(t *testing.T) {
	for _, l := range [][]uint16{nil, {}, row(61, 1, 1)[:0]} {
		if !bytes.Equal(encode(t, 4, l), pageOf(4, nil)) || !bytes.Equal(encode(t, 5, l), pageOf(5, nil)) {
			t.Errorf("%v: not the page without numbers", l)
		}
		barred(t, 3, l)
		barred(t, 6, l)
	}
	refused(t, 4, nil, "no page")
	refused(t, 5, []byte{}, "an empty page")
}
