package octets_test

import (
	"bytes"
	"math"
	"math/big"
	"testing"

	"catchment/api"
	"catchment/octets"
)

const modulus = 1<<32 - 5

// filled answers n bytes of list, and spare room behind them; all that can be reached is no nought.
func filled(n, spare int) []byte {
	b := make([]byte, n+spare)
	for i := range b {
		b[i] = byte(i%251 + 1)
	}
	return b[:n]
}

// most is the greatest number of size bytes.
func most(size int) uint64 {
	return math.MaxUint64 >> (64 - 8*size)
}

// P1.1: the bytes of a number, the highest first, and nothing beside them.
func TestPutWritesTheHighestFirst(t *testing.T) {
	for size := 1; size <= 8; size++ {
		for at := 0; at+size <= 12; at++ {
			for _, n := range []uint64{0, 1, 255, 0x0123456789abcdef & most(size), 0xfedcba9876543210 & most(size), most(size) - 1, most(size)} {
				b, want := filled(12, 4), filled(12, 4)
				for i, left := size-1, n; i >= 0; i, left = i-1, left/256 {
					want[at+i] = byte(left % 256)
				}
				if !octets.Put(b, at, size, n) || !bytes.Equal(b[:16], want[:16]) {
					t.Errorf("Put(at %d, size %d, %d): %v, not %v", at, size, n, b[:16], want[:16])
				}
				if got, ok := octets.Get(b, at, size); got != n || !ok {
					t.Errorf("Get(at %d, size %d): %d %v, not %d", at, size, got, ok, n)
				}
			}
		}
	}
}

// P1.1: places that are not all in the bytes, and sizes that are no number's.
func TestPlacesAndSizesThatAreRefused(t *testing.T) {
	for _, x := range []struct{ long, at, size int }{
		{12, 0, 0}, {12, 0, -1}, {12, 0, 9}, {12, 3, 9}, {12, 12, 0}, {12, 5, math.MinInt}, {12, 0, math.MaxInt}, {12, 0, 256},
		{12, -1, 1}, {12, -1, 8}, {12, -8, 8}, {12, math.MinInt, 1}, {12, math.MinInt, 8},
		{12, 12, 1}, {12, 11, 2}, {12, 5, 8}, {12, 13, 1},
		{12, math.MaxInt, 1}, {12, math.MaxInt, 8}, {12, math.MaxInt - 7, 8}, {12, math.MaxInt, math.MaxInt}, {12, math.MinInt, math.MinInt},
		{0, 0, 1}, {0, 0, 0}, {0, -1, 1}, {7, 0, 8},
	} {
		b := filled(x.long, 40)
		if octets.Put(b, x.at, x.size, 0) {
			t.Errorf("Put was done: %v", x)
		}
		if !bytes.Equal(b[:x.long+40], filled(x.long+40, 0)) {
			t.Errorf("Put wrote: %v", x)
		}
		if n, ok := octets.Get(b, x.at, x.size); n != 0 || ok {
			t.Errorf("Get(%v): %d %v", x, n, ok)
		}
	}
	if octets.Put(nil, 0, 1, 0) {
		t.Error("Put into nothing was done")
	}
	if n, ok := octets.Get(nil, 0, 1); n != 0 || ok {
		t.Errorf("Get from nothing: %d %v", n, ok)
	}
}

// P1.1: numbers that just fit, and just do not.
func TestNumbersThatDoNotFit(t *testing.T) {
	for size := 1; size < 8; size++ {
		for _, n := range []uint64{most(size) + 1, most(size) + 2, 2 * (most(size) + 1), 1 << 63, math.MaxUint64} {
			b := filled(12, 4)
			if octets.Put(b, 2, size, n) || !bytes.Equal(b[:16], filled(16, 0)) {
				t.Errorf("Put(size %d, %d): %v", size, n, b)
			}
		}
	}
	if b := filled(8, 0); !octets.Put(b, 0, 8, math.MaxUint64) || !bytes.Equal(b, bytes.Repeat([]byte{255}, 8)) {
		t.Error(b)
	}
}

// P1.1: the last place that is in the bytes is one; Get changes nothing.
func TestTheLastPlaces(t *testing.T) {
	b := filled(9, 9)
	for size := 1; size <= 8; size++ {
		var want uint64
		for _, c := range b[9-size:] {
			want = want*256 + uint64(c)
		}
		if n, ok := octets.Get(b, 9-size, size); n != want || !ok {
			t.Errorf("Get(size %d): %d %v, not %d", size, n, ok, want)
		}
		if n, ok := octets.Get(b, 10-size, size); n != 0 || ok {
			t.Errorf("Get(size %d) one too far: %d %v", size, n, ok)
		}
	}
	if !bytes.Equal(b[:18], filled(18, 0)) {
		t.Error(b)
	}
}

// P1.1, P1.2: what the chapter's examples say.
func TestExamples(t *testing.T) {
	b := make([]byte, 3)
	if !octets.Put(b, 1, 2, 258) || !bytes.Equal(b, []byte{0, 1, 2}) {
		t.Error(b)
	}
	if octets.Put(b, 1, 2, 65536) || octets.Put(b, 2, 2, 258) || !bytes.Equal(b, []byte{0, 1, 2}) {
		t.Error(b)
	}
	if n, ok := octets.Get(b, 0, 2); n != 1 || !ok {
		t.Error(n, ok)
	}
	if n, ok := octets.Get(b, 2, 2); n != 0 || ok {
		t.Error(n, ok)
	}
	if a, b, c := octets.Sum(nil), octets.Sum([]byte{0}), octets.Sum([]byte{0, 0}); a != 1 || b != 38 || c != 1185 {
		t.Error(a, b, c)
	}
	page, e := octets.Seal(4, []byte{9})
	if e != api.OK || len(page) != 128 || page[0] != 4 || page[1] != 9 || page[2] != 0 {
		t.Fatal(page, e)
	}
	kind, body, e := octets.Open(page)
	if e != api.OK || kind != 4 || len(body) != 123 || body[0] != 9 || !bytes.Equal(body[1:], make([]byte, 122)) {
		t.Error(kind, body, e)
	}
	page[127]++
	if _, _, e := octets.Open(page); e != api.ErrPage {
		t.Error(e)
	}
}

// P1.2: sums are taken modulo 2^32 - 5, however long they grow ahead of that.
func TestSumIsTakenModuloThePrime(t *testing.T) {
	m := big.NewInt(modulus)
	for _, b := range [][]byte{filled(600, 0), make([]byte, 600), bytes.Repeat([]byte{255}, 600)} {
		whole, wrapped := big.NewInt(1), false
		for i, c := range b {
			whole.Mul(whole, big.NewInt(31))
			whole.Add(whole, big.NewInt(int64(c)+7))
			wrapped = wrapped || whole.Cmp(m) >= 0
			if want := new(big.Int).Mod(whole, m).Uint64(); uint64(octets.Sum(b[:i+1])) != want {
				t.Fatalf("Sum of %d bytes: %d, not %d", i+1, octets.Sum(b[:i+1]), want)
			}
		}
		if !wrapped {
			t.Error("no sum went beyond the prime")
		}
	}
	if octets.Sum([]byte{}) != octets.Sum(nil) {
		t.Error("an empty list and none are the same")
	}
}

// summing answers a body whose page, of that kind, has that sum: its last seven bytes are what is missing to it, as digits by 31.
func summing(kind byte, sum uint64) []byte {
	body := make([]byte, 123)
	missing := (sum + modulus - uint64(octets.Sum(append([]byte{kind}, body...)))) % modulus
	for i := 122; missing > 0; i-- {
		body[i] = byte(missing % 31)
		missing /= 31
	}
	return body
}

// P1.2: the least and the greatest sums; a sum that is beyond the prime by as much is another number.
func TestSumsAtTheEdgesOfThePrime(t *testing.T) {
	for _, sum := range []uint64{0, 1, 4, 5, 255, 256, modulus - 2, modulus - 1} {
		body := summing(7, sum)
		page, e := octets.Seal(7, body)
		if n, ok := octets.Get(page, 124, 4); e != api.OK || n != sum || !ok {
			t.Fatalf("sum %d: told as %d, %v", sum, n, e)
		}
		if kind, back, e := octets.Open(page); kind != 7 || !bytes.Equal(back, body) || e != api.OK {
			t.Errorf("sum %d: %d %v %v", sum, kind, back, e)
		}
		if octets.Put(page, 124, 4, sum+modulus) != (sum <= 4) {
			t.Errorf("sum %d: what fits in four bytes", sum)
		}
		if _, _, e := octets.Open(page); sum <= 4 && e != api.ErrPage {
			t.Errorf("sum %d, and the prime: %v", sum, e)
		}
	}
}

// P1.2: a page is its kind, its body, noughts, and the sum of these.
func TestSealOfBodiesOfAllLengths(t *testing.T) {
	for kind := 0; kind < 256; kind++ {
		for _, long := range []int{0, 1, 2, 61, 122, 123} {
			body := filled(long, 200)
			page, e := octets.Seal(uint8(kind), body)
			if e != api.OK || len(page) != 128 {
				t.Fatal(kind, long, page, e)
			}
			want := append([]byte{byte(kind)}, body...)
			want = append(want, make([]byte, 123-long)...)
			s := octets.Sum(want)
			want = append(want, byte(s>>24), byte(s>>16), byte(s>>8), byte(s))
			if !bytes.Equal(page, want) {
				t.Fatalf("kind %d, %d bytes: %v, not %v", kind, long, page, want)
			}
			if !bytes.Equal(body[:long+200], filled(long+200, 0)) {
				t.Fatal("Seal changed what was handed in")
			}
			got, back, e := octets.Open(page)
			if e != api.OK || got != uint8(kind) || !bytes.Equal(back, want[1:124]) {
				t.Fatal(kind, long, got, back, e)
			}
			if !bytes.Equal(page, want) {
				t.Fatal("Open changed what was handed in")
			}
		}
	}
}

// P1.2: a body that is too long has no page.
func TestSealOfBodiesThatAreTooLong(t *testing.T) {
	for _, long := range []int{124, 125, 128, 10000} {
		body := filled(long, 8)
		if page, e := octets.Seal(1, body); page != nil || e != api.ErrLong {
			t.Error(long, page, e)
		}
		if !bytes.Equal(body[:long+8], filled(long+8, 0)) {
			t.Error("Seal changed what was handed in")
		}
	}
}

// P1.2: an empty body and none are the same.
func TestSealOfNoBody(t *testing.T) {
	none, e := octets.Seal(3, nil)
	empty, f := octets.Seal(3, []byte{})
	noughts, g := octets.Seal(3, make([]byte, 123))
	if e != api.OK || f != api.OK || g != api.OK || !bytes.Equal(none, empty) || !bytes.Equal(none, noughts) {
		t.Error(none, empty, noughts, e, f, g)
	}
}

// refused: all beside the error is zero, and what was handed in is as it was.
func refused(t *testing.T, page []byte) {
	t.Helper()
	was := bytes.Clone(page)
	if kind, body, e := octets.Open(page); kind != 0 || body != nil || e != api.ErrPage {
		t.Errorf("Open of %d bytes: %d %v %v", len(page), kind, body, e)
	}
	if !bytes.Equal(page, was) {
		t.Error("Open changed what was handed in")
	}
}

// P1.2: what is shorter or longer than a block is no page, nor is a block whose sum is another one.
func TestOpenOfWhatIsNoPage(t *testing.T) {
	page, _ := octets.Seal(9, filled(123, 0))
	refused(t, nil)
	refused(t, []byte{})
	refused(t, page[:1])
	refused(t, page[:124])
	refused(t, page[:127])
	refused(t, append(bytes.Clone(page), 0))
	refused(t, append(bytes.Clone(page), page...))
	refused(t, make([]byte, 128))
	refused(t, bytes.Repeat([]byte{255}, 128))
	shorter := append([]byte{9}, make([]byte, 122)...) // a right sum, one place too early
	s := octets.Sum(shorter)
	refused(t, append(shorter, byte(s>>24), byte(s>>16), byte(s>>8), byte(s)))
	refused(t, append(shorter, byte(s>>24), byte(s>>16), byte(s>>8), byte(s), 0))
	spare := append(bytes.Clone(page), 1, 2, 3)
	if kind, _, e := octets.Open(spare[:128]); kind != 9 || e != api.OK {
		t.Error("room behind a page is no part of it", kind, e)
	}
}

// P1.3: a page in which one byte is changed, whichever and to whatever, is none.
func TestOneByteThatIsChanged(t *testing.T) {
	for _, body := range [][]byte{nil, filled(123, 0), bytes.Repeat([]byte{255}, 123), summing(2, 0), summing(2, 4)} {
		page, _ := octets.Seal(2, body)
		for at := range page {
			was := page[at]
			for by := 1; by < 256; by++ {
				page[at] = was + byte(by)
				if kind, got, e := octets.Open(page); kind != 0 || got != nil || e != api.ErrPage {
					t.Fatalf("byte %d, %d more: %d %v %v", at, by, kind, got, e)
				}
			}
			page[at] = was
		}
		if _, _, e := octets.Open(page); e != api.OK {
			t.Error(e)
		}
	}
}

// P1.3: two sums of bytes of which one is changed are unlike.
func TestSumsOfOneByteThatIsChanged(t *testing.T) {
	b := filled(200, 0)
	first := octets.Sum(b)
	for at := range b {
		was := b[at]
		for by := 1; by < 256; by++ {
			b[at] = was + byte(by)
			if octets.Sum(b) == first {
				t.Fatal(at, by)
			}
		}
		b[at] = was
	}
}

// R3: what is handed in is not kept, and no two answers share memory.
func TestAnswersShareNoMemory(t *testing.T) {
	body := filled(123, 0)
	page, _ := octets.Seal(5, body)
	again, _ := octets.Seal(5, body)
	want := bytes.Clone(page)
	clear(body)
	clear(again)
	if !bytes.Equal(page, want) {
		t.Fatal("a page shares memory with its body, or with another page")
	}
	_, one, _ := octets.Open(page)
	_, two, _ := octets.Open(page)
	clear(one[:cap(one)])
	if !bytes.Equal(page, want) || !bytes.Equal(two, want[1:124]) {
		t.Fatal("a body shares memory with its page, or with another body")
	}
	clear(page)
	if !bytes.Equal(two, want[1:124]) {
		t.Error("a body shares memory with its page")
	}
}
