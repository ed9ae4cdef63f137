// Package octets is layer 1: numbers as bytes, a sum, and pages. See shared/doc/01-octets.md.
package octets

import "catchment/api"

const (
	widest  = 8 // bytes of a number, at most
	bodyAt  = 1 // behind the kind, which is one byte
	sumAt   = bodyAt + api.Body
	modulus = 1<<32 - 5 // a prime, so that no factor of 31 can hide a byte that is changed
)

// Put writes n as size bytes of b, from at on, the highest first; it tells whether they fit.
func Put(b []byte, at, size int, n uint64) bool {
	if !within(b, at, size) || n>>(8*size) != 0 {
		return false
	}
	for i := range size {
		b[at+size-1-i] = byte(n >> (8 * i))
	}
	return true
}

// Get reads the number of size bytes that stands in b from at on, and tells whether there is one.
func Get(b []byte, at, size int) (uint64, bool) {
	if !within(b, at, size) {
		return 0, false
	}
	var n uint64
	for i := range size {
		n = n<<8 | uint64(b[at+i])
	}
	return n, true
}

// within subtracts, and never adds to at: the sum of two great ints would wrap round.
func within(b []byte, at, size int) bool {
	return size >= 1 && size <= widest && at >= 0 && at <= len(b)-size
}

// Sum is the sum of b's bytes.
func Sum(b []byte) uint32 {
	s := uint64(1)
	for i := range len(b) {
		s = (31*s + uint64(b[i]) + 7) % modulus
	}
	return uint32(s)
}

// Seal answers the page of that kind and body.
func Seal(kind uint8, body []byte) ([]byte, api.Errno) {
	if len(body) > api.Body {
		return nil, api.ErrLong
	}
	page := make([]byte, api.Block)
	head, middle, tail := parts(page)
	head[0] = kind
	copy(middle, body)
	Put(tail, 0, len(tail), uint64(Sum(page[:sumAt])))
	return page, api.OK
}

// Open answers the kind and the body of a page.
func Open(page []byte) (uint8, []byte, api.Errno) {
	if len(page) != api.Block {
		return 0, nil, api.ErrPage
	}
	head, middle, tail := parts(page)
	if n, _ := Get(tail, 0, len(tail)); n != uint64(Sum(page[:sumAt])) {
		return 0, nil, api.ErrPage
	}
	body := make([]byte, len(middle))
	copy(body, middle)
	return head[0], body, api.OK
}

// parts answers where the kind, the body and the sum of a page stand; the third index keeps each from growing into the next.
func parts(page []byte) (kind, body, sum []byte) {
	return page[0:bodyAt:bodyAt], page[bodyAt:sumAt:sumAt], page[sumAt:api.Block:api.Block]
}
