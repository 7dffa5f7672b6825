// Package wire is layer 1: numbers and texts as bytes, one behind the other; see shared/doc/01-wire.md.
package wire

import "strings"

// row is a sort of numbers that are laid alike: from least to most, each as a first byte and tail bytes of what it is above base.
type row struct {
	first       byte
	base        uint64
	least, most uint64
	tail        int
}

// rows tells the sorts of rows, rising by their numbers and by their first bytes.
func rows(yield func(row) bool) {
	if !yield(row{0, 0, 0, 240, 0}) || !yield(row{241, 240, 241, 2287, 1}) || !yield(row{249, 2288, 2288, 67823, 2}) {
		return
	}
	least := uint64(67824)
	for tail := 3; tail <= 8; tail++ {
		// For eight bytes the shift leaves 0, and 0 - 1 is just the greatest number.
		most := uint64(1)<<(8*tail) - 1
		if !yield(row{byte(247 + tail), 0, least, most, tail}) {
			return
		}
		least = most + 1
	}
}

// rowOf is the sort of row that says n.
func rowOf(n uint64) row {
	var found row
	for r := range rows {
		found = r
		if n <= r.most {
			break
		}
	}
	return found
}

// rowFrom is the sort of row that begins with b.
func rowFrom(b byte) row {
	var found row
	for r := range rows {
		if b < r.first {
			break
		}
		found = r
	}
	return found
}

// PutNum lays n behind s.
func PutNum(s string, n uint64) string {
	return s + numBytes(n)
}

// PutText lays how many bytes t has, and these, behind s.
func PutText(s, t string) string {
	return s + numBytes(uint64(len(t))) + t
}

func numBytes(n uint64) string {
	r := rowOf(n)
	v := n - r.base
	var b strings.Builder
	b.WriteByte(r.first + byte(v>>(8*r.tail)))
	for i := r.tail - 1; i >= 0; i-- {
		b.WriteByte(byte(v >> (8 * i)))
	}
	return b.String()
}

// Reader takes numbers and texts off bytes.
type Reader struct {
	ahead []byte
	spent bool
}

// NewReader is a reader that has s ahead.
func NewReader(s string) *Reader {
	return &Reader{ahead: []byte(s)}
}

// Num takes a number.
func (r *Reader) Num() uint64 {
	n, is := number(r.take)
	if !is {
		r.spend()
	}
	return n
}

// Text takes a text.
func (r *Reader) Text() string {
	take := r.take
	if n, is := number(take); is {
		if b, is := take(n); is {
			return string(b)
		}
	}
	r.spend()
	return ""
}

// OK tells whether the reader is not spent.
func (r *Reader) OK() bool {
	return r != nil && !r.spent
}

// End tells whether all was taken.
func (r *Reader) End() bool {
	return r.OK() && len(r.ahead) == 0
}

// take cuts n bytes off what is ahead.
func (r *Reader) take(n uint64) ([]byte, bool) {
	if r == nil || n > uint64(len(r.ahead)) {
		return nil, false
	}
	b := r.ahead[:n:n]
	r.ahead = r.ahead[n:len(r.ahead):len(r.ahead)]
	return b, true
}

func (r *Reader) spend() {
	if r != nil {
		r.ahead, r.spent = nil, true
	}
}

// number reads a number's bytes. Each number has one row alone: what another row would say is none.
func number(take func(uint64) ([]byte, bool)) (uint64, bool) {
	head, is := take(1)
	if !is {
		return 0, false
	}
	r := rowFrom(head[0])
	tail, is := take(uint64(r.tail))
	if !is {
		return 0, false
	}
	v := uint64(head[0] - r.first)
	for _, b := range tail {
		v = v<<8 | uint64(b)
	}
	if n := v + r.base; r.least <= n && n <= r.most {
		return n, true
	}
	return 0, false
}
