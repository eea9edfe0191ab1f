package le

import "thatch/api"

// Reader has the bytes that are left to be got.
type Reader struct {
	left  []byte
	fault bool
}

// Take makes a reader of b's bytes. They are copied: the caller may change b
// while the reader is in use.
func Take(b []byte) *Reader {
	return &Reader{left: append([]byte(nil), b...)}
}

// next goes on by n bytes and answers them, which stay the reader's own;
// nothing, if there are not so many (at fault there are none).
func (r *Reader) next(n int) []byte {
	if n < 0 || n > len(r.left) {
		r.fail()
		return nil
	}
	b := r.left[:n]
	r.left = r.left[n:]
	return b
}

// fail puts the reader at fault, for good.
func (r *Reader) fail() {
	r.left = nil
	r.fault = true
}

// Get answers the number of so many bytes that comes next.
func (r *Reader) Get(size int) uint64 {
	if r == nil {
		return 0
	}
	if !isSize(size) {
		r.fail()
		return 0
	}
	var n uint64
	for i, x := range r.next(size) {
		n |= uint64(x) << (8 * i)
	}
	return n
}

// Int answers the number that comes next as an int, if it is within its bounds.
func (r *Reader) Int(size, least, most int) int {
	if r == nil {
		return 0
	}
	n := int(r.Get(size))
	if r.fault {
		return 0
	}
	if n < least || n > most {
		r.fail()
		return 0
	}
	return n
}

// Bytes answers the next n bytes.
func (r *Reader) Bytes(n int) []byte {
	if r == nil {
		return nil
	}
	return append([]byte(nil), r.next(n)...)
}

// Left tells how many bytes are left.
func (r *Reader) Left() int {
	if r == nil {
		return 0
	}
	return len(r.left)
}

// Done tells whether all that was got was there, and nothing but 0 is left.
func (r *Reader) Done() api.Errno {
	if r == nil {
		return api.ErrClosed
	}
	if r.fault {
		return api.ErrCode
	}
	for _, x := range r.left {
		if x != 0 {
			return api.ErrCode
		}
	}
	return api.OK
}
