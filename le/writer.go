package le

import "thatch/api"

// Writer has room for so many bytes, and what was put so far.
type Writer struct {
	room  int
	put   []byte
	fault bool
}

// New makes a writer with so much room; nil, if there is no such room.
func New(room int) *Writer {
	if room < 0 || room > mostRoom {
		return nil
	}
	return &Writer{room: room}
}

// Put puts the lowest bytes of n, so many as size says.
func (w *Writer) Put(size int, n uint64) *Writer {
	if w == nil {
		return nil
	}
	if !isSize(size) {
		goto fault
	}
	if !w.fits(size) {
		goto fault
	}
	for range size {
		w.put = append(w.put, byte(n))
		n >>= 8
	}
	return w
fault:
	w.fault = true
	return w
}

// Bytes puts b.
func (w *Writer) Bytes(b []byte) *Writer {
	if w == nil {
		return nil
	}
	if !w.fits(len(b)) {
		goto fault
	}
	w.put = append(w.put, b...)
	return w
fault:
	w.fault = true
	return w
}

// fits tells whether n more bytes may be put. Of a writer at fault not even
// none may: it stays at fault.
func (w *Writer) fits(n int) bool {
	return !w.fault && n <= w.room-len(w.put)
}

// Len tells how many bytes were put.
func (w *Writer) Len() int {
	if w == nil {
		return 0
	}
	return len(w.put)
}

// Done answers all of the room: what was put, and 0 behind it.
func (w *Writer) Done() ([]byte, api.Errno) {
	if w == nil {
		return nil, api.ErrClosed
	}
	if w.fault {
		return nil, api.ErrFull
	}
	b := make([]byte, w.room)
	copy(b, w.put)
	return b, api.OK
}
