// Package wire is layer 1: numbers, texts and framed records as bytes: see shared/doc/01-wire.md.
package wire

import (
	"bytes"
	"math/bits"

	"diorama/api"
)

const (
	mostNum  = 1<<48 - 1
	mostTail = 6 // how many bytes may follow a number's first one
	mark     = 0x5d
	sumSize  = 4
	flip     = 0xEDB88320
)

func Num(n int) ([]byte, api.Errno) {
	if n < 0 || n > mostNum {
		return nil, api.ErrOver
	}
	return addNum(nil, n), api.OK
}

func Text(s string) ([]byte, api.Errno) {
	if len(s) > api.MaxBytes {
		return nil, api.ErrSize
	}
	return append(addNum(nil, len(s)), s...), api.OK
}

func Sum(b []byte) int {
	sum := ^uint32(0)
	for _, c := range b {
		sum ^= uint32(c)
		for range 8 {
			// -(sum & 1) is all ones where the lowest bit is 1: no branch, for this loop is the slow one.
			sum = sum>>1 ^ flip&-(sum&1)
		}
	}
	return int(^sum)
}

func Frame(b []byte) ([]byte, api.Errno) {
	if len(b) > api.MaxBytes {
		return nil, api.ErrSize
	}
	out := addNum([]byte{mark}, len(b))
	out = append(out, b...)
	return append(out, sumBytes(b)...), api.OK
}

func Unframe(b []byte) (in []byte, size int, e api.Errno) {
	var length, head int
	if len(b) == 0 {
		e = api.ErrEnd
		goto refused
	}
	if b[0] != mark {
		e = api.ErrForm
		goto refused
	}
	length, head, e = number(b[1:], api.MaxBytes)
	if e != api.OK {
		goto refused
	}
	head++
	if len(b)-head < length+sumSize {
		e = api.ErrEnd
		goto refused
	}
	size = head + length + sumSize
	in = bytes.Clone(b[head : head+length])
	if !bytes.Equal(b[head+length:size], sumBytes(in)) {
		e = api.ErrSum
		goto refused
	}
	return in, size, api.OK
refused:
	return nil, 0, e
}

// addNum asks nothing of n: who calls it knows that it may be.
func addNum(b []byte, n int) []byte {
	tail := (bits.Len(uint(n)) + 7) / 8
	b = append(b, byte(tail))
	for i := tail - 1; i >= 0; i-- {
		b = append(b, byte(n>>(8*i)))
	}
	return b
}

func sumBytes(b []byte) []byte {
	sum := Sum(b)
	return []byte{byte(sum >> 24), byte(sum >> 16), byte(sum >> 8), byte(sum)}
}

// number goes byte by byte, so that bytes that begin no number are told as such even where b ends within them.
// A number above most has no form that may be.
func number(b []byte, most int) (n, size int, e api.Errno) {
	if len(b) == 0 {
		return 0, 0, api.ErrEnd
	}
	size = 1 + int(b[0])
	if b[0] > mostTail {
		goto wrong
	}
	if size > 1 && len(b) > 1 && b[1] == 0 {
		goto wrong
	}
	if len(b) < size {
		return 0, 0, api.ErrEnd
	}
	for _, c := range b[1:size] {
		n = n<<8 | int(c)
	}
	if n > most {
		goto wrong
	}
	return n, size, api.OK
wrong:
	return 0, 0, api.ErrForm
}

// Reader: of bytes.
type Reader struct{ state }

type state struct {
	made bool   // by Open: one that is zero is nobody's
	rest []byte // nothing of what was passed
	err  api.Errno
}

func (s *state) pass(size int) { s.rest = s.rest[size:] }

// Open takes a copy, for b stays the caller's, who may change it.
func Open(b []byte) *Reader {
	return &Reader{state{made: true, rest: bytes.Clone(b)}}
}

func (r *Reader) Num() int { return r.Upto(mostNum) }

func (r *Reader) Upto(most int) int {
	if r.Err() != api.OK {
		return 0
	}
	n, size, e := number(r.rest, mostNum)
	if e == api.OK && n > most {
		e = api.ErrOver
	}
	if e != api.OK {
		r.Fail(e)
		return 0
	}
	r.pass(size)
	return n
}

func (r *Reader) Text() string {
	if r.Err() != api.OK {
		return ""
	}
	length, head, e := number(r.rest, api.MaxBytes)
	if e == api.OK && len(r.rest)-head < length {
		e = api.ErrEnd
	}
	if e != api.OK {
		r.Fail(e)
		return ""
	}
	s := string(r.rest[head : head+length])
	r.pass(head + length)
	return s
}

func (r *Reader) Fail(e api.Errno) {
	if r.Err() == api.OK {
		r.err = e
	}
}

func (r *Reader) Err() api.Errno {
	if r == nil || !r.made {
		return api.ErrArg
	}
	return r.err
}

func (r *Reader) Left() int {
	if r == nil {
		return 0
	}
	return len(r.rest)
}

func (r *Reader) Done() api.Errno {
	if e := r.Err(); e != api.OK {
		return e
	}
	if r.Left() > 0 {
		return api.ErrForm
	}
	return api.OK
}
