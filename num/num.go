// Package num is layer 1: numbers, and rows of them, as bytes.
package num

import (
	"bytes"
	"iter"

	"herd/api"
)

const (
	base = 128 // of the digits, and what is added to each but the last one
	most = 6   // digits of MaxNumber
)

// taken is what comes of taking a number: the number and how many bytes it has, or an error and noughts.
type taken struct {
	n, long int
	e       api.Errno
}

// Put answers the bytes of n: P1.1.
func Put(n int) ([]byte, api.Errno) {
	if !right(n) {
		return nil, api.ErrArg
	}
	return add(nil, n), api.OK
}

// Long answers how many bytes n has: P1.1.
func Long(n int) int {
	if !right(n) {
		return 0
	}
	return len(add(nil, n))
}

// Take answers the number that b begins with, and what is behind it: P1.2.
func Take(b []byte) (n int, rest []byte, e api.Errno) {
	t := first(b)
	if t.e != api.OK {
		return 0, nil, t.e
	}
	return t.n, bytes.Clone(b[t.long:]), api.OK
}

// Row answers the bytes of a row: P1.3.
func Row(l ...int) ([]byte, api.Errno) {
	if len(l) > api.MaxRow {
		return nil, api.ErrArg
	}
	b := add(nil, len(l))
	for n := range each(l) {
		if !right(n) {
			return nil, api.ErrArg
		}
		b = add(b, n)
	}
	return b, api.OK
}

// TakeRow answers the row that b begins with, and what is behind it: P1.3.
func TakeRow(b []byte) (l []int, rest []byte, e api.Errno) {
	many := first(b)
	if many.e != api.OK {
		return nil, nil, many.e
	}
	if many.n > api.MaxRow {
		return nil, nil, api.ErrForm
	}
	used := many.long
	for t := range takes(b[used:], many.n) {
		if t.e != api.OK {
			return nil, nil, t.e
		}
		l = append(l, t.n)
		used += t.long
	}
	return l, bytes.Clone(b[used:]), api.OK
}

// right tells whether n is a number.
func right(n int) bool {
	return 0 <= n && n <= api.MaxNumber
}

// add puts the bytes of n, which is a number, behind b.
func add(b []byte, n int) []byte {
digit:
	if n < base {
		return append(b, byte(n))
	}
	b = append(b, byte(n%base+base))
	n /= base
	goto digit
}

// first takes the number that b begins with.
func first(b []byte) taken {
	n, long, worth := 0, 0, 1
digit:
	if long == len(b) {
		return taken{e: api.ErrShort}
	}
	d := int(b[long])
	n += d % base * worth
	long++
	worth *= base
	if d >= base && long < most {
		goto digit
	}
	// A 0 that is not the only digit could be left out: the number would have bytes of two kinds.
	if d >= base || d == 0 && long > 1 || !right(n) {
		return taken{e: api.ErrForm}
	}
	return taken{n: n, long: long}
}

// each tells the numbers of l, in order.
func each(l []int) iter.Seq[int] {
	return func(yield func(int) bool) {
		i := 0
	next:
		if i < len(l) && yield(l[i]) {
			i++
			goto next
		}
	}
}

// takes tells what comes of taking so many numbers from b, one behind the other. An error is the last one, because what stands behind it is unknown.
func takes(b []byte, many int) iter.Seq[taken] {
	return func(yield func(taken) bool) {
		at, left := 0, many
	next:
		if left == 0 {
			return
		}
		t := first(b[at:])
		at += t.long
		left--
		if yield(t) && t.e == api.OK {
			goto next
		}
	}
}
