package frame

import (
	"bytes"
	"math"
	"math/big"
	"slices"
	"testing"

	"herd/api"
)

// framesOf are some payloads, and their frames.
var framesOf = []struct {
	payload, b []byte
}{
	{nil, []byte{0, 1, 0, 0, 0}},
	{[]byte{}, []byte{0, 1, 0, 0, 0}},
	{[]byte{0}, []byte{1, 0, 38, 0, 0, 0}},
	{[]byte{7}, []byte{1, 7, 45, 0, 0, 0}},
	{[]byte{255}, []byte{1, 255, 37, 1, 0, 0}},
	{[]byte{1, 2}, []byte{2, 1, 2, 194, 4, 0, 0}},
	{[]byte{2, 1}, []byte{2, 2, 1, 224, 4, 0, 0}},
}

// edges are the lengths at which a frame's own length changes by more than one, the last one, and some between.
var edges = []struct{ n, long int }{
	{0, 5}, {1, 6}, {2, 7}, {126, 131}, {127, 132}, {128, 134}, {129, 135}, {255, 261}, {256, 262}, {511, 517}, {3999, 4005}, {4000, 4006},
}

// behinds are what may stand behind a frame: nothing, bytes that begin no frame, a frame, a frame that is cut off.
var behinds = [][]byte{nil, {0}, {255, 255, 255}, {0, 1, 0, 0, 0}, {1, 7, 45, 0, 0}, bytes.Repeat([]byte{128}, 9)}

// some answers so many bytes; each seed gives others.
func some(long, seed int) []byte {
	b := make([]byte, long)
	for i := range b {
		b[i] = byte(i*7 + i>>8 + seed)
	}
	return b
}

// summed works out by great numbers, cut once at the end, what the document says of a sum.
func summed(b []byte) uint32 {
	s := big.NewInt(1)
	for _, c := range b {
		s.Mul(s, big.NewInt(31))
		s.Add(s, big.NewInt(int64(c)))
		s.Add(s, big.NewInt(7))
	}
	return uint32(s.Mod(s, big.NewInt(1<<32)).Uint64())
}

// told works out part by part what the document says of a frame.
func told(payload []byte) []byte {
	var b []byte
	if n := len(payload); n < 128 {
		b = append(b, byte(n))
	} else {
		b = append(b, byte(n%128+128), byte(n/128))
	}
	b = append(b, payload...)
	s := summed(payload)
	for range 4 {
		b = append(b, byte(s%256))
		s /= 256
	}
	return b
}

// asked works out what Take is to answer by going through all lengths: the one whose frame b begins with. It tells how many bytes are used, instead of what is behind them; 0, if there is none.
func asked(b []byte) (payload []byte, used int) {
	for n := 0; n <= 4000 && n+5 <= len(b); n++ {
		begin := 1
		if n > 127 {
			begin = 2
		}
		if begin+n > len(b) {
			break
		}
		if f := told(b[begin : begin+n]); bytes.HasPrefix(b, f) {
			return b[begin : begin+n], len(f)
		}
	}
	return nil, 0
}

// allBytes calls f with each row of up to long bytes that are among those of alphabet.
func allBytes(alphabet []byte, long int, f func(b []byte)) {
	all := 1
	for most := range long + 1 {
		for n := range all {
			b := make([]byte, most)
			for i := range b {
				b[i] = alphabet[n%len(alphabet)]
				n /= len(alphabet)
			}
			f(b)
		}
		all *= len(alphabet)
	}
}

// checkNone tells whether Take answers that b does not begin with a frame, and All that there is none.
func checkNone(t *testing.T, b []byte) {
	t.Helper()
	if p, rest, e := Take(b); e != api.ErrFrame || p != nil || rest != nil {
		t.Errorf("Take(%v) = %v, %v, %d, though it begins with none", b, p, rest, e)
	}
	if l, used := All(b); len(l) != 0 || used != 0 {
		t.Errorf("All(%v) = %v, %d, though it begins with none", b, l, used)
	}
}

func TestP41Sum(t *testing.T) {
	for _, x := range []struct {
		b []byte
		s uint32
	}{
		{nil, 1},
		{[]byte{}, 1},
		{[]byte{0}, 38},
		{[]byte{1}, 39},
		{[]byte{255}, 293},
		{[]byte{0, 0}, 1185},
		{[]byte{1, 2}, 1218},
		{[]byte{2, 1}, 1248},
	} {
		if s := Sum(x.b); s != x.s {
			t.Errorf("Sum(%v) = %d, not %d", x.b, s, x.s)
		}
	}
}

func TestP41SumGoesRound(t *testing.T) {
	for _, long := range []int{5, 6, 7, 8, 9, 13, 14, 100, 1000, 4000, 4001, 10000} {
		for _, b := range [][]byte{make([]byte, long), bytes.Repeat([]byte{255}, long), some(long, 1), some(long, 200)} {
			if s, want := Sum(b), summed(b); s != want {
				t.Errorf("Sum of %d bytes = %d, not %d", long, s, want)
			}
		}
	}
}

func TestP41Long(t *testing.T) {
	for _, x := range edges {
		if l := Long(x.n); l != x.long {
			t.Errorf("Long(%d) = %d, not %d", x.n, l, x.long)
		}
	}
	for n := range 4001 {
		if l := Long(n); l != len(told(make([]byte, n))) {
			t.Fatalf("Long(%d) = %d", n, l)
		}
	}
	for _, n := range []int{math.MinInt, -1 << 40, -4000, -5, -1, 4001, 4002, 16384, 65536, 1 << 40, 1<<40 + 1, math.MaxInt} {
		if l := Long(n); l != -1 {
			t.Errorf("Long(%d) = %d, not -1", n, l)
		}
	}
}

func TestP42PutBytes(t *testing.T) {
	for _, x := range framesOf {
		if b, e := Put(x.payload); e != api.OK || !bytes.Equal(b, x.b) {
			t.Errorf("Put(%v) = %v, %d, not %v", x.payload, b, e, x.b)
		}
		if p, rest, e := Take(x.b); e != api.OK || !bytes.Equal(p, x.payload) || len(rest) != 0 {
			t.Errorf("Take(%v) = %v, %v, %d", x.b, p, rest, e)
		}
	}
}

func TestP42PutOfAllLengths(t *testing.T) {
	for n := range 4001 {
		p := some(n, n)
		b, e := Put(p)
		if e != api.OK || !bytes.Equal(b, told(p)) || len(b) != Long(n) {
			t.Fatalf("Put of %d bytes: %v, %d", n, b, e)
		}
	}
}

func TestP42PutOfTooMany(t *testing.T) {
	for _, n := range []int{4001, 4002, 5000, 16383, 16384, 65536, 1 << 20} {
		if b, e := Put(make([]byte, n)); e != api.ErrArg || b != nil {
			t.Errorf("Put of %d bytes: %d bytes, %d", n, len(b), e)
		}
	}
}

func TestP42PutIsNew(t *testing.T) {
	room := []byte{5, 6, 7, 77, 78, 79, 80, 81, 82, 83}
	b, _ := Put(room[:3])
	c, _ := Put(room[:3])
	b = append(b, 1)
	b[1], b[len(b)-2] = 99, 99
	if !bytes.Equal(room, []byte{5, 6, 7, 77, 78, 79, 80, 81, 82, 83}) || !bytes.Equal(c, told([]byte{5, 6, 7})) {
		t.Error("Put changed what it was given, or shares memory", room, c)
	}
}

func TestP42TakeOfNone(t *testing.T) {
	sum := func(p []byte) []byte {
		s := summed(p)
		return []byte{byte(s), byte(s >> 8), byte(s >> 16), byte(s >> 24)}
	}
	for _, b := range [][]byte{
		nil,
		{},
		{0},
		{0, 1},
		{0, 1, 0, 0},
		{0, 0, 0, 0, 1},  // the highest first
		{0, 0, 0, 0, 0},  // a sum from 0 on
		{0, 1, 0, 0, 1},  // another last byte
		{0, 38, 0, 0, 0}, // the sum of the length, too
		{1, 1, 0, 0, 0},  // of nothing, but with a length of 1
		{1, 7, 45, 0, 0}, // cut off
		{1, 7, 0, 0, 0, 45},
		{1, 8, 45, 0, 0, 0},
		{2, 7, 45, 0, 0, 0},
		{0, 7, 45, 0, 0, 0},
		{128},
		{128, 128},
		{128, 0, 1, 0, 0, 0},      // a length of 0 in a form that is not put
		{129, 0, 7, 45, 0, 0, 0},  // of 1
		{128, 128, 0, 1, 0, 0, 0}, // of 0
		{129, 128, 128, 128, 128, 32, 1, 2, 3, 4}, // more than any number
		{255, 255, 255, 255, 255, 255, 1, 0, 0, 0},
		{128, 128, 128, 128, 128, 32, 1, 0, 0, 0}, // 2^40
		{255, 255, 255, 255, 15, 1, 0, 0, 0},      // 2^32 - 1
		{128, 128, 128, 128, 16, 1, 0, 0, 0},      // 2^32: 0, if it went round
		bytes.Repeat([]byte{128}, 5000),
		bytes.Repeat([]byte{255}, 5000),
		make([]byte, 5000),
		slices.Concat([]byte{161, 31}, make([]byte, 4001), sum(make([]byte, 4001))),                         // a payload of 4001
		slices.Concat([]byte{255, 127}, some(16383, 1), sum(some(16383, 1))),                                // of 16383
		slices.Concat([]byte{128, 128, 1}, some(16384, 1), sum(some(16384, 1))),                             // of 16384, a length of three bytes
		slices.Concat([]byte{228, 0}, make([]byte, 100), sum(make([]byte, 100))),                            // of 100, its length in two bytes
		slices.Concat([]byte{200, 129, 0}, make([]byte, 200), sum(make([]byte, 200))),                       // of 200, in three
		slices.Concat([]byte{200, 1}, make([]byte, 200), sum(make([]byte, 199))),                            // the sum of one byte fewer
		slices.Concat([]byte{200, 1}, make([]byte, 200), sum(append([]byte{200, 1}, make([]byte, 200)...))), // the sum of the length, too
	} {
		checkNone(t, b)
	}
}

func TestP42TakeOfPartsOfTheSum(t *testing.T) {
	for _, n := range []int{0, 1, 3, 127, 128, 4000} {
		b := told(some(n, 5))
		for back := 1; back <= 4; back++ {
			for bit := range 8 {
				c := slices.Clone(b)
				c[len(c)-back] ^= 1 << bit
				checkNone(t, c)
			}
		}
	}
}

func TestP42TakeWithWhateverBehind(t *testing.T) {
	for _, x := range edges {
		p := some(x.n, 3)
		for _, behind := range behinds {
			got, rest, e := Take(slices.Concat(told(p), behind))
			if e != api.OK || !bytes.Equal(got, p) || !bytes.Equal(rest, behind) {
				t.Errorf("Take of a frame of %d bytes with %v behind: %d bytes, %v, %d", x.n, behind, len(got), rest, e)
			}
		}
	}
}

// checkTake holds Take against asked.
func checkTake(t *testing.T, b []byte) bool {
	want, used := asked(b)
	p, rest, e := Take(b)
	if used == 0 {
		if e != api.ErrFrame || p != nil || rest != nil {
			t.Fatalf("Take(%v) = %v, %v, %d, though it begins with none", b, p, rest, e)
		}
		return false
	}
	if e != api.OK || !bytes.Equal(p, want) || !bytes.Equal(rest, b[used:]) {
		t.Fatalf("Take(%v) = %v, %v, %d, not %v", b, p, rest, e, want)
	}
	return true
}

func TestP42TakeAll(t *testing.T) {
	many := 0
	check := func(b []byte) {
		if checkTake(t, b) {
			many++
		}
	}
	allBytes([]byte{0, 1, 2, 7, 38, 39, 45, 128}, 6, check)
	for i := range 1 << 16 {
		check([]byte{1, byte(i), byte(i >> 8), 0, 0, 0, 9})
		check([]byte{1, byte(i), byte(i >> 8), 1, 0, 0})
		check([]byte{byte(i), 1, 2, byte(i >> 8), 4, 0, 0, 5})
	}
	if many < 250 {
		t.Error("too few frames among all bytes:", many)
	}
}

func TestP42TakeIsNew(t *testing.T) {
	room := []byte{2, 1, 2, 194, 4, 0, 0, 9, 8, 77, 78}
	was := slices.Clone(room)
	p, rest, _ := Take(room[:9])
	q, rest2, _ := Take(room[:9])
	p = append(p, 60, 61, 62)
	rest = append(rest, 63, 64)
	p[0], rest[0] = 65, 66
	if !bytes.Equal(room, was) || !bytes.Equal(q, []byte{1, 2}) || !bytes.Equal(rest2, []byte{9, 8}) || !bytes.Equal(p[1:], []byte{2, 60, 61, 62}) {
		t.Error("Take changed what it was given, or shares memory", room, p, rest, q, rest2)
	}
	room[1], room[7] = 100, 101
	if !bytes.Equal(q, []byte{1, 2}) || !bytes.Equal(rest2, []byte{9, 8}) {
		t.Error("Take keeps what it was given", q, rest2)
	}
}

// same tells whether a and b are the same payloads, in order.
func same(a, b [][]byte) bool {
	return slices.EqualFunc(a, b, bytes.Equal)
}

func TestP43All(t *testing.T) {
	for _, x := range []struct {
		b        []byte
		payloads [][]byte
		used     int
	}{
		{nil, nil, 0},
		{[]byte{}, nil, 0},
		{[]byte{0}, nil, 0},
		{[]byte{0, 1, 0, 0, 0}, [][]byte{nil}, 5},
		{[]byte{0, 1, 0, 0, 0, 0}, [][]byte{nil}, 5},
		{[]byte{0, 1, 0, 0, 0, 0, 1, 0, 0, 0}, [][]byte{nil, nil}, 10},
		{[]byte{1, 7, 45, 0, 0, 0, 0, 1, 0, 0, 0, 2, 1, 2, 194, 4, 0, 0}, [][]byte{{7}, nil, {1, 2}}, 18},
		{[]byte{1, 7, 45, 0, 0, 0, 9, 0, 1, 0, 0, 0}, [][]byte{{7}}, 6},                     // a byte between
		{[]byte{1, 7, 45, 0, 0, 0, 1, 7, 46, 0, 0, 0, 1, 7, 45, 0, 0, 0}, [][]byte{{7}}, 6}, // one that is none between
		{[]byte{9, 1, 7, 45, 0, 0, 0}, nil, 0},                                              // a byte ahead
		{[]byte{6, 1, 7, 45, 0, 0, 0, 0, 0, 0, 0}, nil, 0},                                  // a frame within one that is none
		{told(told([]byte{7})), [][]byte{{1, 7, 45, 0, 0, 0}}, 11},                          // a frame within one
		{slices.Concat(told(some(4000, 1)), told(some(128, 2))), [][]byte{some(4000, 1), some(128, 2)}, 4140},
	} {
		if l, used := All(x.b); !same(l, x.payloads) || used != x.used {
			t.Errorf("All(%v) = %v, %d, not %v, %d", x.b, l, used, x.payloads, x.used)
		}
	}
}

// rowOf tells frames of payloads of some lengths, one behind the other, and where each ends.
func rowOf(lengths ...int) (b []byte, payloads [][]byte, ends []int) {
	for i, n := range lengths {
		p := some(n, i)
		b = append(b, told(p)...)
		payloads = append(payloads, p)
		ends = append(ends, len(b))
	}
	return b, payloads, ends
}

// wholeAt answers how many of the frames end at or ahead of cut, and where the last of these ends.
func wholeAt(ends []int, cut int) (many, used int) {
	for _, end := range ends {
		if end <= cut {
			many, used = many+1, end
		}
	}
	return many, used
}

func TestP43AllAsTakenOneByOne(t *testing.T) {
	check := func(b []byte) {
		var want [][]byte
		rest := b
		for {
			p, r, e := Take(rest)
			if e != api.OK {
				break
			}
			want, rest = append(want, p), r
		}
		if l, used := All(b); !same(l, want) || used != len(b)-len(rest) {
			t.Fatalf("All(%v) = %v, %d", b, l, used)
		}
	}
	allBytes([]byte{0, 1, 7, 45}, 7, check)
	row, _, _ := rowOf(0, 0, 1, 2, 0, 127, 128, 0, 300, 1)
	for _, behind := range behinds {
		check(slices.Concat(row, behind))
		check(slices.Concat(row, behind, row))
	}
}

func TestP43AllIsNew(t *testing.T) {
	room := slices.Concat([]byte{1, 7, 45, 0, 0, 0, 2, 1, 2, 194, 4, 0, 0}, []byte{66, 67})
	was := slices.Clone(room)
	l, _ := All(room[:13])
	m, _ := All(room[:13])
	_ = append(l[0], 50, 51, 52, 53, 54, 55, 56, 57, 58)
	l[0][0], l[1][1] = 98, 99
	if !bytes.Equal(room, was) || !same(m, [][]byte{{7}, {1, 2}}) || l[1][0] != 1 {
		t.Error("All changed what it was given, or shares memory", room, l, m)
	}
	room[1] = 100
	if m[0][0] != 7 {
		t.Error("All keeps what it was given", m)
	}
}

// A whole disk of the smallest frames: going over them again and again from each would not end in time.
func TestP43AllOfMany(t *testing.T) {
	many := 1 << 20
	l, used := All(bytes.Repeat([]byte{0, 1, 0, 0, 0}, many))
	if len(l) != many || used != 5*many {
		t.Error(len(l), used)
	}
}

func TestP44WhatIsPutIsTaken(t *testing.T) {
	for _, x := range edges {
		for seed := range 5 {
			p := some(x.n, seed*51)
			b, e := Put(p)
			if e != api.OK {
				t.Fatal(x.n, e)
			}
			for _, behind := range behinds {
				got, rest, e := Take(slices.Concat(b, behind))
				if e != api.OK || !bytes.Equal(got, p) || !bytes.Equal(rest, behind) {
					t.Fatalf("a payload of %d bytes is taken as %v, %v, %d", x.n, got, rest, e)
				}
				l, used := All(slices.Concat(b, b, behind))
				if len(l) < 2 || !same(l[:2], [][]byte{p, p}) || used < 2*len(b) {
					t.Fatalf("two payloads of %d bytes are taken as %v, %d", x.n, l, used)
				}
			}
		}
	}
}

func TestP44WithSomeAtTheEndCutOff(t *testing.T) {
	b, payloads, ends := rowOf(0, 5, 0, 127, 128, 1, 129, 0, 0, 300, 2)
	for cut := range len(b) + 1 {
		many, used := wholeAt(ends, cut)
		if l, got := All(b[:cut]); !same(l, payloads[:many]) || got != used {
			t.Fatalf("of %d bytes there are %d frames, of %d, not %d, of %d", cut, len(l), got, many, used)
		}
		if p, rest, e := Take(b[:cut]); many == 0 && (e != api.ErrFrame || p != nil || rest != nil) || many > 0 && (e != api.OK || len(p) != 0 || !bytes.Equal(rest, b[5:cut])) {
			t.Fatalf("of %d bytes there is taken %v, %v, %d", cut, p, rest, e)
		}
	}
	long := told(some(4000, 9))
	for cut := range len(long) {
		if p, rest, e := Take(long[:cut]); e != api.ErrFrame || p != nil || rest != nil {
			t.Fatalf("of the first %d bytes of a frame there is taken %v, %v, %d", cut, p, rest, e)
		}
	}
}

func TestP44WithOneByteAnother(t *testing.T) {
	for _, n := range []int{0, 1, 2, 5, 40, 127, 128, 140} {
		b := told(some(n, 77))
		for _, behind := range behinds {
			for at := range b {
				for c := range 256 {
					if byte(c) == b[at] {
						continue
					}
					d := slices.Concat(b, behind)
					d[at] = byte(c)
					if p, _, e := Take(d); e == api.OK && len(p) == n {
						t.Fatalf("a frame of %d bytes with %d at %d is taken as one of that length", n, c, at)
					}
				}
			}
		}
	}
}
