package num

import (
	"bytes"
	"slices"
	"testing"

	"herd/api"
)

// edges are the numbers at which the count of digits changes, and the last one.
var edges = []struct {
	n int
	b []byte
}{
	{0, []byte{0}},
	{1, []byte{1}},
	{127, []byte{127}},
	{128, []byte{128, 1}},
	{129, []byte{129, 1}},
	{255, []byte{255, 1}},
	{256, []byte{128, 2}},
	{300, []byte{172, 2}},
	{1<<14 - 1, []byte{255, 127}},
	{1 << 14, []byte{128, 128, 1}},
	{1<<21 - 1, []byte{255, 255, 127}},
	{1 << 21, []byte{128, 128, 128, 1}},
	{1<<28 - 1, []byte{255, 255, 255, 127}},
	{1 << 28, []byte{128, 128, 128, 128, 1}},
	{1<<35 - 1, []byte{255, 255, 255, 255, 127}},
	{1 << 35, []byte{128, 128, 128, 128, 128, 1}},
	{1<<40 - 1, []byte{255, 255, 255, 255, 255, 31}},
	{1 << 40, []byte{128, 128, 128, 128, 128, 32}},
}

// noNumbers are none.
var noNumbers = []int{-1 << 63, -1 << 40, -128, -1, 1<<40 + 1, 1 << 41, 1 << 42, 1<<63 - 1}

// numbers tells many numbers of each count of digits, edges too.
func numbers(yield func(int) bool) {
	for n := range 1 << 15 {
		if !yield(n) {
			return
		}
	}
	for n := 1 << 15; n <= api.MaxNumber; n += n/97 + 1 {
		for d := -1; d <= 1; d++ {
			if !yield(n + d) {
				return
			}
		}
	}
	for bit := range 40 {
		for d := -2; d <= 2; d++ {
			if n := 1<<(bit+1) + d; n >= 0 && n <= api.MaxNumber && !yield(n) {
				return
			}
		}
	}
}

// allBytes calls f with each row of up to long bytes that are among those of alphabet; f may not keep it.
func allBytes(alphabet []byte, long int, f func(b []byte)) {
	b := make([]byte, 0, long)
	var more func()
	more = func() {
		f(b)
		if len(b) == long {
			return
		}
		for _, c := range alphabet {
			b = append(b, c)
			more()
			b = b[:len(b)-1]
		}
	}
	more()
}

// told works out by division what the document says of a number's bytes.
func told(n int) []byte {
	var b []byte
	for d := 0; d == 0 || n > 0; d++ {
		b = append(b, byte(n%128))
		n /= 128
	}
	for i := range len(b) - 1 {
		b[i] += 128
	}
	return b
}

// asked works out, sentence by sentence of P1.2, what Take is to answer: how many bytes are used, instead of what is behind them.
func asked(b []byte) (n, used int, e api.Errno) {
	end := slices.IndexFunc(b, func(c byte) bool { return c < 128 })
	switch {
	case end < 0 && len(b) < 6:
		return 0, 0, api.ErrShort
	case end < 0 || end > 5:
		return 0, 0, api.ErrForm
	case b[end] == 0 && end > 0:
		return 0, 0, api.ErrForm
	}
	for i := end; i >= 0; i-- {
		n = n<<7 | int(b[i]&127)
	}
	if n > 1<<40 {
		return 0, 0, api.ErrForm
	}
	return n, end + 1, api.OK
}

func TestP11PutEdges(t *testing.T) {
	for _, x := range edges {
		b, e := Put(x.n)
		if e != api.OK || !bytes.Equal(b, x.b) {
			t.Errorf("Put(%d) = %v, %d, not %v", x.n, b, e, x.b)
		}
		if l := Long(x.n); l != len(x.b) {
			t.Errorf("Long(%d) = %d, not %d", x.n, l, len(x.b))
		}
	}
}

func TestP11PutMany(t *testing.T) {
	for n := range numbers {
		want := told(n)
		b, e := Put(n)
		if e != api.OK || !bytes.Equal(b, want) || Long(n) != len(want) {
			t.Fatalf("Put(%d) = %v, %d; Long %d; not %v", n, b, e, Long(n), want)
		}
	}
}

func TestP11PutOfNoNumber(t *testing.T) {
	for _, n := range noNumbers {
		if b, e := Put(n); e != api.ErrArg || b != nil {
			t.Errorf("Put(%d) = %v, %d", n, b, e)
		}
		if l := Long(n); l != 0 {
			t.Errorf("Long(%d) = %d", n, l)
		}
	}
}

func TestP11PutIsNew(t *testing.T) {
	a, _ := Put(300)
	a[0] = 7
	if b, _ := Put(300); !bytes.Equal(b, []byte{172, 2}) {
		t.Error("an answer shares memory with another one", b)
	}
}

func TestP12TakeEdges(t *testing.T) {
	for _, x := range edges {
		for _, behind := range [][]byte{nil, {0}, {255, 0, 1}, bytes.Repeat([]byte{128}, 9)} {
			n, rest, e := Take(slices.Concat(x.b, behind))
			if e != api.OK || n != x.n || !bytes.Equal(rest, behind) {
				t.Errorf("Take(%v, %v) = %d, %v, %d", x.b, behind, n, rest, e)
			}
		}
	}
}

func TestP12TakeErrors(t *testing.T) {
	for _, x := range []struct {
		b []byte
		e api.Errno
	}{
		{nil, api.ErrShort},
		{[]byte{}, api.ErrShort},
		{[]byte{128}, api.ErrShort},
		{[]byte{255, 255}, api.ErrShort},
		{[]byte{128, 128, 128, 128, 128}, api.ErrShort},
		{[]byte{255, 255, 255, 255, 255}, api.ErrShort},
		{[]byte{128, 0}, api.ErrForm},
		{[]byte{255, 0}, api.ErrForm},
		{[]byte{255, 128, 0, 5}, api.ErrForm},
		{[]byte{255, 255, 255, 255, 255, 0}, api.ErrForm},
		{[]byte{129, 128, 128, 128, 128, 32}, api.ErrForm},
		{[]byte{128, 128, 128, 128, 128, 33}, api.ErrForm},
		{[]byte{255, 255, 255, 255, 255, 127}, api.ErrForm},
		{[]byte{128, 128, 128, 128, 128, 128}, api.ErrForm},
		{[]byte{255, 255, 255, 255, 255, 255}, api.ErrForm},
		{[]byte{128, 128, 128, 128, 128, 160, 0}, api.ErrForm},
		{[]byte{128, 128, 128, 128, 128, 128, 1}, api.ErrForm},
		{bytes.Repeat([]byte{255}, 5000), api.ErrForm},
	} {
		if n, rest, e := Take(x.b); e != x.e || n != 0 || rest != nil {
			t.Errorf("Take(%v) = %d, %v, %d, not error %d", x.b, n, rest, e, x.e)
		}
	}
}

func TestP12TakeAll(t *testing.T) {
	allBytes([]byte{0, 1, 31, 32, 33, 127, 128, 129, 255}, 6, func(b []byte) { checkTake(t, b) })
	allBytes([]byte{0, 1, 32, 128, 160}, 8, func(b []byte) { checkTake(t, b) })
}

func TestP12TakeTwoBytes(t *testing.T) {
	for i := range 1 << 16 {
		checkTake(t, []byte{byte(i), byte(i >> 8)})
	}
}

// checkTake holds Take against asked.
func checkTake(t *testing.T, b []byte) {
	n, rest, e := Take(b)
	wantN, used, wantE := asked(b)
	if n != wantN || e != wantE {
		t.Fatalf("Take(%v) = %d, %d, not %d, %d", b, n, e, wantN, wantE)
	}
	if e != api.OK && rest != nil || e == api.OK && !bytes.Equal(rest, b[used:]) {
		t.Fatalf("Take(%v) leaves %v", b, rest)
	}
}

func TestP12TakeIsNew(t *testing.T) {
	room := []byte{172, 2, 9, 8, 77, 78}
	_, rest, _ := Take(room[:4])
	_, other, _ := Take(room[:4])
	rest = append(rest, 1, 2)
	rest[0], rest[1] = 3, 4
	if !bytes.Equal(room, []byte{172, 2, 9, 8, 77, 78}) || !bytes.Equal(other, []byte{9, 8}) {
		t.Error("what is behind shares memory", room, other)
	}
}

func TestP13Row(t *testing.T) {
	long := make([]int, api.MaxRow)
	for i := range long {
		long[i] = i
	}
	for _, x := range []struct {
		l []int
		b []byte
	}{
		{nil, []byte{0}},
		{[]int{}, []byte{0}},
		{[]int{0}, []byte{1, 0}},
		{[]int{0, 1}, []byte{2, 0, 1}},
		{[]int{300, 127, 128}, []byte{3, 172, 2, 127, 128, 1}},
		{[]int{1 << 40}, []byte{1, 128, 128, 128, 128, 128, 32}},
		{long, append([]byte{40}, byteRow(40)...)},
	} {
		b, e := Row(x.l...)
		if e != api.OK || !bytes.Equal(b, x.b) {
			t.Errorf("Row(%v) = %v, %d", x.l, b, e)
		}
		for _, behind := range [][]byte{nil, {0}, {255, 255}} {
			l, rest, e := TakeRow(slices.Concat(x.b, behind))
			if e != api.OK || !slices.Equal(l, x.l) || !bytes.Equal(rest, behind) {
				t.Errorf("TakeRow(%v, %v) = %v, %v, %d", x.b, behind, l, rest, e)
			}
		}
	}
}

// byteRow tells the numbers below n, which is at most 128, as bytes.
func byteRow(n int) []byte {
	b := make([]byte, n)
	for i := range b {
		b[i] = byte(i)
	}
	return b
}

func TestP13RowErrors(t *testing.T) {
	for _, l := range [][]int{
		make([]int, api.MaxRow+1),
		make([]int, 1000),
		append(make([]int, api.MaxRow-1), -1),
		{-1},
		{1<<40 + 1},
		{-1, 5},
		{5, 6, 1 << 62},
		{5, -1 << 63, 6},
	} {
		if b, e := Row(l...); e != api.ErrArg || b != nil {
			t.Errorf("Row(%v) = %v, %d", l, b, e)
		}
	}
}

func TestP13TakeRowErrors(t *testing.T) {
	for _, x := range []struct {
		b []byte
		e api.Errno
	}{
		{nil, api.ErrShort},
		{[]byte{128}, api.ErrShort},
		{[]byte{1}, api.ErrShort},
		{[]byte{2, 1}, api.ErrShort},
		{[]byte{2, 1, 255, 255}, api.ErrShort},
		{append([]byte{40}, byteRow(39)...), api.ErrShort},
		{[]byte{41}, api.ErrForm},
		{append([]byte{41}, byteRow(41)...), api.ErrForm},
		{[]byte{127}, api.ErrForm},
		{[]byte{128, 128, 128, 128, 128, 32}, api.ErrForm},
		{[]byte{128, 0}, api.ErrForm},
		{[]byte{129, 0, 5}, api.ErrForm},
		{[]byte{255, 255, 255, 255, 255, 255}, api.ErrForm},
		{[]byte{1, 128, 0}, api.ErrForm},
		{[]byte{2, 5, 128, 128, 128, 128, 128, 33}, api.ErrForm},
		{[]byte{3, 5, 128, 0, 255}, api.ErrForm},
		{[]byte{3, 5, 128, 0}, api.ErrForm},
	} {
		if l, rest, e := TakeRow(x.b); e != x.e || l != nil || rest != nil {
			t.Errorf("TakeRow(%v) = %v, %v, %d, not error %d", x.b, l, rest, e, x.e)
		}
	}
}

func TestP13TakeRowAll(t *testing.T) {
	allBytes([]byte{0, 1, 2, 3, 40, 41, 128, 130, 255}, 6, func(b []byte) {
		want, used, wantE := askedRow(b)
		l, rest, e := TakeRow(b)
		if e != wantE || !slices.Equal(l, want) {
			t.Fatalf("TakeRow(%v) = %v, %d, not %v, %d", b, l, e, want, wantE)
		}
		if e != api.OK && rest != nil || e == api.OK && !bytes.Equal(rest, b[used:]) {
			t.Fatalf("TakeRow(%v) leaves %v", b, rest)
		}
	})
}

// askedRow works out, sentence by sentence of P1.3, what TakeRow is to answer.
func askedRow(b []byte) (l []int, used int, e api.Errno) {
	many, used, e := asked(b)
	if e == api.OK && many > 40 {
		e = api.ErrForm
	}
	for range many {
		if e != api.OK {
			break
		}
		n, long, e2 := asked(b[used:])
		l, used, e = append(l, n), used+long, e2
	}
	if e != api.OK {
		return nil, 0, e
	}
	return l, used, api.OK
}

func TestP13TakeRowIsNew(t *testing.T) {
	room := []byte{2, 5, 6, 9, 8, 77}
	l, rest, _ := TakeRow(room[:5])
	l2, rest2, _ := TakeRow(room[:5])
	rest = append(rest, 1)
	l[0], rest[0] = 3, 4
	if !bytes.Equal(room, []byte{2, 5, 6, 9, 8, 77}) || !slices.Equal(l2, []int{5, 6}) || !bytes.Equal(rest2, []byte{9, 8}) {
		t.Error("answers share memory", room, l2, rest2)
	}
}

func TestP13RowLeavesWhatIsHandedIn(t *testing.T) {
	room := []int{1, 2, 3, 4}
	b, _ := Row(room[:2]...)
	b[1] = 9
	if c, _ := Row(room[:2]...); !bytes.Equal(c, []byte{2, 1, 2}) || !slices.Equal(room, []int{1, 2, 3, 4}) {
		t.Error("Row changed what it was given, or shares memory", c, room)
	}
}

func TestP14WhatIsPutIsTaken(t *testing.T) {
	behind := []byte{128, 0, 255}
	for n := range numbers {
		b, _ := Put(n)
		got, rest, e := Take(append(b, behind...))
		if e != api.OK || got != n || !bytes.Equal(rest, behind) {
			t.Fatalf("%d is taken as %d, %v, %d", n, got, rest, e)
		}
	}
}

func TestP14WhatIsTakenIsPut(t *testing.T) {
	allBytes([]byte{0, 1, 2, 40, 127, 128, 130, 255}, 6, func(b []byte) {
		if n, rest, e := Take(b); e == api.OK {
			if p, _ := Put(n); !bytes.Equal(append(p, rest...), b) {
				t.Fatalf("%v is taken, and put as %v", b, p)
			}
		}
		if l, rest, e := TakeRow(b); e == api.OK {
			if p, _ := Row(l...); !bytes.Equal(append(p, rest...), b) {
				t.Fatalf("%v is taken, and put as %v", b, p)
			}
		}
	})
}

func TestP14RowsAreTakenOneBehindTheOther(t *testing.T) {
	var all []byte
	var rows [][]int
	var row []int
	for n := range numbers {
		if row = append(row, n); len(row) > len(rows)%41 || len(row) == api.MaxRow {
			b, e := Row(row...)
			if e != api.OK {
				t.Fatal(row, e)
			}
			all, rows, row = append(all, b...), append(rows, row), nil
		}
		if len(rows) == 300 {
			break
		}
	}
	for i, want := range rows {
		l, rest, e := TakeRow(all)
		if e != api.OK || !slices.Equal(l, want) {
			t.Fatal(i, l, e)
		}
		all = rest
	}
	if len(all) != 0 {
		t.Error("left:", all)
	}
}

func TestP14NoBytesBeginOthers(t *testing.T) {
	for _, x := range edges {
		for k := range len(x.b) {
			if n, rest, e := Take(x.b[:k]); e != api.ErrShort || n != 0 || rest != nil {
				t.Errorf("Take(%v) = %d, %v, %d", x.b[:k], n, rest, e)
			}
		}
	}
	for n := range numbers {
		b, _ := Put(n)
		for k := range len(b) {
			if _, _, e := Take(b[:k]); e != api.ErrShort {
				t.Fatalf("a number's bytes %v begin those of %d", b[:k], n)
			}
		}
	}
}
