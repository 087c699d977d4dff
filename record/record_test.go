package record

import (
	"bytes"
	"slices"
	"testing"

	"herd/api"
	"herd/num"
)

// kinds is the document's list: what each kind is called, and how many numbers it has.
var kinds = []struct {
	kind        uint8
	name        string
	least, most int
}{
	{1, "boot", 0, 0},
	{2, "conf", 14, 18},
	{3, "intent", 3, 3},
	{4, "made", 3, 3},
	{5, "fail", 1, 1},
	{6, "phase", 3, 3},
	{7, "gone", 1, 1},
	{8, "take", 5, 5},
	{9, "guard", 2, 2},
	{10, "complete", 1, 1},
	{11, "start", 2, 2},
	{12, "cancel", 0, 0},
	{13, "roll", 0, 0},
	{14, "pause", 1, 1},
	{15, "go", 0, 0},
	{16, "done", 0, 0},
}

// bytesOf are some records that may be, and their bytes.
var bytesOf = []struct {
	r api.Rec
	b []byte
}{
	{api.Rec{Kind: 1}, []byte{1, 1}},
	{api.Rec{Kind: 1, L: []int{}}, []byte{1, 1}},
	{api.Rec{Kind: 2, L: []int{3, 50, 1, 0, 0, 0, 0, 0, 5, 5, 3, 0, 300, 1}}, []byte{15, 2, 3, 50, 1, 0, 0, 0, 0, 0, 5, 5, 3, 0, 172, 2, 1}},
	{api.Rec{Kind: 2, L: []int{0, 1, 2, 3, 4, 5, 6, 7, 8, 9, 10, 11, 12, 13, 14, 15, 16, 17}}, []byte{19, 2, 0, 1, 2, 3, 4, 5, 6, 7, 8, 9, 10, 11, 12, 13, 14, 15, 16, 17}},
	{api.Rec{Kind: 3, L: []int{7, 3, 1}}, []byte{4, 3, 7, 3, 1}},
	{api.Rec{Kind: 4, L: []int{1, 2, 128}}, []byte{4, 4, 1, 2, 128, 1}},
	{api.Rec{Kind: 5, L: []int{0}}, []byte{2, 5, 0}},
	{api.Rec{Kind: 6, L: []int{9, 4, 300}}, []byte{4, 6, 9, 4, 172, 2}},
	{api.Rec{Kind: 7, L: []int{1 << 40}}, []byte{2, 7, 128, 128, 128, 128, 128, 32}},
	{api.Rec{Kind: 8, L: []int{1, 0, 2, 3, 127}}, []byte{6, 8, 1, 0, 2, 3, 127}},
	{api.Rec{Kind: 9, L: []int{1, 1}}, []byte{3, 9, 1, 1}},
	{api.Rec{Kind: 10, L: []int{60}}, []byte{2, 10, 60}},
	{api.Rec{Kind: 11, L: []int{2, 5}}, []byte{3, 11, 2, 5}},
	{api.Rec{Kind: 12}, []byte{1, 12}},
	{api.Rec{Kind: 13}, []byte{1, 13}},
	{api.Rec{Kind: 14, L: []int{129}}, []byte{2, 14, 129, 1}},
	{api.Rec{Kind: 15}, []byte{1, 15}},
	{api.Rec{Kind: 16}, []byte{1, 16}},
}

// wrong are numbers that none may have.
var wrong = []int{-1 << 63, -1 << 40, -1, 1<<40 + 1, 1 << 41, 1<<63 - 1}

// asked works out from the document's list whether there may be a record of that kind with so many numbers.
func asked(kind, long int) bool {
	for _, k := range kinds {
		if int(k.kind) == kind {
			return k.least <= long && long <= k.most
		}
	}
	return false
}

// rows tells, of each kind that there is and each count of numbers that it has, records with numbers of all sizes at each place; the first of them has noughts alone.
func rows(yield func(api.Rec) bool) {
	for _, k := range kinds {
		for long := k.least; long <= k.most; long++ {
			if !yield(Of(k.kind, make([]int, long)...)) {
				return
			}
			for at := range long {
				for _, n := range []int{1, 127, 128, 300, 1 << 14, 1<<21 - 1, 1 << 28, 1<<35 + 5, 1<<40 - 1, 1 << 40} {
					l := make([]int, long)
					for i := range l {
						l[i] = i * n % (1<<40 + 1)
					}
					l[at] = n
					if !yield(Of(k.kind, l...)) {
						return
					}
				}
			}
		}
	}
}

func TestP21RightByKindAndCount(t *testing.T) {
	for kind := range 256 {
		for long := range 50 {
			r := api.Rec{Kind: uint8(kind), L: make([]int, long)}
			if got := Right(r); got != asked(kind, long) {
				t.Errorf("Right of kind %d with %d numbers: %v", kind, long, got)
			}
		}
		if Right(api.Rec{Kind: uint8(kind), L: make([]int, 100000)}) {
			t.Errorf("Right of kind %d with far too many numbers", kind)
		}
	}
}

func TestP21RightOfNumbers(t *testing.T) {
	for r := range rows {
		if !Right(r) {
			t.Fatalf("%v may not be", r)
		}
		for at := range r.L {
			for _, n := range wrong {
				o := Of(r.Kind, r.L...)
				o.L[at] = n
				if Right(o) {
					t.Fatalf("%v may be", o)
				}
			}
		}
	}
}

// What the numbers stand for is nothing to a record: an on of 2, a phase that there is not, a group that may not be.
func TestP21RightOfWhatFitsNothing(t *testing.T) {
	for _, r := range []api.Rec{
		Of(api.RecGuard, 0, 1<<40),
		Of(api.RecPhase, 0, 99, 0),
		Of(api.RecIntent, 0, 9, 7),
		Of(api.RecConf, slices.Repeat([]int{1 << 40}, 18)...),
	} {
		if !Right(r) {
			t.Errorf("%v may not be", r)
		}
	}
}

func TestP21Of(t *testing.T) {
	for _, x := range []struct {
		kind uint8
		l    []int
	}{
		{1, nil},
		{1, []int{}},
		{3, []int{7, 3, 1}},
		{0, []int{-5, 1 << 62}},
		{255, []int{1}},
		{6, nil},
		{2, make([]int, 1000)},
	} {
		if r := Of(x.kind, x.l...); r.Kind != x.kind || !slices.Equal(r.L, x.l) {
			t.Errorf("Of(%d, %v) = %v", x.kind, x.l, r)
		}
	}
}

func TestP21OfIsNew(t *testing.T) {
	room := []int{7, 3, 1, 77, 78}
	a, b := Of(3, room[:3]...), Of(3, room[:3]...)
	room[0] = 8
	a.L[1] = 9
	a.L = append(a.L, 5)
	if !slices.Equal(a.L, []int{7, 9, 1, 5}) || !slices.Equal(b.L, []int{7, 3, 1}) || !slices.Equal(room, []int{8, 3, 1, 77, 78}) {
		t.Error("Of shares memory", a, b, room)
	}
	none := Of(1, room[:0]...)
	none.L = append(none.L, 6)
	if room[0] != 8 {
		t.Error("Of shares the room behind what it is given", room)
	}
}

func TestP21Name(t *testing.T) {
	for kind := range 256 {
		want := ""
		for _, k := range kinds {
			if int(k.kind) == kind {
				want = k.name
			}
		}
		if got := Name(uint8(kind)); got != want {
			t.Errorf("Name(%d) = %q, not %q", kind, got, want)
		}
	}
}

func TestP21Same(t *testing.T) {
	l := []api.Rec{{}, {Kind: 255}, {Kind: 0, L: []int{0}}, {Kind: 3, L: []int{1, 2}}, {Kind: 3, L: []int{2, 1}}, {Kind: 3, L: []int{1, 2, -1}}, {Kind: 4, L: []int{1, 2}}, {Kind: 3, L: []int{1}}, {Kind: 3}, {Kind: 1}, {Kind: 12}, {Kind: 3, L: []int{1, 2, 0}}}
	for i, a := range l {
		for j, b := range l {
			if got := Same(a, b); got != (i == j) {
				t.Errorf("Same(%v, %v) = %v", a, b, got)
			}
		}
		if !Same(a, Of(a.Kind, a.L...)) {
			t.Errorf("%v is not the same as its copy", a)
		}
	}
	if a, b := (api.Rec{Kind: 1}), (api.Rec{Kind: 1, L: []int{}}); !Same(a, b) || !Same(b, a) {
		t.Error("nil and empty are not the same")
	}
}

func TestP21All(t *testing.T) {
	boot, gone, bad := Of(1), Of(7, 4), Of(7)
	for _, x := range []struct {
		l    []api.Rec
		want bool
	}{
		{nil, true},
		{[]api.Rec{}, true},
		{[]api.Rec{boot}, true},
		{[]api.Rec{boot, gone, boot}, true},
		{[]api.Rec{bad}, false},
		{[]api.Rec{{}}, false},
		{[]api.Rec{bad, boot, gone}, false},
		{[]api.Rec{boot, bad, gone}, false},
		{[]api.Rec{boot, gone, bad}, false},
		{[]api.Rec{boot, Of(7, -1)}, false},
		{slices.Repeat([]api.Rec{gone}, 1000), true},
		{append(slices.Repeat([]api.Rec{gone}, 1000), bad), false},
	} {
		if got := All(x.l...); got != x.want {
			t.Errorf("All(%v) = %v", x.l, got)
		}
	}
}

func TestP22Bytes(t *testing.T) {
	for _, x := range bytesOf {
		b, e := Put(x.r)
		if e != api.OK || !bytes.Equal(b, x.b) {
			t.Errorf("Put(%v) = %v, %d, not %v", x.r, b, e, x.b)
		}
		r, e := Take(x.b)
		if e != api.OK || !Same(r, x.r) {
			t.Errorf("Take(%v) = %v, %d, not %v", x.b, r, e, x.r)
		}
	}
}

func TestP22PutOfNone(t *testing.T) {
	for kind := range 256 {
		for long := range 45 {
			if b, e := Put(api.Rec{Kind: uint8(kind), L: make([]int, long)}); !asked(kind, long) && (e != api.ErrArg || b != nil) {
				t.Errorf("Put of kind %d with %d numbers: %v, %d", kind, long, b, e)
			}
		}
	}
	for _, n := range wrong {
		for _, r := range []api.Rec{Of(5, n), Of(3, 0, 0, n), Of(8, n, 1, 2, 3, 4), Of(2, slices.Repeat([]int{n}, 14)...)} {
			if b, e := Put(r); e != api.ErrArg || b != nil {
				t.Errorf("Put(%v) = %v, %d", r, b, e)
			}
		}
	}
}

func TestP22TakeOfNone(t *testing.T) {
	for _, b := range [][]byte{
		nil,
		{},
		{0},
		{0, 1},
		{1},
		{1, 0},
		{1, 17},
		{1, 255, 1},
		{1, 129, 0},                      // 1, in a form that is not put
		{1, 128, 2},                      // 256
		{1, 129, 2},                      // 257: RecBoot, if it went round
		{1, 140, 2},                      // 268: RecCancel
		{1, 129, 128, 128, 128, 16},      // 2^32 and 1
		{2, 135, 2, 4},                   // 263: RecGone
		{1, 128, 128, 128, 128, 128, 32}, // 2^40
		{129, 0, 1},
		{1, 1, 0},
		{1, 1, 1, 1},
		{2, 1, 0},
		{1, 5},
		{2, 5},
		{3, 5, 1, 2},
		{2, 5, 128},
		{2, 5, 128, 0},
		{2, 5, 129, 128, 128, 128, 128, 32},
		{2, 5, 255, 255, 255, 255, 255, 255},
		{3, 3, 1, 2},
		{5, 3, 1, 2, 3, 4},
		append([]byte{14, 2}, make([]byte, 13)...),
		append([]byte{20, 2}, make([]byte, 19)...),
		append([]byte{40, 2}, make([]byte, 39)...),
		append([]byte{41, 2}, make([]byte, 40)...),
		bytes.Repeat([]byte{1}, 5000),
		bytes.Repeat([]byte{128}, 5000),
	} {
		if r, e := Take(b); e != api.ErrForm || r.Kind != 0 || r.L != nil {
			t.Errorf("Take(%v) = %v, %d", b, r, e)
		}
	}
}

// allBytes calls f with each row of up to long bytes that are among those of alphabet.
func allBytes(alphabet []byte, long int, f func(b []byte)) {
	all := 1
	for most := range long + 1 {
		for n := range all {
			b := make([]byte, most)
			for i := range b {
				b[i] = alphabet[n%len(alphabet)]
				n /= len(alphabet)
			}
			f(b)
		}
		all *= len(alphabet)
	}
}

// What is taken is held against a row of numbers that num takes, and the document's list.
func TestP22TakeAll(t *testing.T) {
	many := 0
	check := func(b []byte) {
		l, rest, e := num.TakeRow(b)
		want := e == api.OK && len(rest) == 0 && len(l) > 0 && asked(l[0], len(l)-1)
		r, e := Take(b)
		if want {
			many++
			if e != api.OK || int(r.Kind) != l[0] || !slices.Equal(r.L, l[1:]) {
				t.Fatalf("Take(%v) = %v, %d", b, r, e)
			}
		} else if e != api.ErrForm || r.Kind != 0 || r.L != nil {
			t.Fatalf("Take(%v) = %v, %d, though there is none", b, r, e)
		}
	}
	allBytes([]byte{0, 1, 2, 3, 4, 5, 6, 7, 16, 17, 129, 134}, 5, check)
	for kind := range 256 {
		for n := range 256 {
			check([]byte{1, byte(kind)})
			check([]byte{1, byte(kind), byte(n)})
			check([]byte{2, byte(kind), byte(n)})
			check([]byte{3, byte(kind), 1, byte(n)})
			check([]byte{4, byte(kind), 1, 2, byte(n)})
			check([]byte{6, byte(kind), 1, 2, 3, 4, byte(n)})
			check(append([]byte{15, byte(kind), byte(n)}, make([]byte, 13)...))
		}
	}
	if many < 1000 {
		t.Error("too few records among all bytes:", many)
	}
}

func TestP22IsNew(t *testing.T) {
	room := []int{7, 3, 1, 77}
	p, _ := Put(api.Rec{Kind: 3, L: room[:3]})
	q, _ := Put(api.Rec{Kind: 3, L: room[:3]})
	p[1] = 9
	p = append(p, 5)
	if !bytes.Equal(q, []byte{4, 3, 7, 3, 1}) || !slices.Equal(room, []int{7, 3, 1, 77}) {
		t.Error("Put changed what it was given, or shares memory", q, room)
	}
	b := []byte{4, 3, 7, 3, 1, 88}
	r, _ := Take(b[:5])
	s, _ := Take(b[:5])
	r.L[0] = 9
	r.L = append(r.L, 5)
	if !slices.Equal(s.L, []int{7, 3, 1}) || !bytes.Equal(b, []byte{4, 3, 7, 3, 1, 88}) {
		t.Error("Take changed what it was given, or shares memory", s, b)
	}
}

func TestP23WhatIsPutIsTaken(t *testing.T) {
	for r := range rows {
		b, e := Put(r)
		if e != api.OK {
			t.Fatalf("Put(%v): %d", r, e)
		}
		if got, e := Take(b); e != api.OK || !Same(got, r) {
			t.Fatalf("%v is taken as %v, %d", r, got, e)
		}
	}
}

func TestP23WhatIsTakenIsPut(t *testing.T) {
	allBytes([]byte{0, 1, 2, 3, 4, 5, 7, 9, 11, 12, 127, 128, 130}, 5, func(b []byte) {
		if r, e := Take(b); e == api.OK {
			if p, e := Put(r); e != api.OK || !bytes.Equal(p, b) {
				t.Fatalf("%v is taken as %v, and put as %v, %d", b, r, p, e)
			}
		}
	})
}

func TestP23WithAByteMoreOrFewer(t *testing.T) {
	for r := range rows {
		b, _ := Put(r)
		for long := range len(b) {
			if got, e := Take(b[:long]); e != api.ErrForm || got.Kind != 0 || got.L != nil {
				t.Fatalf("of %v the first %d are taken as %v, %d", b, long, got, e)
			}
		}
		for _, c := range []byte{0, 1, 127, 128, 255} {
			if got, e := Take(append(slices.Clone(b), c)); e != api.ErrForm || got.Kind != 0 || got.L != nil {
				t.Fatalf("%v with %d behind is taken as %v, %d", b, c, got, e)
			}
		}
	}
}
