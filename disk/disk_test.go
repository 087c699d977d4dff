package disk

import (
	"bytes"
	"math"
	"slices"
	"testing"

	"herd/api"
)

// least and greatest are the ends of Go's ints: what is worked out with them goes round.
const least, greatest = math.MinInt, math.MaxInt

// some answers so many bytes, no two neighbours alike, and none the same as its place in another part.
func some(long int) []byte {
	b := make([]byte, long)
	for i := range b {
		b[i] = byte(i*7 + i>>8 + 1)
	}
	return b
}

// asCounts works out, sentence by sentence, how a disk counts.
func asCounts(d api.Disk) (b []byte, synced, room int) {
	room = d.Room
	if room < 0 {
		room = 0
	}
	if room > 65536 {
		room = 65536
	}
	for i, c := range d.Bytes {
		if i < room {
			b = append(b, c)
		}
	}
	synced = d.Synced
	if synced < 0 {
		synced = 0
	}
	if synced > len(b) {
		synced = len(b)
	}
	return b, synced, room
}

// is tells whether d has just these bytes, Synced and Room, as they stand.
func is(d api.Disk, b []byte, synced, room int) bool {
	return bytes.Equal(d.Bytes, b) && d.Synced == synced && d.Room == room
}

// disks tells disks of few bytes, many of which do not count as they are, and some great ones.
func disks(yield func(api.Disk) bool) {
	for _, room := range []int{least, -65537, -1, 0, 1, 2, 3, 5, 9, 65535, 65536, 65537, greatest} {
		for _, long := range []int{0, 1, 2, 3, 4, 6} {
			for _, synced := range []int{least, -1, 0, 1, 2, 3, 4, 5, 7, 65536, greatest} {
				if !yield(api.Disk{Bytes: some(long), Synced: synced, Room: room}) {
					return
				}
			}
		}
	}
	for _, room := range []int{-1, 0, 511, 512, 513, 65535, 65536, 65537, greatest} {
		for _, long := range []int{511, 512, 513, 1024, 65535, 65536, 65537, 70000} {
			for _, synced := range []int{0, 512, long - 1, long, long + 1} {
				if !yield(api.Disk{Bytes: some(long), Synced: synced, Room: room}) {
					return
				}
			}
		}
	}
}

// payloads are what is written: nothing, a few bytes, and the edges of parts and of a disk.
func payloads() [][]byte {
	var l [][]byte
	for _, long := range []int{0, 1, 2, 3, 4, 5, 511, 512, 513, 1023, 1024, 1025, 65535, 65536, 65537} {
		b := some(long)
		slices.Reverse(b)
		l = append(l, b)
	}
	return l
}

func TestP31Own(t *testing.T) {
	for _, x := range []struct {
		d            api.Disk
		b            []byte
		synced, room int
	}{
		{api.Disk{}, nil, 0, 0},
		{api.Disk{Bytes: []byte{1, 2, 3}, Synced: 2, Room: 9}, []byte{1, 2, 3}, 2, 9},
		{api.Disk{Bytes: []byte{1, 2, 3}, Synced: 3, Room: 3}, []byte{1, 2, 3}, 3, 3},
		{api.Disk{Bytes: []byte{1, 2, 3}, Synced: 4, Room: 9}, []byte{1, 2, 3}, 3, 9},
		{api.Disk{Bytes: []byte{1, 2, 3}, Synced: -1, Room: 9}, []byte{1, 2, 3}, 0, 9},
		{api.Disk{Bytes: []byte{1, 2, 3}, Synced: 3, Room: 2}, []byte{1, 2}, 2, 2},
		{api.Disk{Bytes: []byte{1, 2, 3}, Synced: 1, Room: 2}, []byte{1, 2}, 1, 2},
		{api.Disk{Bytes: []byte{1, 2, 3}, Synced: 3, Room: 0}, nil, 0, 0},
		{api.Disk{Bytes: []byte{1, 2, 3}, Synced: 3, Room: -7}, nil, 0, 0},
		{api.Disk{Bytes: []byte{1}, Synced: least, Room: greatest}, []byte{1}, 0, 65536},
		{api.Disk{Synced: greatest, Room: 65537}, nil, 0, 65536},
		{api.Disk{Bytes: some(65537), Synced: 65537, Room: 65537}, some(65537)[:65536], 65536, 65536},
	} {
		if got := Own(x.d); !is(got, x.b, x.synced, x.room) {
			t.Errorf("Own(%v) = %v", x.d, got)
		}
	}
}

func TestP31AsItCounts(t *testing.T) {
	for d := range disks {
		b, synced, room := asCounts(d)
		if got := Own(d); !is(got, b, synced, room) {
			t.Fatalf("Own of %d bytes, Synced %d, Room %d: %d bytes, Synced %d, Room %d", len(d.Bytes), d.Synced, d.Room, len(got.Bytes), got.Synced, got.Room)
		}
		if got := Free(d); got != room-len(b) {
			t.Fatalf("Free of %d bytes, Room %d: %d", len(d.Bytes), d.Room, got)
		}
		if o := Own(d); !Same(o, d) || !Same(d, o) {
			t.Fatalf("of %d bytes, Synced %d, Room %d: not the same as it counts", len(d.Bytes), d.Synced, d.Room)
		}
	}
}

func TestP31New(t *testing.T) {
	for _, x := range [][2]int{{least, 0}, {-1, 0}, {0, 0}, {1, 1}, {8000, 8000}, {65535, 65535}, {65536, 65536}, {65537, 65536}, {greatest, 65536}} {
		if d := New(x[0]); !is(d, nil, 0, x[1]) || Free(d) != x[1] {
			t.Errorf("New(%d) = %v, Free %d", x[0], d, Free(d))
		}
	}
}

func TestP31Free(t *testing.T) {
	for _, x := range []struct {
		d    api.Disk
		free int
	}{
		{api.Disk{}, 0},
		{api.Disk{Room: 5}, 5},
		{api.Disk{Bytes: []byte{1, 2}, Room: 5}, 3},
		{api.Disk{Bytes: []byte{1, 2}, Synced: 2, Room: 5}, 3},
		{api.Disk{Bytes: []byte{1, 2}, Room: 2}, 0},
		{api.Disk{Bytes: []byte{1, 2}, Room: 1}, 0},
		{api.Disk{Bytes: []byte{1, 2}, Room: -1}, 0},
		{api.Disk{Bytes: []byte{1, 2}, Room: 65537}, 65534},
		{api.Disk{Bytes: some(70000), Room: greatest}, 0},
	} {
		if got := Free(x.d); got != x.free {
			t.Errorf("Free(%v) = %d, not %d", x.d, got, x.free)
		}
	}
}

func TestP31Same(t *testing.T) {
	a := api.Disk{Bytes: []byte{1, 2, 3}, Synced: 2, Room: 9}
	for _, x := range []struct {
		b    api.Disk
		want bool
	}{
		{api.Disk{Bytes: []byte{1, 2, 3}, Synced: 2, Room: 9}, true},
		{api.Disk{Bytes: []byte{1, 2, 4}, Synced: 2, Room: 9}, false},
		{api.Disk{Bytes: []byte{0, 2, 3}, Synced: 2, Room: 9}, false},
		{api.Disk{Bytes: []byte{1, 2}, Synced: 2, Room: 9}, false},
		{api.Disk{Bytes: []byte{1, 2, 3, 0}, Synced: 2, Room: 9}, false},
		{api.Disk{Bytes: []byte{1, 2, 3}, Synced: 1, Room: 9}, false},
		{api.Disk{Bytes: []byte{1, 2, 3}, Synced: 3, Room: 9}, false},
		{api.Disk{Bytes: []byte{1, 2, 3}, Synced: 2, Room: 8}, false},
		{api.Disk{Bytes: []byte{1, 2, 3}, Synced: 2, Room: 10}, false},
		{api.Disk{}, false},
	} {
		if Same(a, x.b) != x.want || Same(x.b, a) != x.want {
			t.Errorf("Same(%v, %v) is not %v", a, x.b, x.want)
		}
	}
}

func TestP31SameAsItCounts(t *testing.T) {
	for _, x := range [][2]api.Disk{
		{{}, {Bytes: []byte{}, Room: -1, Synced: 5}},
		{{}, {Bytes: []byte{1, 2, 3}}},
		{{Bytes: []byte{1, 2}, Synced: 2, Room: 2}, {Bytes: []byte{1, 2, 3}, Synced: 3, Room: 2}},
		{{Bytes: []byte{1, 2, 4}, Synced: 1, Room: 2}, {Bytes: []byte{1, 2, 3}, Synced: 1, Room: 2}},
		{{Bytes: []byte{1, 2}, Synced: 0, Room: 65536}, {Bytes: []byte{1, 2}, Synced: least, Room: greatest}},
		{{Bytes: []byte{1, 2}, Synced: 2, Room: 9}, {Bytes: []byte{1, 2}, Synced: greatest, Room: 9}},
	} {
		if !Same(x[0], x[1]) || !Same(x[1], x[0]) {
			t.Errorf("%v and %v do not count as the same", x[0], x[1])
		}
	}
	var l []api.Disk
	for d := range disks {
		if len(d.Bytes) <= 6 {
			l = append(l, d)
		}
	}
	for _, a := range l {
		for _, b := range l {
			aBytes, aSynced, aRoom := asCounts(a)
			bBytes, bSynced, bRoom := asCounts(b)
			want := bytes.Equal(aBytes, bBytes) && aSynced == bSynced && aRoom == bRoom
			if Same(a, b) != want {
				t.Fatalf("Same(%v, %v) is not %v", a, b, want)
			}
		}
	}
}

func TestP32Append(t *testing.T) {
	d := api.Disk{Bytes: []byte{1, 2, 3}, Synced: 2, Room: 6}
	for _, x := range []struct {
		b, want []byte
		e       api.Errno
	}{
		{nil, []byte{1, 2, 3}, api.OK},
		{[]byte{}, []byte{1, 2, 3}, api.OK},
		{[]byte{4}, []byte{1, 2, 3, 4}, api.OK},
		{[]byte{4, 5, 6}, []byte{1, 2, 3, 4, 5, 6}, api.OK},
		{[]byte{4, 5, 6, 7}, []byte{1, 2, 3}, api.ErrFull},
		{make([]byte, 100000), []byte{1, 2, 3}, api.ErrFull},
	} {
		if got, e := Append(d, x.b); e != x.e || !is(got, x.want, 2, 6) {
			t.Errorf("Append of %d bytes: %v, %d", len(x.b), got, e)
		}
	}
}

func TestP32AppendAtTheEdges(t *testing.T) {
	for _, x := range []struct {
		d            api.Disk
		b, want      []byte
		synced, room int
		e            api.Errno
	}{
		{api.Disk{}, nil, nil, 0, 0, api.OK},
		{api.Disk{}, []byte{1}, nil, 0, 0, api.ErrFull},
		{api.Disk{Room: -5}, []byte{1}, nil, 0, 0, api.ErrFull},
		{api.Disk{Room: 1}, []byte{1}, []byte{1}, 0, 1, api.OK},
		{api.Disk{Room: greatest}, some(65536), some(65536), 0, 65536, api.OK},
		{api.Disk{Room: greatest}, some(65537), nil, 0, 65536, api.ErrFull},
		{api.Disk{Bytes: []byte{1, 2, 3}, Synced: 3, Room: 2}, nil, []byte{1, 2}, 2, 2, api.OK},
		{api.Disk{Bytes: []byte{1, 2, 3}, Synced: 3, Room: 2}, []byte{4}, []byte{1, 2}, 2, 2, api.ErrFull},
		// A Synced above what there is counts as what there is: what comes behind is not safe.
		{api.Disk{Bytes: []byte{1}, Synced: 9, Room: 9}, []byte{2, 3}, []byte{1, 2, 3}, 1, 9, api.OK},
		{api.Disk{Bytes: []byte{1}, Synced: -9, Room: 9}, []byte{2, 3}, []byte{1, 2, 3}, 0, 9, api.OK},
	} {
		if got, e := Append(x.d, x.b); e != x.e || !is(got, x.want, x.synced, x.room) {
			t.Errorf("Append(%v, %d bytes) = %v, %d", x.d, len(x.b), got, e)
		}
	}
}

func TestP32AppendAll(t *testing.T) {
	l := payloads()
	for d := range disks {
		old, synced, room := asCounts(d)
		for _, b := range l {
			want, wantE := slices.Concat(old, b), api.OK
			if len(want) > room {
				want, wantE = old, api.ErrFull
			}
			got, e := Append(d, b)
			if e != wantE || !is(got, want, synced, room) {
				t.Fatalf("Append of %d bytes to %d, Synced %d, Room %d: %d bytes, Synced %d, Room %d, %d", len(b), len(d.Bytes), d.Synced, d.Room, len(got.Bytes), got.Synced, got.Room, e)
			}
		}
	}
}

func TestP32Sync(t *testing.T) {
	for d := range disks {
		b, _, room := asCounts(d)
		if got := Sync(d); !is(got, b, len(b), room) {
			t.Fatalf("Sync of %d bytes, Synced %d, Room %d: %d bytes, Synced %d, Room %d", len(d.Bytes), d.Synced, d.Room, len(got.Bytes), got.Synced, got.Room)
		}
	}
}

func TestP33Crash(t *testing.T) {
	d := api.Disk{Bytes: []byte{1, 2, 3, 4, 5}, Synced: 3, Room: 9}
	for _, x := range []struct{ keep, left int }{{least, 3}, {-1, 3}, {0, 3}, {1, 4}, {2, 5}, {3, 5}, {9, 5}, {greatest, 5}, {greatest - 2, 5}} {
		if got := Crash(d, x.keep); !is(got, d.Bytes[:x.left], x.left, 9) {
			t.Errorf("Crash with %d: %v", x.keep, got)
		}
	}
	if got := Crash(api.Disk{}, 5); !is(got, nil, 0, 0) {
		t.Error("Crash of nothing:", got)
	}
	if got := Crash(api.Disk{Bytes: []byte{1, 2, 3, 4}, Synced: 1, Room: 3}, 5); !is(got, []byte{1, 2, 3}, 3, 3) {
		t.Error("Crash of a disk that has more bytes than room:", got)
	}
}

func TestP33CrashAll(t *testing.T) {
	for d := range disks {
		b, synced, room := asCounts(d)
		for _, keep := range []int{least, -1, 0, 1, 2, 3, 5, 512, 65535, 65536, greatest} {
			left := synced
			for range b[synced:] {
				if left-synced < keep {
					left++
				}
			}
			if got := Crash(d, keep); !is(got, b[:left], left, room) {
				t.Fatalf("Crash of %d bytes, Synced %d, Room %d, with %d: %d bytes, Synced %d, Room %d", len(d.Bytes), d.Synced, d.Room, keep, len(got.Bytes), got.Synced, got.Room)
			}
		}
	}
}

func TestP33Swap(t *testing.T) {
	d := api.Disk{Bytes: []byte{1, 2, 3}, Synced: 2, Room: 4}
	for _, x := range []struct {
		b, want []byte
		synced  int
		e       api.Errno
	}{
		{nil, nil, 0, api.OK},
		{[]byte{}, nil, 0, api.OK},
		{[]byte{9}, []byte{9}, 1, api.OK},
		{[]byte{9, 8, 7, 6}, []byte{9, 8, 7, 6}, 4, api.OK},
		{[]byte{9, 8, 7, 6, 5}, []byte{1, 2, 3}, 2, api.ErrFull},
		{make([]byte, 100000), []byte{1, 2, 3}, 2, api.ErrFull},
	} {
		if got, e := Swap(d, x.b); e != x.e || !is(got, x.want, x.synced, 4) {
			t.Errorf("Swap for %d bytes: %v, %d", len(x.b), got, e)
		}
	}
}

func TestP33SwapAll(t *testing.T) {
	l := payloads()
	for d := range disks {
		old, synced, room := asCounts(d)
		for _, b := range l {
			want, wantSynced, wantE := b, len(b), api.OK
			if len(b) > room {
				want, wantSynced, wantE = old, synced, api.ErrFull
			}
			got, e := Swap(d, b)
			if e != wantE || !is(got, want, wantSynced, room) {
				t.Fatalf("Swap of %d bytes, Room %d, for %d: %d bytes, Synced %d, Room %d, %d", len(d.Bytes), d.Room, len(b), len(got.Bytes), got.Synced, got.Room, e)
			}
		}
	}
}

// changes are the calls that tell a disk, beside an error too, made with a disk of four bytes and b of two.
var changes = []struct {
	name string
	do   func(d api.Disk, b []byte) api.Disk
}{
	{"Own", func(d api.Disk, b []byte) api.Disk { return Own(d) }},
	{"Append", func(d api.Disk, b []byte) api.Disk { d, _ = Append(d, b); return d }},
	{"Append of nothing", func(d api.Disk, b []byte) api.Disk { d, _ = Append(d, nil); return d }},
	{"Append, full", func(d api.Disk, b []byte) api.Disk { d, _ = Append(d, make([]byte, 65537)); return d }},
	{"Append of itself", func(d api.Disk, b []byte) api.Disk { d, _ = Append(d, d.Bytes); return d }},
	{"Sync", func(d api.Disk, b []byte) api.Disk { return Sync(d) }},
	{"Crash", func(d api.Disk, b []byte) api.Disk { return Crash(d, 1) }},
	{"Swap", func(d api.Disk, b []byte) api.Disk { d, _ = Swap(d, b); return d }},
	{"Swap for nothing", func(d api.Disk, b []byte) api.Disk { d, _ = Swap(d, b[:0]); return d }},
	{"Swap, full", func(d api.Disk, b []byte) api.Disk { d, _ = Swap(d, make([]byte, 65537)); return d }},
	{"Swap for itself", func(d api.Disk, b []byte) api.Disk { d, _ = Swap(d, d.Bytes[1:3]); return d }},
}

func TestAnswersAreNew(t *testing.T) {
	for _, x := range changes {
		for _, roomy := range []int{4, 6, 100} {
			dRoom, bRoom := some(8), some(8)
			slices.Reverse(bRoom)
			dWas, bWas := bytes.Clone(dRoom), bytes.Clone(bRoom)
			d, b := api.Disk{Bytes: dRoom[:4], Synced: 2, Room: roomy}, bRoom[:2]
			first, second := x.do(d, b), x.do(d, b)
			was := bytes.Clone(second.Bytes)
			for i := range first.Bytes {
				first.Bytes[i] ^= 255
			}
			first.Bytes = append(first.Bytes, 77, 78, 79)
			if !bytes.Equal(dRoom, dWas) || !bytes.Equal(bRoom, bWas) {
				t.Errorf("%s changes what it is given, or shares its memory: %v, %v", x.name, dRoom, bRoom)
			}
			if !bytes.Equal(second.Bytes, was) {
				t.Errorf("two answers of %s share memory", x.name)
			}
		}
	}
}

func TestP34WhatIsSafeIsNeverLost(t *testing.T) {
	l := payloads()
	for d := range disks {
		b, synced, _ := asCounts(d)
		safe := b[:synced]
		held := func(name string, o api.Disk) {
			if o.Synced < len(safe) || !bytes.HasPrefix(o.Bytes, safe) {
				t.Fatalf("%s of %d bytes, Synced %d, Room %d loses what is safe", name, len(d.Bytes), d.Synced, d.Room)
			}
		}
		held("Own", Own(d))
		held("Sync", Sync(d))
		for _, keep := range []int{least, -1, 0, 1, 3, greatest} {
			held("Crash", Crash(d, keep))
		}
		for _, b := range l {
			o, _ := Append(d, b)
			held("Append", o)
		}
	}
}

func TestP34ACrashLeavesABeginning(t *testing.T) {
	for _, long := range []int{0, 1, 2, 5, 600, 1100} {
		for _, safe := range []int{0, 1, 3, 700} {
			start, tail := some(safe), some(long)
			d, _ := Append(New(2000), start)
			d = Sync(d)
			d, _ = Append(d, tail[:long/2])
			d, e := Append(d, tail[long/2:])
			if e != api.OK {
				t.Fatal(long, safe, e)
			}
			for keep := -2; keep <= long+2; keep++ {
				left := min(max(keep, 0), long)
				if got := Crash(d, keep); !is(got, slices.Concat(start, tail[:left]), safe+left, 2000) {
					t.Fatalf("of %d behind %d a crash with %d leaves %v", long, safe, keep, got)
				}
			}
		}
	}
}

func TestExample(t *testing.T) {
	d, e := Append(New(100), []byte{1, 2, 3})
	if e != api.OK || !is(d, []byte{1, 2, 3}, 0, 100) {
		t.Fatal(d, e)
	}
	d, e = Append(Sync(d), []byte{4, 5})
	if e != api.OK || !is(d, []byte{1, 2, 3, 4, 5}, 3, 100) {
		t.Fatal(d, e)
	}
	if d = Crash(d, 1); !is(d, []byte{1, 2, 3, 4}, 4, 100) {
		t.Error(d)
	}
}
