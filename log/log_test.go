package log

import (
	"bytes"
	"math"
	"slices"
	"testing"

	"herd/api"
	"herd/disk"
	"herd/frame"
	"herd/record"
)

// least and greatest are the ends of Go's ints: what is worked out with them goes round.
const least, greatest = math.MinInt, math.MaxInt

// some are records that may be: one of each kind, with numbers of all sizes.
var some = []api.Rec{
	{Kind: api.RecBoot},
	{Kind: api.RecConf, L: []int{3, 50, 1, 0, 0, 0, 0, 0, 5, 5, 3, 0, 300, 1}},
	{Kind: api.RecIntent, L: []int{7, 3, 1}},
	{Kind: api.RecMade, L: []int{1, 2, 128}},
	{Kind: api.RecFail, L: []int{0}},
	{Kind: api.RecPhase, L: []int{9, 4, 300}},
	{Kind: api.RecGone, L: []int{1 << 40}},
	{Kind: api.RecTake, L: []int{1, 0, 2, 3, 127}},
	{Kind: api.RecGuard, L: []int{1, 1}},
	{Kind: api.RecComplete, L: []int{60}},
	{Kind: api.RecStart, L: []int{2, 5}},
	{Kind: api.RecCancel},
	{Kind: api.RecRoll},
	{Kind: api.RecPause, L: []int{129}},
	{Kind: api.RecGo},
	{Kind: api.RecDone},
	{Kind: api.RecConf, L: []int{1 << 40, 1 << 40, 1 << 40, 1 << 40, 1 << 40, 1 << 40, 1 << 40, 1 << 40, 1 << 40, 1 << 40, 1 << 40, 1 << 40, 1 << 40, 1 << 40, 1 << 40, 1 << 40, 1 << 40, 1 << 40}},
}

// wrong are records that may not be, each for a reason of its own.
var wrong = []api.Rec{
	{},
	{Kind: api.RecKinds},
	{Kind: 255},
	{Kind: api.RecBoot, L: []int{0}},
	{Kind: api.RecGone},
	{Kind: api.RecGone, L: []int{1, 2}},
	{Kind: api.RecGone, L: []int{-1}},
	{Kind: api.RecGone, L: []int{1<<40 + 1}},
	{Kind: api.RecGone, L: []int{least}},
	{Kind: api.RecGone, L: []int{greatest}},
	{Kind: api.RecConf, L: make([]int, 13)},
	{Kind: api.RecConf, L: make([]int, 19)},
	{Kind: api.RecConf, L: make([]int, 10000)},
}

// notRecords are payloads that are no record's bytes, though each stands in a frame.
var notRecords = [][]byte{
	nil,
	{0},
	{1},
	{1, 0},
	{1, 17},
	{1, 1, 0},
	{2, 1, 0},
	{1, 7},
	{2, 7, 128},
	{2, 7, 128, 0},
	{3, 7, 1, 1},
	{129, 0, 1},
	{2, 129, 2, 0}, // 257: RecBoot, if it went round
	{2, 255, 1},
	{3, 7, 1, 2},
	{2, 7, 129, 128, 128, 128, 128, 32}, // 2^40 and 1
	{14, 2, 0, 0, 0, 0, 0, 0, 0, 0, 0, 0, 0, 0, 0},                   // a group of 13
	{20, 2, 0, 0, 0, 0, 0, 0, 0, 0, 0, 0, 0, 0, 0, 0, 0, 0, 0, 0, 0}, // of 19
	bytes.Repeat([]byte{1}, 4000),
}

// number works out the bytes of n.
func number(n int) []byte {
	var b []byte
	for n > 127 {
		b = append(b, byte(n%128+128))
		n /= 128
	}
	return append(b, byte(n))
}

// frameOf works out part by part what the document says of a frame.
func frameOf(payload []byte) []byte {
	b := append(number(len(payload)), payload...)
	s := uint32(1)
	for _, c := range payload {
		s = 31*s + uint32(c) + 7
	}
	return append(b, byte(s), byte(s>>8), byte(s>>16), byte(s>>24))
}

// told works out part by part what the document says of a record's frame.
func told(r api.Rec) []byte {
	b := append(number(1+len(r.L)), number(int(r.Kind))...)
	for _, n := range r.L {
		b = append(b, number(n)...)
	}
	return frameOf(b)
}

// toldAll works out the bytes of the frames of l.
func toldAll(l ...api.Rec) []byte {
	var b []byte
	for _, r := range l {
		b = append(b, told(r)...)
	}
	return b
}

// asked works out what Scan is to answer, as the document tells it: frame by frame, up to where none stands, or one whose payload is no record's bytes.
func asked(b []byte) (l []api.Rec, used int) {
	for {
		p, rest, e := frame.Take(b[used:])
		if e != api.OK {
			return l, used
		}
		r, e := record.Take(p)
		if e != api.OK {
			return l, used
		}
		l = append(l, r)
		used = len(b) - len(rest)
	}
}

// same tells whether a and b are the same records, in order.
func same(a, b []api.Rec) bool {
	return slices.EqualFunc(a, b, record.Same)
}

// begins tells whether a is a beginning of b.
func begins(a, b []api.Rec) bool {
	return len(a) <= len(b) && same(a, b[:len(a)])
}

// exactly tells whether a and b are the same, field by field, as they stand.
func exactly(a, b api.Disk) bool {
	return bytes.Equal(a.Bytes, b.Bytes) && a.Synced == b.Synced && a.Room == b.Room
}

// many answers so many records, of all kinds.
func many(n int) []api.Rec {
	var l []api.Rec
	for i := range n {
		l = append(l, some[i*5%len(some)])
	}
	return l
}

// must answers d with l added, all safe if asked; the tests add what may be where there is room.
func must(t *testing.T, d api.Disk, sync bool, l ...api.Rec) api.Disk {
	t.Helper()
	d, e := Add(d, l...)
	if e != api.OK {
		t.Fatalf("Add of %v: %d", l, e)
	}
	if sync {
		d = disk.Sync(d)
	}
	return d
}

func TestP51ScanOfExamples(t *testing.T) {
	boot, gone := told(api.Rec{Kind: 1}), told(api.Rec{Kind: 7, L: []int{7}})
	for _, x := range []struct {
		b    []byte
		l    []api.Rec
		used int
	}{
		{nil, nil, 0},
		{[]byte{}, nil, 0},
		{[]byte{0}, nil, 0},
		{[]byte{0, 1, 0, 0, 0}, nil, 0}, // a frame of nothing
		{[]byte{1, 1}, nil, 0},          // a record without a frame
		{[]byte{2, 1, 1, 193, 4, 0, 0}, []api.Rec{{Kind: 1}}, 7},
		{boot, []api.Rec{{Kind: 1}}, 7},
		{boot[:6], nil, 0},
		{slices.Concat(boot, gone), []api.Rec{{Kind: 1}, {Kind: 7, L: []int{7}}}, 15},
		{slices.Concat(boot, gone[:7]), []api.Rec{{Kind: 1}}, 7},
		{slices.Concat(boot, []byte{0}, gone), []api.Rec{{Kind: 1}}, 7},
		{slices.Concat([]byte{0}, boot, gone), nil, 0},
		{slices.Concat(gone, gone, boot, []byte{255}), []api.Rec{{Kind: 7, L: []int{7}}, {Kind: 7, L: []int{7}}, {Kind: 1}}, 23},
		{frameOf(boot), nil, 0}, // a frame in a frame
	} {
		if l, used := Scan(x.b); !same(l, x.l) || used != x.used {
			t.Errorf("Scan(%v) = %v, %d, not %v, %d", x.b, l, used, x.l, x.used)
		}
	}
}

func TestP51ScanOfEachKind(t *testing.T) {
	for _, r := range some {
		b := told(r)
		if l, used := Scan(b); !same(l, []api.Rec{r}) || used != len(b) {
			t.Errorf("Scan of the frame of %v = %v, %d", r, l, used)
		}
	}
	b := toldAll(some...)
	if l, used := Scan(b); !same(l, some) || used != len(b) {
		t.Errorf("Scan of all kinds = %v, %d", l, used)
	}
}

func TestP51ScanEndsAtWhatIsNoRecord(t *testing.T) {
	for _, p := range notRecords {
		for n := range 4 {
			ahead := toldAll(many(n)...)
			b := slices.Concat(ahead, frameOf(p), toldAll(some...))
			if l, used := Scan(b); !same(l, many(n)) || used != len(ahead) {
				t.Errorf("Scan of %d records ahead of a frame of %v = %v, %d", n, p, l, used)
			}
		}
	}
}

func TestP51ScanOfWhatIsCutOff(t *testing.T) {
	b := toldAll(some...)
	for n := range len(b) + 1 {
		l, used := Scan(b[:n])
		want, wantUsed := asked(b[:n])
		if !same(l, want) || used != wantUsed || !begins(l, some) || used != Long(l...) {
			t.Fatalf("Scan of the first %d bytes = %v, %d, not %v, %d", n, l, used, want, wantUsed)
		}
	}
}

func TestP51ScanOfWhatIsAnother(t *testing.T) {
	b := toldAll(some[:8]...)
	for at := range b {
		for _, flip := range []byte{1, 2, 64, 128, 255} {
			c := slices.Clone(b)
			c[at] ^= flip
			l, used := Scan(c)
			want, wantUsed := asked(c)
			if !same(l, want) || used != wantUsed || used > at {
				t.Fatalf("Scan with byte %d another = %v, %d, not %v, %d", at, l, used, want, wantUsed)
			}
		}
	}
}

func TestP51ScanOfAllShort(t *testing.T) {
	// Of all bytes that begin the frame of a record of one number, and of many that do not.
	for i := range 1 << 16 {
		for _, b := range [][]byte{
			{2, 1, byte(i), byte(i >> 8), 4, 0, 0, 9},
			{2, byte(i), byte(i >> 8), 193, 4, 0, 0},
			{byte(i), 1, byte(i >> 8), 193, 4, 0, 0},
		} {
			l, used := Scan(b)
			if want, wantUsed := asked(b); !same(l, want) || used != wantUsed {
				t.Fatalf("Scan(%v) = %v, %d, not %v, %d", b, l, used, want, wantUsed)
			}
		}
	}
	var found []uint8
	for i := range 256 {
		if l, _ := Scan(frameOf([]byte{1, byte(i)})); len(l) == 1 {
			found = append(found, l[0].Kind)
		}
	}
	if !bytes.Equal(found, []uint8{1, 12, 13, 15, 16}) {
		t.Error("the kinds without numbers are", found)
	}
}

func TestP51ScanOfLong(t *testing.T) {
	l := many(20000)
	b := toldAll(l...)
	if got, used := Scan(b); !same(got, l) || used != len(b) {
		t.Errorf("Scan of %d bytes: %d records, %d", len(b), len(got), used)
	}
	b = append(b, make([]byte, 1<<20)...)
	if got, used := Scan(b); len(got) != len(l) || used != len(b)-1<<20 {
		t.Errorf("Scan with noughts behind: %d records, %d", len(got), used)
	}
}

func TestP51ScanIsNew(t *testing.T) {
	b := toldAll(some[6], some[7])
	was := slices.Clone(b)
	l, _ := Scan(b)
	m, _ := Scan(b)
	for i := range l {
		l[i].L[0] = 99
		l[i].L = append(l[i].L, 98, 97)
	}
	if !bytes.Equal(b, was) || !same(m, some[6:8]) {
		t.Error("Scan changed what it was given, or its answers share memory", b, m)
	}
	clear(b)
	if !same(m, some[6:8]) {
		t.Error("Scan keeps what it was given", m)
	}
}

func TestP51Long(t *testing.T) {
	for _, x := range []struct {
		l    []api.Rec
		long int
	}{
		{nil, 0},
		{[]api.Rec{}, 0},
		{[]api.Rec{{Kind: 1}}, 7},
		{[]api.Rec{{Kind: 7, L: []int{127}}}, 8},
		{[]api.Rec{{Kind: 7, L: []int{128}}}, 9},
		{[]api.Rec{{Kind: 7, L: []int{1 << 40}}}, 13},
		{[]api.Rec{{Kind: 1}, {Kind: 7, L: []int{127}}, {Kind: 1}}, 22},
		{[]api.Rec{some[16]}, 115},
	} {
		if n := Long(x.l...); n != x.long {
			t.Errorf("Long(%v) = %d, not %d", x.l, n, x.long)
		}
	}
	for n := range 40 {
		if got, want := Long(many(n)...), len(toldAll(many(n)...)); got != want {
			t.Errorf("Long of %d records = %d, not %d", n, got, want)
		}
	}
	if got, want := Long(many(70000)...), len(toldAll(many(70000)...)); got != want {
		t.Errorf("Long of very many = %d, not %d", got, want)
	}
}

func TestP51LongOfWrong(t *testing.T) {
	for _, r := range wrong {
		for _, l := range [][]api.Rec{{r}, {r, some[0]}, {some[0], r}, {some[0], r, some[1]}, {r, r}} {
			if n := Long(l...); n != -1 {
				t.Errorf("Long(%v) = %d, not -1", l, n)
			}
		}
	}
}

func TestP52Add(t *testing.T) {
	for _, d := range []api.Disk{
		{Room: 300},
		{Bytes: []byte{1, 2, 3}, Synced: 2, Room: 300},
		{Bytes: told(some[2]), Synced: 9, Room: 300},
		{Bytes: told(some[2]), Synced: 900, Room: 1 << 20},
		{Bytes: told(some[2]), Synced: -4, Room: 300},
	} {
		for n := range 9 {
			l := many(n)
			got, e := Add(d, l...)
			want, _ := disk.Append(d, toldAll(l...))
			if e != api.OK || !exactly(got, want) {
				t.Errorf("Add(%v, %v) = %v, %d, not %v", d, l, got, e, want)
			}
		}
	}
}

func TestP52AddOfWrong(t *testing.T) {
	for _, d := range []api.Disk{
		{},
		{Room: 300},
		{Bytes: []byte{1, 2, 3}, Synced: 2, Room: 300},
		{Bytes: []byte{1, 2, 3}, Synced: 9, Room: 1 << 20},
		{Bytes: []byte{1, 2, 3}, Synced: -9, Room: 2},
		{Bytes: make([]byte, 70000), Synced: 70000, Room: greatest},
	} {
		for _, r := range wrong {
			for _, l := range [][]api.Rec{{r}, {r, some[0]}, {some[0], r}, {some[1], r, some[1]}, append(many(3000), r)} {
				if got, e := Add(d, l...); e != api.ErrArg || !exactly(got, disk.Own(d)) {
					t.Errorf("Add of %d records, one of them %v, to a disk of Room %d: %d", len(l), r, d.Room, e)
				}
			}
		}
	}
}

func TestP52AddToFull(t *testing.T) {
	l := []api.Rec{some[0], some[6], some[0]} // 7, 13 and 7 bytes
	for _, here := range [][]byte{nil, {9, 9, 9}, told(some[1])} {
		for room := -1; room < 80; room++ {
			d := api.Disk{Bytes: here, Synced: 2, Room: room}
			got, e := Add(d, l...)
			want, wantE := disk.Append(d, toldAll(l...))
			if e != wantE || !exactly(got, want) {
				t.Errorf("Add of 27 bytes to %v = %v, %d", d, got, e)
			}
			fits := min(max(room, 0), len(here))+27 <= room
			if (e == api.OK) != fits || !fits && (e != api.ErrFull || !exactly(got, disk.Own(d))) {
				t.Errorf("Add of 27 bytes to %v = %v, %d", d, got, e)
			}
			if got, e := Add(d); e != api.OK || !exactly(got, disk.Own(d)) {
				t.Errorf("Add of nothing to %v = %v, %d", d, got, e)
			}
		}
	}
	if d, e := Add(disk.New(65536), many(5000)...); e != api.ErrFull || !exactly(d, disk.New(65536)) {
		t.Error("Add of too many to the greatest disk:", e)
	}
}

func TestP52AddIsNew(t *testing.T) {
	room := append([]byte{1, 2, 3}, make([]byte, 60)...)
	was := slices.Clone(room)
	numbers := []int{7, 3, 1, 55}
	l := []api.Rec{{Kind: 3, L: numbers[:3]}, {Kind: 1}}
	for _, recs := range [][]api.Rec{l, {wrong[0]}, many(50)} {
		d := api.Disk{Bytes: room[:3], Synced: 1, Room: 300}
		a, _ := Add(d, recs...)
		b, _ := Add(d, recs...)
		a.Bytes = append(a.Bytes, 4)
		for i := range a.Bytes {
			a.Bytes[i] ^= 255
		}
		if !bytes.Equal(room, was) || !bytes.Equal(b.Bytes[:3], was[:3]) || !slices.Equal(numbers, []int{7, 3, 1, 55}) {
			t.Error("Add changed what it was given, or shares memory", room, b)
		}
	}
}

func TestP53Open(t *testing.T) {
	boot, gone := told(some[0]), told(some[6])
	for _, x := range []struct {
		d    api.Disk
		want api.Disk
		l    []api.Rec
	}{
		{api.Disk{}, api.Disk{}, nil},
		{api.Disk{Room: -4, Synced: 7}, api.Disk{}, nil},
		{api.Disk{Room: greatest, Synced: 7}, api.Disk{Room: 65536}, nil},
		{api.Disk{Bytes: boot, Room: 50}, api.Disk{Bytes: boot, Synced: 7, Room: 50}, some[:1]},
		{api.Disk{Bytes: boot, Synced: 7, Room: 50}, api.Disk{Bytes: boot, Synced: 7, Room: 50}, some[:1]},
		{api.Disk{Bytes: boot, Synced: 3, Room: 7}, api.Disk{Bytes: boot, Synced: 7, Room: 7}, some[:1]},
		{api.Disk{Bytes: boot, Synced: 7, Room: 6}, api.Disk{Room: 6}, nil}, // the last byte does not count
		{api.Disk{Bytes: []byte{1, 2, 3}, Synced: 3, Room: 50}, api.Disk{Room: 50}, nil},
		{api.Disk{Bytes: slices.Concat(boot, gone), Synced: 7, Room: 50}, api.Disk{Bytes: slices.Concat(boot, gone), Synced: 20, Room: 50}, []api.Rec{some[0], some[6]}},
		{api.Disk{Bytes: slices.Concat(boot, gone), Synced: 20, Room: 19}, api.Disk{Bytes: boot, Synced: 7, Room: 19}, some[:1]},
		{api.Disk{Bytes: slices.Concat(boot, gone[:9]), Synced: 12, Room: 50}, api.Disk{Bytes: boot, Synced: 7, Room: 50}, some[:1]},
		{api.Disk{Bytes: slices.Concat(boot, frameOf(nil), gone), Synced: 7, Room: 50}, api.Disk{Bytes: boot, Synced: 7, Room: 50}, some[:1]},
	} {
		if d, l := Open(x.d); !exactly(d, x.want) || !same(l, x.l) {
			t.Errorf("Open(%v) = %v, %v, not %v, %v", x.d, d, l, x.want, x.l)
		}
	}
}

func TestP53OpenOfTheGreatest(t *testing.T) {
	b := bytes.Repeat(told(some[0]), 10000)
	d, l := Open(api.Disk{Bytes: b, Room: greatest})
	if !exactly(d, api.Disk{Bytes: b[:65534], Synced: 65534, Room: 65536}) || len(l) != 9362 {
		t.Errorf("Open of 70000 bytes: %d bytes, %d of them safe, %d records", len(d.Bytes), d.Synced, len(l))
	}
}

func TestP53Safe(t *testing.T) {
	b := slices.Concat(told(some[0]), told(some[6]), []byte{9, 9})
	for synced := -2; synced < 26; synced++ {
		for room := -1; room < 26; room++ {
			d := api.Disk{Bytes: b, Synced: synced, Room: room}
			safe := max(min(synced, room, len(b)), 0)
			want, _ := asked(b[:safe])
			if l := Safe(d); !same(l, want) {
				t.Errorf("Safe with Synced %d, Room %d = %v, not %v", synced, room, l, want)
			}
		}
	}
	if l := Safe(api.Disk{Bytes: b, Synced: greatest, Room: greatest}); len(l) != 2 {
		t.Error("Safe of all that there is:", l)
	}
	if l := Safe(api.Disk{Bytes: b, Synced: least, Room: least}); len(l) != 0 {
		t.Error("Safe of nothing:", l)
	}
}

func TestP53OpenAndSafeAreNew(t *testing.T) {
	b := append(toldAll(some[6], some[7]), 9, 9)
	was := slices.Clone(b)
	d := api.Disk{Bytes: b[:len(b)-1], Synced: len(b), Room: 100}
	o, l := Open(d)
	o2, l2 := Open(d)
	s, s2 := Safe(d), Safe(d)
	o.Bytes = append(o.Bytes, 1, 2, 3)
	clear(o.Bytes)
	for _, m := range [][]api.Rec{l, s} {
		clear(m[0].L)
		m[1] = api.Rec{}
	}
	if !bytes.Equal(b, was) || !bytes.Equal(o2.Bytes, was[:len(was)-2]) || !same(l2, some[6:8]) || !same(s2, some[6:8]) {
		t.Error("Open or Safe changed what it was given, or their answers share memory", b, o2, l2, s2)
	}
	clear(b)
	if !bytes.Equal(o2.Bytes, was[:len(was)-2]) || !same(l2, some[6:8]) || !same(s2, some[6:8]) {
		t.Error("Open or Safe keeps what it was given", o2, l2, s2)
	}
}

func TestP54WhatWasAddedIsInTheLog(t *testing.T) {
	d := disk.New(65536)
	var all []api.Rec
	for n := range 60 {
		l := many(n + 3)[n%3:]
		d = must(t, d, n%4 == 1, l...)
		all = append(all, l...)
		got, used := Scan(d.Bytes)
		if !same(got, all) || used != len(d.Bytes) || used != Long(all...) {
			t.Fatalf("behind %d times Add: %d records of %d", n, len(got), len(all))
		}
	}
}

func TestP54BehindACrash(t *testing.T) {
	for n := range 8 {
		safe := many(n)
		d := must(t, disk.New(400), true, safe...)
		d = must(t, d, false, some[9], some[2])
		d = must(t, d, false, some[14])
		was, _ := Scan(d.Bytes)
		before := -1
		for keep := -1; keep <= len(d.Bytes)-d.Synced+1; keep++ {
			c := disk.Crash(d, keep)
			o, l := Open(c)
			if !begins(l, was) || !begins(safe, l) || len(l) < before {
				t.Fatalf("behind a crash that keeps %d: %v", keep, l)
			}
			before = len(l)
			if !same(Safe(o), l) || o.Synced != len(o.Bytes) {
				t.Fatalf("what is opened is not safe: %v", o)
			}
		}
		if before != len(was) {
			t.Error("a crash that keeps all lost some")
		}
		if !same(Safe(d), safe) {
			t.Error("Safe ahead of a crash is", Safe(d))
		}
	}
}

func TestP54OpenedAgain(t *testing.T) {
	b := toldAll(some[:6]...)
	for n := range len(b) + 1 {
		d := api.Disk{Bytes: b[:n], Synced: n / 2, Room: 400}
		o, l := Open(d)
		o2, l2 := Open(o)
		if !exactly(o, o2) || !same(l, l2) {
			t.Fatalf("opened again, %v is %v", o, o2)
		}
		a := must(t, o, false, some[10], some[11])
		if got, used := Scan(a.Bytes); !same(got, append(slices.Clone(l), some[10], some[11])) || used != len(a.Bytes) {
			t.Fatalf("behind a log of %d records what is added is not read: %v", len(l), got)
		}
	}
}
