package pick

import (
	"math"
	"math/rand/v2"
	"slices"
	"testing"

	"herd/api"
	"herd/brain"
	"herd/conf"
	"herd/phase"
	"herd/record"
	"herd/zone"
)

// least and greatest are the ends of Go's ints.
const least, greatest = math.MinInt, math.MaxInt

// odd are no numbers, or none of an instance.
var odd = []int{least, least + 1, -1 << 40, -1, 1<<40 + 1, greatest - 1, greatest}

// stand and going are the phases in which instances stand, and go, as chapter 14 tells them.
var (
	stand = []uint8{api.PhHeld, api.PhYoung, api.PhJoining, api.PhServing, api.PhWaking}
	going = []uint8{api.PhLeaving, api.PhLeft, api.PhHeldOut, api.PhEnding}
)

// call is one of those that pick an instance: its name, which it may pick, to which phase that one may go on.
type call struct {
	name string
	f    func(b api.Brain) (int, bool)
	of   []uint8
	to   uint8
}

// calls are all that pick an instance.
var calls = []call{
	{"Leave", Leave, []uint8{api.PhServing}, api.PhLeaving},
	{"Extra", Extra, []uint8{api.PhServing}, api.PhLeaving},
	{"End", End, []uint8{api.PhHeld, api.PhYoung, api.PhWarmed}, api.PhEnding},
	{"Wake", Wake, []uint8{api.PhWarmed}, api.PhWaking},
	{"Cool", Cool, []uint8{api.PhWarmed}, api.PhEnding},
}

// group answers a group that may be, of version 21.
func group() api.Conf {
	return api.Conf{Desired: 4, Min: 50, Surplus: 1, Pool: 2, Reap: 9, Timeout: 10, Fails: 3, Version: 21}
}

// herd answers a brain of that group, of those that are kept, while a refresh from 21 to 22 is active.
func herd(l ...api.Kept) api.Brain {
	return api.Brain{Set: true, Conf: group(), Kept: l, Ref: api.Refresh{State: api.RefActive, From: 21, Target: 22}}
}

// one answers an instance of that id, version, and phase.
func one(id, version int, phase uint8) api.Kept {
	return api.Kept{Id: id, Token: id + 100, Version: version, Zone: id & 3, Phase: phase}
}

// guard answers k, guarded.
func guard(k api.Kept) api.Kept {
	k.Guarded = true
	return k
}

// wanted answers the version that is wanted, as chapter 15 tells it.
func wanted(b api.Brain) int {
	if b.Ref.State == api.RefActive {
		return b.Ref.Target
	}
	return b.Conf.Version
}

// picked answers what a call of that name is to answer, as the chapter tells it.
func picked(name string, b api.Brain) (int, bool) {
	other := func(k api.Kept) bool { return !k.Guarded && k.Version != wanted(b) }
	switch name {
	case "Leave":
		for _, k := range b.Kept {
			if k.Phase == api.PhServing && other(k) {
				return k.Id, true
			}
		}
	case "End":
		for _, k := range b.Kept {
			if (k.Phase == api.PhHeld || k.Phase == api.PhYoung || k.Phase == api.PhWarmed) && other(k) {
				return k.Id, true
			}
		}
	case "Wake":
		for _, k := range b.Kept {
			if k.Phase == api.PhWarmed && k.Version == wanted(b) {
				return k.Id, true
			}
		}
	case "Extra":
		return surplus(b, api.PhServing)
	case "Cool":
		return surplus(b, api.PhWarmed)
	}
	return 0, false
}

// surplus answers what Extra, or Cool, is to answer, as the chapter tells it: all that are such, and the last one of these.
func surplus(b api.Brain, phase uint8) (int, bool) {
	var others, free []int
	for _, k := range b.Kept {
		if k.Phase == phase && !k.Guarded {
			free = append(free, k.Id)
			if k.Version != wanted(b) {
				others = append(others, k.Id)
			}
		}
	}
	if len(others) > 0 {
		return others[len(others)-1], true
	}
	if len(free) > 0 {
		return free[len(free)-1], true
	}
	return 0, false
}

// where answers the zones of b, as the chapter tells them.
func where(b api.Brain) []int {
	var l []int
	for _, x := range b.Intents {
		if !x.Warm {
			l = append(l, x.Zone)
		}
	}
	for _, k := range b.Kept {
		if slices.Contains(stand, k.Phase) {
			l = append(l, k.Zone)
		}
	}
	return l
}

// size answers the size of the pull of zones and one more of each of more, worked out by whole numbers.
func size(zones []int, more ...int) int {
	var n [4]int
	for _, z := range append(slices.Clone(zones), more...) {
		n[z&3]++
	}
	return (n[0]-n[2])*(n[0]-n[2]) + (n[1]-n[3])*(n[1]-n[3])
}

// even answers the zone with which zones pull least, by trying each.
func even(zones []int) int {
	next := 0
	for z := range 4 {
		if size(zones, z) < size(zones, next) {
			next = z
		}
	}
	return next
}

// spread answers how uneven those of b stand that serve, as the chapter tells it.
func spread(b api.Brain) int {
	var l []int
	for _, k := range b.Kept {
		if k.Phase == api.PhServing {
			l = append(l, k.Zone)
		}
	}
	return size(l)
}

// want tells of a call of that name that does not answer the id.
func want(t *testing.T, name string, b api.Brain, id int) {
	t.Helper()
	for _, c := range calls {
		if c.name != name {
			continue
		}
		if got, ok := c.f(b); got != id || !ok {
			t.Errorf("%s of %+v: %d, %v, not %d", name, b.Kept, got, ok, id)
		}
	}
}

// wantNone tells of a call of that name that picks one.
func wantNone(t *testing.T, name string, b api.Brain) {
	t.Helper()
	for _, c := range calls {
		if c.name != name {
			continue
		}
		if got, ok := c.f(b); got != 0 || ok {
			t.Errorf("%s of %+v: %d, %v, though there is none", name, b.Kept, got, ok)
		}
	}
}

func TestNothing(t *testing.T) {
	for _, b := range []api.Brain{{}, {Intents: []api.Intent{}, Kept: []api.Kept{}}, herd(), {Kept: []api.Kept{{}}}} {
		for _, c := range calls {
			wantNone(t, c.name, b)
		}
		if len(Zones(b)) != 0 || Zone(b) != 0 || Spread(b) != 0 {
			t.Errorf("of %+v: %v, %d, %d", b, Zones(b), Zone(b), Spread(b))
		}
	}
}

func TestP161P162ByPhase(t *testing.T) {
	for n := range 256 {
		for _, c := range calls {
			version := 21
			if c.name == "Wake" {
				version = 22
			}
			b := herd(one(7, version, uint8(n)))
			if slices.Contains(c.of, uint8(n)) {
				want(t, c.name, b, 7)
			} else {
				wantNone(t, c.name, b)
			}
		}
	}
}

func TestP161P162ByVersion(t *testing.T) {
	// Of the version none is old, and such alone are waked; of those that are too many they are the last to be picked.
	l := append(odd, 0, 1, 21, 22, 23, 1<<40)
	for _, is := range l {
		for _, wanted := range l {
			active := api.Brain{Conf: api.Conf{Version: is}, Ref: api.Refresh{State: api.RefActive, From: is, Target: wanted, Paused: is < 0}}
			for _, b := range []api.Brain{{Conf: api.Conf{Version: wanted}}, active} {
				for _, c := range calls {
					b.Kept = []api.Kept{one(7, is, c.of[len(c.of)-1])}
					old := c.name == "Leave" || c.name == "End"
					if old && is == wanted || c.name == "Wake" && is != wanted {
						wantNone(t, c.name, b)
					} else {
						want(t, c.name, b, 7)
					}
				}
			}
		}
	}
}

func TestP161P162ByStateOfRefresh(t *testing.T) {
	l := []api.Kept{
		one(1, 21, api.PhServing), one(2, 22, api.PhServing), one(3, 21, api.PhWarmed), one(4, 22, api.PhWarmed),
		one(5, 21, api.PhServing), one(6, 22, api.PhServing), one(7, 21, api.PhWarmed), one(8, 22, api.PhWarmed),
	}
	for state := range 256 {
		b := herd(l...)
		b.Ref.State = uint8(state)
		if b.Ref.State == api.RefActive {
			want(t, "Leave", b, 1)
			want(t, "Extra", b, 5)
			want(t, "End", b, 3)
			want(t, "Wake", b, 4)
			want(t, "Cool", b, 7)
			continue
		}
		want(t, "Leave", b, 2)
		want(t, "Extra", b, 6)
		want(t, "End", b, 4)
		want(t, "Wake", b, 3)
		want(t, "Cool", b, 8)
	}
}

func TestP161FirstByPlace(t *testing.T) {
	// The place tells which one is first, not the id, nor how long it is in its phase.
	for _, c := range []struct {
		name    string
		version int
		phase   uint8
	}{
		{"Leave", 21, api.PhServing}, {"End", 21, api.PhHeld}, {"End", 21, api.PhYoung}, {"End", 21, api.PhWarmed}, {"Wake", 22, api.PhWarmed},
	} {
		a, x, y := one(9, c.version, c.phase), one(3, c.version, c.phase), one(5, c.version, c.phase)
		a.Since, x.Since, y.Since = 7, 1, 9
		other := one(1, 43-c.version, c.phase)
		want(t, c.name, herd(a, x, y), 9)
		want(t, c.name, herd(other, x, a, y), 3)
		want(t, c.name, herd(one(2, c.version, api.PhJoining), other, y), 5)
		wantNone(t, c.name, herd(other, one(2, c.version, api.PhJoining)))
	}
	// End asks no phase ahead of another.
	want(t, "End", herd(one(4, 21, api.PhWarmed), one(5, 21, api.PhYoung), one(6, 21, api.PhHeld)), 4)
	want(t, "End", herd(one(4, 21, api.PhServing), one(5, 21, api.PhYoung), one(6, 21, api.PhHeld)), 5)
	want(t, "End", herd(one(4, 22, api.PhWarmed), one(5, 22, api.PhYoung), one(6, 21, api.PhHeld)), 6)
}

func TestP162LastByPlace(t *testing.T) {
	for _, c := range []struct {
		name  string
		phase uint8
	}{{"Extra", api.PhServing}, {"Cool", api.PhWarmed}} {
		old := func(id int) api.Kept { return one(id, 21, c.phase) }
		young := func(id int) api.Kept { return one(id, 22, c.phase) }
		want(t, c.name, herd(old(9), old(3), old(5)), 5)
		want(t, c.name, herd(old(9), old(5), old(3)), 3)
		want(t, c.name, herd(young(9), young(5), young(3)), 3)
		// One of another version is ahead of those of the version, wherever it is, and whichever other version it is of.
		want(t, c.name, herd(old(1), young(2), young(3)), 1)
		want(t, c.name, herd(old(1), one(2, 5, c.phase), young(3)), 2)
		want(t, c.name, herd(one(1, 5, c.phase), old(2), young(3)), 2)
		want(t, c.name, herd(young(1), old(2), young(3)), 2)
		want(t, c.name, herd(young(1), young(2), old(3)), 3)
		// Such as are guarded, or in another phase, are passed over.
		want(t, c.name, herd(old(1), guard(old(2)), young(3)), 1)
		want(t, c.name, herd(guard(old(1)), young(2), young(3)), 3)
		want(t, c.name, herd(guard(old(1)), young(2), guard(young(3))), 2)
		want(t, c.name, herd(one(1, 21, api.PhJoining), young(2), one(3, 22, api.PhLeaving)), 2)
		wantNone(t, c.name, herd(guard(old(1)), guard(young(2)), one(3, 21, api.PhYoung)))
	}
	// Each asks those of its own phase alone.
	b := herd(one(1, 21, api.PhServing), one(2, 21, api.PhWarmed), one(3, 22, api.PhServing), one(4, 22, api.PhWarmed))
	want(t, "Extra", b, 1)
	want(t, "Cool", b, 2)
}

func TestP161P162P164Guarded(t *testing.T) {
	// It is so whether the group passes guarded ones over or not.
	for _, skip := range []bool{false, true} {
		for _, c := range calls {
			for _, phase := range c.of {
				for _, version := range []int{21, 22} {
					b := herd(guard(one(7, version, phase)))
					b.Conf.Skip = skip
					if c.name == "Wake" && version == 22 {
						want(t, c.name, b, 7)
					} else {
						wantNone(t, c.name, b)
					}
					b.Ref = api.Refresh{}
					if c.name == "Wake" && version == 21 {
						want(t, c.name, b, 7)
					} else {
						wantNone(t, c.name, b)
					}
				}
			}
		}
		b := herd(guard(one(1, 21, api.PhServing)), one(2, 21, api.PhServing), guard(one(3, 21, api.PhHeld)), one(4, 21, api.PhHeld))
		b.Conf.Skip = skip
		want(t, "Leave", b, 2)
		want(t, "Extra", b, 2)
		want(t, "End", b, 4)
		// To be waked a guarded one is as good as another.
		b = herd(guard(one(1, 22, api.PhWarmed)), one(2, 22, api.PhWarmed))
		b.Conf.Skip = skip
		want(t, "Wake", b, 1)
		want(t, "Cool", b, 2)
	}
}

func TestP161P162ByNothingElse(t *testing.T) {
	// Ids are told as they are, 0 and such as may not be, too; nor are zones, tokens, times, hooks or the group's numbers asked.
	for _, c := range calls {
		for _, n := range append(odd, 0, 1, 21, 22) {
			k := api.Kept{Id: n, Token: n, Zone: n, Since: n, Complete: n > 0, Version: 21, Phase: c.of[0]}
			if c.name == "Wake" {
				k.Version = 22
			}
			b := api.Brain{Kept: []api.Kept{k}, Ref: api.Refresh{State: api.RefActive, Target: 22, Paused: n > 0, Step: n, Fails: n}}
			want(t, c.name, b, n)
			b.Epoch, b.Seq, b.Conf.Desired, b.Conf.Min, b.Conf.Pool = n, n, n, n, n
			b.Intents = []api.Intent{{Token: n, Version: n, Zone: n, Warm: n > 0}}
			want(t, c.name, b, n)
		}
	}
}

func TestP163Zones(t *testing.T) {
	b := herd()
	b.Intents = []api.Intent{{Token: 1, Zone: 3}, {Token: 2, Zone: 2, Warm: true}, {Token: 3, Zone: 0}}
	for n := range 256 {
		b.Kept = append(b.Kept, api.Kept{Id: n, Zone: n + 500, Phase: uint8(255 - n), Guarded: n%2 == 0})
	}
	// In order: the Intents that are not Warm, and then of the Kept, whose phases fall here, those that stand.
	wanted := []int{3, 0, 755 - 10, 755 - 4, 755 - 3, 755 - 2, 755 - 1}
	if o := Zones(b); !slices.Equal(o, wanted) {
		t.Errorf("%v, not %v", o, wanted)
	}
	// Zones are told as they are, such as may not be, too.
	b = api.Brain{}
	wanted = nil
	for at, n := range append(odd, 0, 1, 3, 4) {
		b.Intents = append(b.Intents, api.Intent{Zone: n, Version: at}, api.Intent{Zone: 77, Warm: true})
		wanted = append(wanted, n)
	}
	for at, n := range append(odd, 0, 9, 8, 8) {
		b.Kept = append(b.Kept, api.Kept{Zone: n, Phase: stand[at%5], Version: at}, api.Kept{Zone: 78, Phase: going[at%4]}, api.Kept{Zone: 79, Phase: api.PhWarmed})
		wanted = append(wanted, n)
	}
	if o := Zones(b); !slices.Equal(o, wanted) {
		t.Errorf("%v, not %v", o, wanted)
	}
}

func TestP163Zone(t *testing.T) {
	for _, c := range []struct {
		meant, warm, stand, others []int
		next                       int
	}{
		{next: 0},
		{meant: []int{0}, next: 2},
		{stand: []int{0}, next: 2},
		{meant: []int{0}, stand: []int{2}, next: 0},
		{meant: []int{1}, stand: []int{1, 0}, next: 3},
		{meant: []int{2}, stand: []int{1}, next: 0},
		{meant: []int{3}, next: 1},
		// Warm ones, and those that go, are not asked.
		{warm: []int{0, 0}, others: []int{0, 1}, next: 0},
		{meant: []int{0}, warm: []int{2}, others: []int{2}, next: 2},
		{meant: []int{least, -1}, stand: []int{greatest}, next: 1},
	} {
		var b api.Brain
		for _, z := range c.meant {
			b.Intents = append(b.Intents, api.Intent{Zone: z})
		}
		for _, z := range c.warm {
			b.Intents = append(b.Intents, api.Intent{Zone: z, Warm: true})
			b.Kept = append(b.Kept, api.Kept{Zone: z, Phase: api.PhWarmed})
		}
		for at, z := range c.stand {
			b.Kept = append(b.Kept, api.Kept{Zone: z, Phase: stand[at%5]})
		}
		for at, z := range c.others {
			b.Kept = append(b.Kept, api.Kept{Zone: z, Phase: going[at%4]}, api.Kept{Zone: z})
		}
		if o := Zone(b); o != c.next {
			t.Errorf("of %+v: %d", c, o)
		}
	}
	// More of them than a pull tells of are all asked, as by zone.Next.
	b := api.Brain{Intents: make([]api.Intent, 1000)}
	for range 1500 {
		b.Kept = append(b.Kept, api.Kept{Zone: 1, Phase: api.PhHeld})
	}
	if o := Zone(b); o != 3 || o != zone.Next(Zones(b)...) {
		t.Error("of many:", o)
	}
}

func TestP163Spread(t *testing.T) {
	for _, c := range []struct {
		zones []int
		size  int
	}{
		{nil, 0}, {[]int{0}, 1}, {[]int{3}, 1}, {[]int{0, 2}, 0}, {[]int{1, 3, 1}, 1}, {[]int{0, 1}, 2}, {[]int{0, 0}, 4}, {[]int{1, 1, 1}, 9},
		{[]int{0, 1, 2, 3}, 0}, {[]int{0, 0, 1, 1}, 8}, {[]int{-1, 4, 8, 12}, 10}, {[]int{least, greatest}, 2},
	} {
		// None is asked but those that serve, guarded and old ones, too.
		b := herd()
		b.Intents = []api.Intent{{Zone: 1}, {Zone: 1, Warm: true}}
		for phase := range api.Phases + 1 {
			if phase != api.PhServing {
				b.Kept = append(b.Kept, api.Kept{Zone: 0, Phase: phase}, api.Kept{Zone: 1, Phase: phase})
			}
		}
		for at, z := range c.zones {
			b.Kept = slices.Insert(b.Kept, at*2, api.Kept{Zone: z, Phase: api.PhServing, Guarded: at%2 == 0, Version: 20 + at%3})
		}
		if o := Spread(b); o != c.size {
			t.Errorf("of %v: %d, not %d", c.zones, o, c.size)
		}
	}
	for _, n := range []int{998, 999, 1000} {
		b := herd(slices.Repeat([]api.Kept{{Phase: api.PhServing, Zone: 2}}, n)...)
		if o := Spread(b); o != n*n {
			t.Errorf("of %d: %d", n, o)
		}
	}
	// Of more than 1000 it is as chapter 6 tells of such: the first ones make the pull.
	b := herd(slices.Repeat([]api.Kept{{Phase: api.PhServing, Zone: 2}}, 3000)...)
	if o := Spread(b); o != 1000000 {
		t.Error("of 3000:", o)
	}
}

func TestR1Many(t *testing.T) {
	b := herd(guard(one(1, 21, api.PhServing)))
	b.Kept = append(b.Kept, slices.Repeat([]api.Kept{one(2, 22, api.PhJoining)}, 300000)...)
	for _, c := range calls {
		wantNone(t, c.name, b)
	}
	b.Kept = append(b.Kept, one(3, 21, api.PhServing), one(4, 21, api.PhWarmed), one(5, 22, api.PhWarmed))
	want(t, "Leave", b, 3)
	want(t, "Extra", b, 3)
	want(t, "End", b, 4)
	want(t, "Wake", b, 5)
	want(t, "Cool", b, 4)
	if len(Zones(b)) != 300002 || Zone(b) != 0 {
		t.Error("of many:", len(Zones(b)), Zone(b))
	}
	// The last one of many is looked for from the end on, and may be the first of them.
	b.Kept = append([]api.Kept{one(8, 21, api.PhServing)}, slices.Repeat([]api.Kept{one(9, 22, api.PhServing)}, 300000)...)
	want(t, "Extra", b, 8)
}

// some answers a number that a brain may have, or one that it may not.
func some(r *rand.Rand) int {
	if r.IntN(20) == 0 {
		return odd[r.IntN(len(odd))]
	}
	return r.IntN(4)
}

// wild answers a brain such as may be, or may not.
func wild(r *rand.Rand) api.Brain {
	b := api.Brain{Epoch: some(r), Seq: some(r), Set: r.IntN(2) == 0}
	if r.IntN(4) > 0 {
		b.Conf = group()
		b.Conf.Version, b.Conf.Skip = some(r), r.IntN(2) == 0
	}
	for range r.IntN(6) {
		b.Intents = append(b.Intents, api.Intent{Token: some(r), Version: some(r), Zone: some(r), Warm: r.IntN(3) == 0})
	}
	phases := append([]uint8{0, api.PhServing, api.PhServing, api.PhWarmed, api.PhWarmed, 11, 255}, append(stand, going...)...)
	for range r.IntN(9) {
		b.Kept = append(b.Kept, api.Kept{
			Id: some(r), Token: some(r), Version: some(r), Zone: some(r), Phase: phases[r.IntN(len(phases))],
			Since: some(r), Guarded: r.IntN(3) == 0, Complete: r.IntN(2) == 0,
		})
	}
	b.Ref = api.Refresh{State: uint8(r.IntN(5)), From: some(r), Target: some(r), Step: some(r), Paused: r.IntN(3) == 0, Since: some(r), Fails: some(r)}
	return b
}

func TestP161P162P163WhateverBrains(t *testing.T) {
	r := rand.New(rand.NewPCG(16, 1))
	for range 50000 {
		b := wild(r)
		for _, c := range calls {
			id, ok := c.f(b)
			if wanted, is := picked(c.name, b); id != wanted || ok != is {
				t.Fatalf("%s(%+v) = %d, %v, not %d, %v", c.name, b, id, ok, wanted, is)
			}
		}
		if o := Zones(b); !slices.Equal(o, where(b)) {
			t.Fatalf("Zones(%+v) = %v, not %v", b, o, where(b))
		}
		if o := Zone(b); o != even(where(b)) {
			t.Fatalf("Zone(%+v) = %d, not %d", b, o, even(where(b)))
		}
		if o := Spread(b); o != spread(b) {
			t.Fatalf("Spread(%+v) = %d, not %d", b, o, spread(b))
		}
	}
}

func TestP164(t *testing.T) {
	r := rand.New(rand.NewPCG(16, 4))
	for range 50000 {
		b := wild(r)
		for at := range b.Kept {
			b.Kept[at].Id = 10 + at
		}
		for _, c := range calls {
			id, ok := c.f(b)
			if !ok {
				continue
			}
			k := b.Kept[id-10]
			if k.Guarded && c.name != "Wake" {
				t.Fatalf("%s of %+v picks %d, which is guarded", c.name, b, id)
			}
			if !phase.Legal(k.Phase, c.to) || !slices.Contains(c.of, k.Phase) {
				t.Fatalf("%s of %+v picks %d, which may not go on to %s", c.name, b, id, phase.Name(c.to))
			}
		}
	}
}

func TestP164OfRecords(t *testing.T) {
	// What is picked goes on by a record that fits: till all are picked of a group whose refresh has begun.
	l, _ := conf.Row(api.Conf{Desired: 3, Pool: 2, Reap: 1, Timeout: 1, Fails: 1, Version: 1})
	b := brain.All(api.Brain{}, record.Of(api.RecBoot), record.Of(api.RecConf, l...))
	for id := 1; id <= 8; id++ {
		b = brain.All(b, record.Of(api.RecIntent, 1, Zone(b), id/7), record.Of(api.RecMade, id, id, 1))
	}
	if o := Zones(b); !slices.Equal(o, []int{0, 2, 0, 2, 0, 2}) {
		t.Error("each zone is told by Zone:", o)
	}
	for id := 3; id <= 6; id++ {
		b = brain.Apply(b, record.Of(api.RecPhase, id, int(api.PhYoung), 2))
	}
	for id := 5; id <= 6; id++ {
		b = brain.All(b, record.Of(api.RecPhase, id, int(api.PhJoining), 3), record.Of(api.RecPhase, id, int(api.PhServing), 4))
	}
	want(t, "Extra", b, 6)
	want(t, "Cool", b, 8)
	wantNone(t, "Leave", b)
	wantNone(t, "End", b)
	want(t, "Wake", b, 7)
	b = brain.All(b, record.Of(api.RecStart, 2, 5), record.Of(api.RecGuard, 3, 1))
	wantNone(t, "Wake", b)
	for _, c := range []struct {
		name string
		id   int
		to   uint8
	}{
		{"Leave", 5, api.PhLeaving}, {"Extra", 6, api.PhLeaving}, {"End", 1, api.PhEnding}, {"End", 2, api.PhEnding},
		{"End", 4, api.PhEnding}, {"Cool", 8, api.PhEnding}, {"End", 7, api.PhEnding},
	} {
		want(t, c.name, b, c.id)
		was := b
		b = brain.Apply(b, record.Of(api.RecPhase, c.id, int(c.to), 6))
		if brain.Same(b, was) {
			t.Errorf("%s picks %d, which does not go on", c.name, c.id)
		}
	}
	for _, c := range calls {
		wantNone(t, c.name, b)
	}
}

func TestR4Memory(t *testing.T) {
	r := rand.New(rand.NewPCG(16, 5))
	for range 2000 {
		b := wild(r)
		b.Intents = append(make([]api.Intent, 0, 12), b.Intents...)
		b.Kept = append(make([]api.Kept, 0, 12), b.Kept...)
		for at := range b.Kept[:12] {
			if at >= len(b.Kept) {
				b.Kept[:12][at] = api.Kept{Id: 55, Phase: api.PhServing, Zone: 9}
			}
		}
		was, room := brain.Own(b), slices.Clone(b.Kept[:12])
		for _, c := range calls {
			c.f(b)
		}
		next, size, l := Zone(b), Spread(b), Zones(b)
		kept := slices.Clone(l)
		for at := range l {
			l[at] = 1000
		}
		_ = append(l, 1000)
		if !slices.Equal(Zones(b), kept) || Zone(b) != next || Spread(b) != size {
			t.Fatal("an answer shares memory with another one")
		}
		if !brain.Same(b, was) || !slices.Equal(b.Kept[:12], room) {
			t.Fatal("what is handed in is changed")
		}
		for at := range b.Kept {
			b.Kept[at].Zone = 2000
		}
		for at := range b.Intents {
			b.Intents[at].Zone = 2000
		}
		for _, n := range l {
			if n != 1000 {
				t.Fatal("an answer shares memory with what is handed in")
			}
		}
	}
}
