package count

import (
	"math"
	"math/rand/v2"
	"slices"
	"testing"

	"herd/api"
	"herd/brain"
	"herd/conf"
	"herd/record"
)

// least and greatest are the ends of Go's ints.
const least, greatest = math.MinInt, math.MaxInt

// odd are no numbers, or none of an instance.
var odd = []int{least, least + 1, -1 << 40, -1, 1<<40 + 1, greatest - 1, greatest}

// stand and going are the phases in which instances stand, and go, as chapter 14 tells them.
var (
	stand = []uint8{api.PhHeld, api.PhYoung, api.PhJoining, api.PhServing, api.PhWaking}
	going = []uint8{api.PhLeaving, api.PhLeft, api.PhHeldOut, api.PhEnding}
)

// group answers a group that may be: its version is 21, its floor 2, its bound 7.
func group() api.Conf {
	return api.Conf{
		Desired: 4, Min: 50, Surplus: 1, Pool: 2, HookIn: 5, HookOut: 6, Warmup: 7, Drain: 8,
		Reap: 9, Timeout: 10, Fails: 3, Delay: 4, Version: 21, Marks: []int{30, 60},
	}
}

// full answers a brain with four launches that are meant, and two instances in each phase, one of version 21, and one of version 22; no refresh is active.
func full() api.Brain {
	b := api.Brain{
		Epoch: 2, Seq: 90, Set: true, Conf: group(),
		Intents: []api.Intent{
			{Token: 60, Version: 21, Zone: 3}, {Token: 70, Version: 21, Zone: 2, Warm: true},
			{Token: 80, Version: 22, Zone: 1, Warm: true}, {Token: 90, Version: 22, Zone: 0},
		},
	}
	for phase := api.PhHeld; phase < api.Phases; phase++ {
		n := int(phase)
		b.Kept = append(b.Kept,
			api.Kept{Id: 2 * n, Token: n, Version: 21, Zone: n % 4, Phase: phase, Since: n},
			api.Kept{Id: 2*n + 1, Token: n + 20, Version: 22, Zone: (n + 1) % 4, Phase: phase, Since: n})
	}
	return b
}

// behind answers full behind put.
func behind(put func(b *api.Brain)) api.Brain {
	b := full()
	put(&b)
	return b
}

// refresh lets one from version 21 to 22 be active.
func refresh(b *api.Brain) {
	b.Ref = api.Refresh{State: api.RefActive, From: 21, Target: 22, Step: 1, Since: 40, Fails: 1}
}

// wanted answers the version that is wanted, as the chapter tells it.
func wanted(b api.Brain) int {
	if b.Ref.State == api.RefActive {
		return b.Ref.Target
	}
	return b.Conf.Version
}

// past tells whether k is old, by b, as the chapter tells it.
func past(b api.Brain, k api.Kept) bool {
	if slices.Contains(going, k.Phase) || k.Version == wanted(b) {
		return false
	}
	return !k.Guarded || !b.Conf.Skip
}

// counted answers the counts of b, as the chapter tells them.
func counted(b api.Brain) api.Counts {
	c := api.Counts{
		Version: wanted(b), All: len(b.Intents) + len(b.Kept), Want: b.Conf.Desired,
		Floor: conf.Floor(b.Conf), Bound: conf.Bound(b.Conf),
	}
	for _, x := range b.Intents {
		if x.Version != wanted(b) {
			c.Old++
		}
		if x.Warm {
			c.Warm++
		} else {
			c.Standing++
		}
	}
	for _, k := range b.Kept {
		if past(b, k) {
			c.Old++
		}
		if slices.Contains(stand, k.Phase) {
			c.Standing++
		}
		if k.Phase == api.PhWarmed {
			c.Warm++
		}
		if k.Phase == api.PhServing {
			c.Serving++
		}
	}
	if b.Ref.State == api.RefActive && !b.Ref.Paused && c.Old > 0 {
		c.Want = b.Conf.Desired + b.Conf.Surplus
	}
	return c
}

// where answers the zones of b, as the chapter tells them.
func where(b api.Brain) []int {
	var l []int
	for _, x := range b.Intents {
		if !x.Warm {
			l = append(l, x.Zone)
		}
	}
	for _, k := range b.Kept {
		if slices.Contains(stand, k.Phase) {
			l = append(l, k.Zone)
		}
	}
	return l
}

func TestP151Version(t *testing.T) {
	for _, n := range append(odd, 0, 1, 21, 22, 1<<40) {
		b := full()
		b.Conf.Version = n
		if o := Version(b); o != n {
			t.Errorf("of no refresh: %d, not %d", o, n)
		}
		for state := range 256 {
			b.Ref = api.Refresh{State: uint8(state), From: 7, Target: n}
			b.Conf.Version = 9
			want := 9
			if state == 1 {
				want = n
			}
			if o := Version(b); o != want {
				t.Errorf("of a refresh in state %d: %d, not %d", state, o, want)
			}
		}
	}
	// It is so of one that pauses, too, and of a brain that is not Set.
	if o := Version(api.Brain{Conf: api.Conf{Version: 3}, Ref: api.Refresh{State: api.RefActive, Target: 5, Paused: true}}); o != 5 {
		t.Error("of one that pauses:", o)
	}
	if o := Version(api.Brain{Conf: api.Conf{Version: 3}}); o != 3 {
		t.Error("of a brain that is not Set:", o)
	}
	if o := Version(api.Brain{}); o != 0 {
		t.Error("of nothing:", o)
	}
}

func TestP151IsOldByItsPhase(t *testing.T) {
	for n := range 256 {
		phase := uint8(n)
		for _, b := range []api.Brain{full(), behind(refresh), {}, {Kept: full().Kept}} {
			k := api.Kept{Id: 99, Version: wanted(b) + 1, Phase: phase}
			if o := IsOld(b, k); o != !slices.Contains(going, phase) {
				t.Errorf("in phase %d: %v", n, o)
			}
			k.Version = wanted(b)
			if IsOld(b, k) {
				t.Errorf("in phase %d, of the version that is wanted", n)
			}
		}
	}
}

func TestP151IsOldByItsVersion(t *testing.T) {
	l := append(odd, 0, 1, 21, 22, 23, 1<<40)
	for _, is := range l {
		for _, want := range l {
			k := api.Kept{Id: 1, Version: is, Phase: api.PhServing}
			b := full()
			b.Conf.Version = want
			if o := IsOld(b, k); o != (is != want) {
				t.Errorf("of version %d, of a group of %d: %v", is, want, o)
			}
			b.Conf.Version = is
			b.Ref = api.Refresh{State: api.RefActive, From: is, Target: want}
			if o := IsOld(b, k); o != (is != want) {
				t.Errorf("of version %d, while %d is the target: %v", is, want, o)
			}
		}
	}
}

func TestP151IsOldThoughGuarded(t *testing.T) {
	for _, c := range []struct{ guarded, skip, old bool }{
		{false, false, true}, {false, true, true}, {true, false, true}, {true, true, false},
	} {
		for _, put := range []func(b *api.Brain){refresh, func(b *api.Brain) { b.Conf.Version = 22 }} {
			b := behind(put)
			b.Conf.Skip = c.skip
			if o := IsOld(b, api.Kept{Version: 21, Phase: api.PhServing, Guarded: c.guarded}); o != c.old {
				t.Errorf("guarded: %v, Skip: %v: %v", c.guarded, c.skip, o)
			}
			if IsOld(b, api.Kept{Version: 22, Phase: api.PhServing, Guarded: c.guarded}) {
				t.Errorf("guarded: %v, Skip: %v: old, though of the version that is wanted", c.guarded, c.skip)
			}
			if IsOld(b, api.Kept{Version: 21, Phase: api.PhLeaving, Guarded: c.guarded}) {
				t.Errorf("guarded: %v, Skip: %v: old, though it goes", c.guarded, c.skip)
			}
		}
	}
}

func TestP151IsOldByNothingElse(t *testing.T) {
	b := behind(refresh)
	for _, n := range append(odd, 0, 1, 21, 22) {
		for _, complete := range []bool{false, true} {
			k := api.Kept{Id: n, Token: n, Zone: n, Since: n, Complete: complete, Version: 21, Phase: api.PhYoung}
			if !IsOld(b, k) {
				t.Errorf("%v is not old", k)
			}
			k.Version = 22
			if IsOld(b, k) {
				t.Errorf("%v is old", k)
			}
		}
	}
}

func TestP151Meant(t *testing.T) {
	l := append(odd, 0, 1, 21, 22, 23, 1<<40)
	for _, is := range l {
		for _, want := range l {
			for _, warm := range []bool{false, true} {
				x := api.Intent{Token: is, Version: is, Zone: want, Warm: warm}
				b := full()
				b.Conf.Version, b.Conf.Skip = want, true
				if o := Meant(b, x); o != (is == want) {
					t.Errorf("of version %d, of a group of %d: %v", is, want, o)
				}
				b.Conf.Version = is
				b.Ref = api.Refresh{State: api.RefActive, From: is, Target: want, Paused: warm}
				if o := Meant(b, x); o != (is == want) {
					t.Errorf("of version %d, while %d is the target: %v", is, want, o)
				}
			}
		}
	}
	if !Meant(api.Brain{}, api.Intent{}) || Meant(api.Brain{}, api.Intent{Version: 1}) {
		t.Error("by a brain of nothing")
	}
}

func TestP152OfNothing(t *testing.T) {
	if o := Of(api.Brain{}); o != (api.Counts{}) {
		t.Error("of nothing:", o)
	}
	if o := Of(api.Brain{Intents: []api.Intent{}, Kept: []api.Kept{}}); o != (api.Counts{}) {
		t.Error("of empty lists:", o)
	}
}

func TestP152Of(t *testing.T) {
	// Without a refresh 22 is old: of two Intents, and in the six phases that do not go.
	for name, c := range map[string]struct {
		b    api.Brain
		want api.Counts
	}{
		"no refresh": {full(), api.Counts{Version: 21, Old: 8, Standing: 12, Warm: 4, All: 24, Serving: 2, Want: 4, Floor: 2, Bound: 7}},
		"a refresh":  {behind(refresh), api.Counts{Version: 22, Old: 8, Standing: 12, Warm: 4, All: 24, Serving: 2, Want: 5, Floor: 2, Bound: 7}},
		"one that pauses": {behind(func(b *api.Brain) { refresh(b); b.Ref.Paused = true }),
			api.Counts{Version: 22, Old: 8, Standing: 12, Warm: 4, All: 24, Serving: 2, Want: 4, Floor: 2, Bound: 7}},
		"one that is done": {behind(func(b *api.Brain) { refresh(b); b.Ref.State = api.RefDone; b.Conf.Version = 23 }),
			api.Counts{Version: 23, Old: 16, Standing: 12, Warm: 4, All: 24, Serving: 2, Want: 4, Floor: 2, Bound: 7}},
		"one that was cancelled": {behind(func(b *api.Brain) { refresh(b); b.Ref.State = api.RefCancelled }),
			api.Counts{Version: 21, Old: 8, Standing: 12, Warm: 4, All: 24, Serving: 2, Want: 4, Floor: 2, Bound: 7}},
		"nothing old": {behind(func(b *api.Brain) { refresh(b); b.Intents = b.Intents[3:]; b.Kept = b.Kept[13:14] }),
			api.Counts{Version: 22, Standing: 1, All: 2, Want: 4, Floor: 2, Bound: 7}},
		"one meant is old": {behind(func(b *api.Brain) { refresh(b); b.Intents = b.Intents[:1]; b.Kept = nil }),
			api.Counts{Version: 22, Old: 1, Standing: 1, All: 1, Want: 5, Floor: 2, Bound: 7}},
		"one kept is old": {behind(func(b *api.Brain) { refresh(b); b.Intents = nil; b.Kept = b.Kept[6:7] }),
			api.Counts{Version: 22, Old: 1, Standing: 1, All: 1, Serving: 1, Want: 5, Floor: 2, Bound: 7}},
		"one old is passed over": {behind(func(b *api.Brain) {
			refresh(b)
			b.Intents, b.Kept, b.Conf.Skip = nil, b.Kept[6:7], true
			b.Kept[0].Guarded = true
		}), api.Counts{Version: 22, Standing: 1, All: 1, Serving: 1, Want: 4, Floor: 2, Bound: 7}},
		"no group": {behind(func(b *api.Brain) { b.Set = false }),
			api.Counts{Version: 21, Old: 8, Standing: 12, Warm: 4, All: 24, Serving: 2, Want: 4, Floor: 2, Bound: 7}},
		"a group that may not be": {behind(func(b *api.Brain) { refresh(b); b.Conf.Desired, b.Conf.Surplus = -7, 100 }),
			api.Counts{Version: 22, Old: 8, Standing: 12, Warm: 4, All: 24, Serving: 2, Want: 93}},
	} {
		if o := Of(c.b); o != c.want {
			t.Errorf("%s: %+v, not %+v", name, o, c.want)
		}
	}
}

func TestP152OfEachPhase(t *testing.T) {
	for n := range 256 {
		for _, version := range []int{21, 22} {
			b := api.Brain{Set: true, Conf: group(), Kept: []api.Kept{{Id: 1, Version: version, Phase: uint8(n)}}}
			refresh(&b)
			want := api.Counts{Version: 22, All: 1, Want: 4, Floor: 2, Bound: 7}
			if slices.Contains(stand, uint8(n)) {
				want.Standing = 1
			}
			if uint8(n) == api.PhServing {
				want.Serving = 1
			}
			if uint8(n) == api.PhWarmed {
				want.Warm = 1
			}
			if version == 21 && !slices.Contains(going, uint8(n)) {
				want.Old, want.Want = 1, 5
			}
			if o := Of(b); o != want {
				t.Errorf("of one of version %d in phase %d: %+v, not %+v", version, n, o, want)
			}
		}
	}
}

func TestP152OfEachIntent(t *testing.T) {
	for _, version := range []int{21, 22} {
		for _, warm := range []bool{false, true} {
			b := api.Brain{Set: true, Conf: group(), Intents: []api.Intent{{Token: 1, Version: version, Warm: warm}}}
			refresh(&b)
			want := api.Counts{Version: 22, All: 1, Want: 4, Floor: 2, Bound: 7}
			if warm {
				want.Warm = 1
			} else {
				want.Standing = 1
			}
			if version == 21 {
				want.Old, want.Want = 1, 5
			}
			if o := Of(b); o != want {
				t.Errorf("of one of version %d, warm: %v: %+v, not %+v", version, warm, o, want)
			}
		}
	}
}

func TestP152OfOddGroups(t *testing.T) {
	// Want is by Go's ints, which go round; the floor and the bound of a group that may not be are 0.
	for _, c := range [][3]int{
		{greatest, 1, least}, {least, -1, greatest}, {0, 0, 0}, {6, 3, 9}, {7, 4, 11}, {-1, 1, 0}, {-5, -5, -10},
	} {
		b := behind(refresh)
		b.Conf.Desired, b.Conf.Surplus = c[0], c[1]
		o := Of(b)
		if o.Want != c[2] || o.Floor != conf.Floor(b.Conf) || o.Bound != conf.Bound(b.Conf) {
			t.Errorf("of Desired %d, Surplus %d: %+v", c[0], c[1], o)
		}
		b.Ref.State = api.RefNone
		if o := Of(b); o.Want != c[0] {
			t.Errorf("of Desired %d, without a refresh: %d", c[0], o.Want)
		}
	}
}

func TestP152OfMany(t *testing.T) {
	b := behind(refresh)
	b.Kept, b.Intents = nil, nil
	for n := range 20000 {
		b.Kept = append(b.Kept, api.Kept{Id: n + 1, Version: 21 + n%2, Phase: api.PhServing})
		b.Intents = append(b.Intents, api.Intent{Token: n + 1, Version: 21 + n%4, Warm: n%2 == 0})
	}
	want := api.Counts{Version: 22, Old: 25000, Standing: 30000, Warm: 10000, All: 40000, Serving: 20000, Want: 5, Floor: 2, Bound: 7}
	if o := Of(b); o != want {
		t.Errorf("%+v", o)
	}
	if len(Zones(b)) != 30000 || !Full(b) {
		t.Error("of many:", len(Zones(b)))
	}
}

func TestP153Zones(t *testing.T) {
	// Two of the launches are not warm; in Held, Young, Joining, Serving and Waking two instances stand each.
	want := []int{3, 0, 1, 2, 2, 3, 3, 0, 0, 1, 2, 3}
	if o := Zones(full()); !slices.Equal(o, want) {
		t.Errorf("%v, not %v", o, want)
	}
	if o := Zones(behind(func(b *api.Brain) { b.Intents = nil })); !slices.Equal(o, want[2:]) {
		t.Errorf("without Intents: %v", o)
	}
	if o := Zones(behind(func(b *api.Brain) { b.Kept = nil })); !slices.Equal(o, want[:2]) {
		t.Errorf("without Kept: %v", o)
	}
	if len(Zones(api.Brain{})) != 0 || len(Zones(api.Brain{Intents: []api.Intent{{Zone: 3, Warm: true}}, Kept: []api.Kept{{Zone: 3}, {Zone: 2, Phase: 99}}})) != 0 {
		t.Error("of none that stands there are zones")
	}
}

func TestP153ZonesAsTheyAre(t *testing.T) {
	// Zones are told as they are, such as may not be, too; neither versions nor a refresh are asked.
	var b api.Brain
	var want []int
	for at, n := range append(odd, 0, 1, 3, 4) {
		b.Intents = append(b.Intents, api.Intent{Token: 1, Zone: n, Version: at}, api.Intent{Zone: 77, Warm: true})
		want = append(want, n)
	}
	for at, n := range append(odd, 9, 8, 8) {
		b.Kept = append(b.Kept, api.Kept{Zone: n, Phase: stand[at%5], Version: at, Guarded: at%2 == 0}, api.Kept{Zone: 78, Phase: going[at%4]}, api.Kept{Zone: 79, Phase: api.PhWarmed})
		want = append(want, n)
	}
	if o := Zones(b); !slices.Equal(o, want) {
		t.Errorf("%v, not %v", o, want)
	}
	b.Ref = api.Refresh{State: api.RefActive, Target: 1, Paused: true}
	if o := Zones(b); !slices.Equal(o, want) {
		t.Errorf("of a refresh: %v, not %v", o, want)
	}
}

func TestP153Full(t *testing.T) {
	for intents := range 10 {
		for kept := range 10 {
			b := api.Brain{Set: true, Conf: group(), Intents: make([]api.Intent, intents), Kept: make([]api.Kept, kept)}
			if o := Full(b); o != (intents+kept >= 7) {
				t.Errorf("of %d and %d, by a bound of 7: %v", intents, kept, o)
			}
		}
	}
	// Those that go, and warm ones, count, too.
	b := api.Brain{Set: true, Conf: group(), Kept: slices.Repeat([]api.Kept{{Phase: api.PhEnding}}, 6)}
	if Full(b) {
		t.Error("full of six that go")
	}
	if b.Intents = []api.Intent{{Warm: true}}; !Full(b) {
		t.Error("not full of six that go and a warm one")
	}
	// The bound of a group that may not be is 0.
	if !Full(api.Brain{}) || !Full(api.Brain{Conf: api.Conf{Desired: 7, Reap: 1, Timeout: 1, Fails: 1, Version: 1}}) {
		t.Error("below a bound of 0")
	}
	if Full(api.Brain{Conf: api.Conf{Desired: 6, Reap: 1, Timeout: 1, Fails: 1, Version: 1}}) {
		t.Error("full of nothing, though the bound is 6")
	}
}

// some answers a number that a brain may have, or one that it may not.
func some(r *rand.Rand) int {
	if r.IntN(20) == 0 {
		return odd[r.IntN(len(odd))]
	}
	return r.IntN(4)
}

// wild answers a brain such as may be, or may not.
func wild(r *rand.Rand) api.Brain {
	b := api.Brain{Epoch: some(r), Seq: some(r), Set: r.IntN(2) == 0}
	if r.IntN(4) > 0 {
		b.Conf = group()
		b.Conf.Version, b.Conf.Skip = some(r), r.IntN(2) == 0
	}
	if r.IntN(4) == 0 {
		b.Conf.Desired, b.Conf.Surplus, b.Conf.Min = some(r), some(r), some(r)
	}
	for range r.IntN(6) {
		b.Intents = append(b.Intents, api.Intent{Token: some(r), Version: some(r), Zone: some(r), Warm: r.IntN(3) == 0})
	}
	for range r.IntN(8) {
		b.Kept = append(b.Kept, api.Kept{Id: some(r), Token: some(r), Version: some(r), Zone: some(r), Phase: uint8(r.IntN(13)), Since: some(r), Guarded: r.IntN(2) == 0, Complete: r.IntN(2) == 0})
	}
	b.Ref = api.Refresh{State: uint8(r.IntN(5)), From: some(r), Target: some(r), Step: some(r), Paused: r.IntN(3) == 0, Since: some(r), Fails: some(r)}
	return b
}

func TestP151P152P153WhateverBrains(t *testing.T) {
	r := rand.New(rand.NewPCG(15, 2))
	for range 50000 {
		b := wild(r)
		if o := Of(b); o != counted(b) {
			t.Fatalf("Of(%+v) = %+v, not %+v", b, o, counted(b))
		}
		if o := Zones(b); !slices.Equal(o, where(b)) {
			t.Fatalf("Zones(%+v) = %v, not %v", b, o, where(b))
		}
		if Version(b) != wanted(b) || Full(b) != (counted(b).All >= counted(b).Bound) {
			t.Fatalf("of %+v: %d, %v", b, Version(b), Full(b))
		}
		for _, k := range wild(r).Kept {
			if IsOld(b, k) != past(b, k) {
				t.Fatalf("IsOld(%+v, %+v) = %v", b, k, IsOld(b, k))
			}
		}
		for _, x := range wild(r).Intents {
			if Meant(b, x) != (x.Version == wanted(b)) {
				t.Fatalf("Meant(%+v, %+v) = %v", b, x, Meant(b, x))
			}
		}
	}
}

func TestP154(t *testing.T) {
	r := rand.New(rand.NewPCG(15, 4))
	for range 50000 {
		b := wild(r)
		c := Of(b)
		if c.Standing > c.All || c.Warm > c.All || c.Standing+c.Warm > c.All {
			t.Fatalf("more than all: %+v", c)
		}
		if len(Zones(b)) != c.Standing {
			t.Fatalf("%d zones, of %d that stand", len(Zones(b)), c.Standing)
		}
		was := c.Old
		k := api.Kept{Id: 1000, Version: Version(b), Phase: uint8(r.IntN(13)), Guarded: r.IntN(2) == 0}
		b.Kept = slices.Insert(slices.Clone(b.Kept), r.IntN(len(b.Kept)+1), k)
		if o := Of(b); o.Old != was || o.All != c.All+1 {
			t.Fatalf("behind one more, of the version that is wanted: %+v, ahead of it %+v", o, c)
		}
		b.Kept = append(b.Kept, api.Kept{Version: Version(b) + 1, Phase: api.PhServing})
		if o := Of(b); o.Old != was+1 {
			t.Fatalf("behind one more, of another version: %+v, ahead of it %+v", o, c)
		}
	}
}

func TestP154OfRecords(t *testing.T) {
	// A refresh of two, from its beginning on: each is old till it goes, or is of the target.
	l, _ := conf.Row(api.Conf{Desired: 2, Surplus: 1, Reap: 1, Timeout: 1, Fails: 1, Version: 1})
	b := brain.All(api.Brain{}, record.Of(api.RecBoot), record.Of(api.RecConf, l...))
	for _, s := range []struct {
		kind                       uint8
		l                          []int
		old, standing, want, zones int
	}{
		{api.RecIntent, []int{1, 0, 0}, 0, 1, 2, 1},
		{api.RecIntent, []int{1, 2, 0}, 0, 2, 2, 2},
		{api.RecMade, []int{1, 7, 5}, 0, 2, 2, 2},
		{api.RecStart, []int{4, 6}, 2, 2, 3, 2},
		{api.RecMade, []int{2, 8, 6}, 2, 2, 3, 2},
		{api.RecPause, []int{6}, 2, 2, 2, 2},
		{api.RecGo, nil, 2, 2, 3, 2},
		{api.RecIntent, []int{4, 2, 0}, 2, 3, 3, 3},
		{api.RecPhase, []int{7, int(api.PhEnding), 7}, 1, 2, 3, 2},
		{api.RecGone, []int{7}, 1, 2, 3, 2},
		{api.RecPhase, []int{8, int(api.PhEnding), 8}, 0, 1, 2, 1},
		{api.RecRoll, nil, 1, 1, 3, 1},
		{api.RecCancel, nil, 1, 1, 2, 1},
	} {
		b = brain.Apply(b, record.Of(s.kind, s.l...))
		c := Of(b)
		if c.Old != s.old || c.Standing != s.standing || c.Want != s.want || len(Zones(b)) != s.zones {
			t.Errorf("behind %d, %v: %+v, %v", s.kind, s.l, c, Zones(b))
		}
	}
}

func TestR4Memory(t *testing.T) {
	r := rand.New(rand.NewPCG(15, 5))
	for range 2000 {
		b := wild(r)
		b.Intents = append(make([]api.Intent, 0, 12), b.Intents...)
		b.Kept = append(make([]api.Kept, 0, 12), b.Kept...)
		for at := range b.Kept[:12] {
			if at >= len(b.Kept) {
				b.Kept[:12][at] = api.Kept{Id: 55, Phase: api.PhServing, Zone: 9}
			}
		}
		was, room := brain.Own(b), slices.Clone(b.Kept[:12])
		c, l := Of(b), Zones(b)
		kept := slices.Clone(l)
		for at := range Zones(b) {
			l[at] = 1000
		}
		_ = append(l, 1000)
		if !slices.Equal(Zones(b), kept) || Of(b) != c {
			t.Fatal("an answer shares memory with another one")
		}
		Full(b)
		if !brain.Same(b, was) || !slices.Equal(b.Kept[:12], room) {
			t.Fatal("what is handed in is changed")
		}
		for at := range b.Kept {
			b.Kept[at].Zone = 2000
		}
		for at := range b.Intents {
			b.Intents[at].Zone = 2000
		}
		for _, n := range l {
			if n != 1000 {
				t.Fatal("an answer shares memory with what is handed in")
			}
		}
	}
}
