package event

import (
	"math"
	"math/rand/v2"
	"slices"
	"testing"

	"herd/api"
	"herd/cloud"
)

// least and greatest are the ends of Go's ints.
const least, greatest = math.MinInt, math.MaxInt

// odd are no numbers, and ids of no box.
var odd = []int{least, least + 1, -1 << 40, -1, 1<<40 + 1, greatest - 1, greatest}

// group answers a cloud of six boxes: one that is counted, one that is not well, one that drains till 51, one that is gone, one that is off, and a stray one.
func group() api.Cloud {
	return api.Cloud{
		Boxes: []api.Box{
			{Id: 1, Token: 11, Version: 21, Zone: 31, Tag: true, On: true, Well: true, Lb: api.LbIn, Fence: 5},
			{Id: 2, Token: 12, Tag: true, On: true, Lb: api.LbIn, Until: 9},
			{Id: 3, Token: 13, Tag: true, On: true, Well: true, Lb: api.LbDrain, Until: 51, Fence: 7},
			{Id: 4, Token: 14, Tag: true, Gone: true, Well: true, Until: 3, Fence: 8},
			{Id: 5, Token: 1 << 40, Version: 1 << 40, Zone: 1 << 40, Tag: true, Well: true},
			{Id: 6, On: true, Well: true},
		},
		Floor: 1, Drain: 5, Now: 50,
	}
}

// behind answers group behind put.
func behind(put func(c *api.Cloud)) api.Cloud {
	c := group()
	put(&c)
	return c
}

// many answers a cloud of so many boxes.
func many(n int) api.Cloud {
	var c api.Cloud
	for at := range n {
		c.Boxes = append(c.Boxes, api.Box{Id: at + 1, Token: 100 + at, Tag: true, On: true, Well: true, Lb: api.LbIn})
	}
	return c
}

// wrongs answers clouds that may not be.
func wrongs() []api.Cloud {
	return []api.Cloud{
		behind(func(c *api.Cloud) { c.Floor = -1 }),
		behind(func(c *api.Cloud) { c.Drain = 1<<40 + 1 }),
		behind(func(c *api.Cloud) { c.Now = least }),
		behind(func(c *api.Cloud) { c.Boxes[0].Id = 2 }),
		behind(func(c *api.Cloud) { c.Boxes[5].Token = 11 }),
		behind(func(c *api.Cloud) { c.Boxes[3].Version = -1 }),
		behind(func(c *api.Cloud) { c.Boxes[3].On = true }),
		behind(func(c *api.Cloud) { c.Boxes[4].Lb = api.LbDrain }),
		behind(func(c *api.Cloud) { c.Boxes[2].Lb = 3 }),
		behind(func(c *api.Cloud) { slices.Reverse(c.Boxes) }),
		many(61), many(1000),
	}
}

// events answers one of each kind there is, each of which does something to group, and some of other kinds.
func events() []api.Event {
	return []api.Event{
		{Kind: api.EvDie, A: 1}, {Kind: api.EvFlip, A: 1}, {Kind: api.EvStray, A: 1, B: 1},
		{Kind: api.EvTight}, {Kind: api.EvTick}, {Kind: api.EvFloor, A: 2, B: 3}, {Kind: 0, A: 1}, {Kind: 7, A: 1}, {Kind: 255, A: 1},
	}
}

// is tells in t, if c behind e is not want, by Do or by All.
func is(t *testing.T, c api.Cloud, e api.Event, want api.Cloud) {
	t.Helper()
	if o := Do(c, e); !cloud.Same(o, want) {
		t.Errorf("Do(%v, %v) = %v, not %v", c, e, o, want)
	}
	if o := All(c, e); !cloud.Same(o, want) {
		t.Errorf("All(%v, %v) = %v, not %v", c, e, o, want)
	}
}

func TestP101Die(t *testing.T) {
	for id := 1; id <= 6; id++ {
		is(t, group(), api.Event{Kind: api.EvDie, A: id, B: 9}, behind(func(c *api.Cloud) {
			b := &c.Boxes[id-1]
			b.Gone, b.On, b.Lb = true, false, api.LbOut
		}))
	}
	for _, id := range append(odd, 0, 7, 51) {
		is(t, group(), api.Event{Kind: api.EvDie, A: id}, group())
	}
}

func TestP101Flip(t *testing.T) {
	for _, id := range []int{1, 2, 3, 5, 6} {
		e := api.Event{Kind: api.EvFlip, A: id, B: 9}
		is(t, group(), e, behind(func(c *api.Cloud) { c.Boxes[id-1].Well = !c.Boxes[id-1].Well }))
		is(t, Do(group(), e), e, group())
	}
	for _, id := range append(odd, 0, 4, 7) {
		is(t, group(), api.Event{Kind: api.EvFlip, A: id}, group())
	}
}

func TestP101Stray(t *testing.T) {
	for _, version := range []int{0, 1, 9, 1<<40 - 1, 1 << 40} {
		for _, tag := range append(odd, 0, 1, 2) {
			is(t, group(), api.Event{Kind: api.EvStray, A: version, B: tag}, behind(func(c *api.Cloud) {
				c.Boxes = append(c.Boxes, api.Box{Id: 7, Version: version, Tag: tag != 0, On: true, Well: true})
			}))
		}
	}
	for _, version := range odd {
		is(t, group(), api.Event{Kind: api.EvStray, A: version, B: 1}, group())
	}
}

func TestP101StrayHasRoom(t *testing.T) {
	e := api.Event{Kind: api.EvStray, A: 5, B: 1}
	for n := range api.MaxBoxes {
		c := many(n)
		c.Tight = n%2 > 0
		want := cloud.Own(c)
		want.Boxes = append(want.Boxes, api.Box{Id: n + 1, Version: 5, Tag: true, On: true, Well: true})
		is(t, c, e, want)
	}
	is(t, many(60), e, many(60))
	// Gone ones take room, too.
	c := many(60)
	c.Boxes[3] = api.Box{Id: 4, Gone: true}
	is(t, c, e, c)
}

func TestP101Tight(t *testing.T) {
	tight := behind(func(c *api.Cloud) { c.Tight = true })
	for _, n := range append(odd, 0, 1) {
		is(t, group(), api.Event{Kind: api.EvTight, A: n, B: n}, tight)
		is(t, tight, api.Event{Kind: api.EvTight, A: n, B: n}, group())
	}
}

func TestP101Tick(t *testing.T) {
	for _, now := range []int{0, 1, 7, 50, 1<<40 - 2, 1<<40 - 1} {
		for _, until := range append(odd, 0, now-1, now, now+1, now+2, now+3) {
			c := behind(func(c *api.Cloud) { c.Now, c.Boxes[2].Until, c.Boxes[0].Until = now, until, until })
			want := cloud.Own(c)
			want.Now++
			if until <= now+1 {
				want.Boxes[2].Lb = api.LbOut
			}
			is(t, c, api.Event{Kind: api.EvTick, A: 9, B: -9}, want)
		}
	}
}

func TestP101TickTakesOutAll(t *testing.T) {
	c, want := many(60), many(60)
	want.Now = 1
	for at := range c.Boxes {
		b := &c.Boxes[at]
		b.Lb, b.Until, b.Well = uint8((at+2)%3), at/20, at%2 > 0
		want.Boxes[at] = *b
		if b.Lb == api.LbDrain && b.Until < 2 {
			want.Boxes[at].Lb = api.LbOut
		}
	}
	is(t, c, api.Event{Kind: api.EvTick}, want)
}

func TestP101TickAtTheEndOfTime(t *testing.T) {
	for _, until := range append(odd, 0, 1, 1<<40) {
		c := behind(func(c *api.Cloud) { c.Now, c.Boxes[2].Until = 1<<40, until })
		is(t, c, api.Event{Kind: api.EvTick}, c)
	}
}

func TestP101Floor(t *testing.T) {
	right := []int{0, 1, 6, 1<<40 - 1, 1 << 40}
	for _, a := range right {
		for _, b := range right {
			is(t, group(), api.Event{Kind: api.EvFloor, A: a, B: b}, behind(func(c *api.Cloud) { c.Floor, c.Drain = a, b }))
		}
		for _, n := range odd {
			is(t, group(), api.Event{Kind: api.EvFloor, A: a, B: n}, group())
			is(t, group(), api.Event{Kind: api.EvFloor, A: n, B: a}, group())
			is(t, group(), api.Event{Kind: api.EvFloor, A: n, B: n}, group())
		}
	}
}

func TestP101OtherKinds(t *testing.T) {
	for kind := range 256 {
		if kind >= 1 && kind <= 6 {
			continue
		}
		for _, n := range append(odd, 0, 1, 2, 3) {
			is(t, group(), api.Event{Kind: uint8(kind), A: n, B: n}, group())
		}
	}
}

func TestP101CloudsThatMayNotBe(t *testing.T) {
	for i, c := range wrongs() {
		if cloud.Right(c) {
			t.Errorf("%d: the cloud may be", i)
		}
		for _, e := range events() {
			is(t, c, e, c)
		}
		if !cloud.Same(All(c, events()...), c) || !cloud.Same(All(c), c) {
			t.Errorf("%d: All changed it", i)
		}
	}
	// An event that would make it one that may be does nothing, either.
	is(t, wrongs()[0], api.Event{Kind: api.EvFloor}, wrongs()[0])
}

func TestP101All(t *testing.T) {
	is(t, api.Cloud{}, api.Event{Kind: api.EvTick}, api.Cloud{Now: 1})
	for _, c := range []api.Cloud{{}, group(), many(60)} {
		if !cloud.Same(All(c), c) || !cloud.Same(All(c, []api.Event{}...), c) {
			t.Error("behind nothing:", All(c))
		}
	}
	// In order: the stray one is there ahead of its death, and not behind it.
	come, die := api.Event{Kind: api.EvStray, B: 1}, api.Event{Kind: api.EvDie, A: 1}
	want := api.Cloud{Boxes: []api.Box{{Id: 1, Tag: true, Gone: true, Well: true}}}
	if c := All(api.Cloud{}, come, die); !cloud.Same(c, want) {
		t.Error(c)
	}
	want.Boxes[0].Gone, want.Boxes[0].On = false, true
	if c := All(api.Cloud{}, die, come); !cloud.Same(c, want) {
		t.Error(c)
	}
	// What is nothing is passed over.
	if c := All(group(), api.Event{Kind: 9}, api.Event{Kind: api.EvTight}, api.Event{Kind: api.EvDie, A: 9}, api.Event{Kind: api.EvFloor, A: 3, B: 4}); !cloud.Same(c, behind(func(c *api.Cloud) { c.Tight, c.Floor, c.Drain = true, 3, 4 })) {
		t.Error(c)
	}
}

func TestP101AllOfManyEvents(t *testing.T) {
	ticks := make([]api.Event, 300000)
	for at := range ticks {
		ticks[at] = api.Event{Kind: api.EvTick}
	}
	want := group()
	want.Now, want.Boxes[2].Lb = 300050, api.LbOut
	if c := All(group(), ticks...); !cloud.Same(c, want) {
		t.Error(c)
	}
}

func TestP102Falls(t *testing.T) {
	for kind := range 256 {
		for _, n := range append(odd, 0, 1) {
			if Falls(api.Event{Kind: uint8(kind), A: n, B: n}) != (kind == 1 || kind == 2) {
				t.Errorf("of kind %d: %v", kind, kind > 2)
			}
		}
	}
}

// random answers any event.
func random(r *rand.Rand) api.Event {
	n := func() int {
		if r.IntN(8) == 0 {
			return odd[r.IntN(len(odd))]
		}
		return r.IntN(api.MaxBoxes + 2)
	}
	return api.Event{Kind: uint8(r.IntN(8)), A: n(), B: n()}
}

// holds tells in t, if what follows is not so of was and c, which is behind e.
func holds(t *testing.T, was, c api.Cloud, e api.Event) {
	t.Helper()
	if !cloud.Right(c) || len(c.Boxes) < len(was.Boxes) {
		t.Fatalf("behind %v: %v", e, c)
	}
	for at, b := range was.Boxes {
		if b.Gone && c.Boxes[at] != b {
			t.Fatalf("behind %v a gone one is %v", e, c.Boxes[at])
		}
	}
	fall := cloud.H(was) - cloud.H(c)
	if fall > 1 || fall > 0 && !Falls(e) {
		t.Fatalf("behind %v H fell by %d", e, fall)
	}
}

func TestP103WhateverHappens(t *testing.T) {
	r := rand.New(rand.NewPCG(10, 3))
	for range 300 {
		c := many(r.IntN(api.MaxBoxes + 1))
		var l []api.Event
		first := cloud.Own(c)
		for call := range 200 {
			if r.IntN(2) > 0 {
				c, _ = cloud.Do(c, api.Ask{Kind: uint8(r.IntN(8)), Call: call, A: r.IntN(62), B: 1})
				first, l = cloud.Own(c), nil
			}
			e := random(r)
			was := c
			c = Do(c, e)
			holds(t, was, c, e)
			l = append(l, e)
			if !cloud.Same(All(first, l...), c) {
				t.Fatalf("All(%v, %v) is not %v", first, l, c)
			}
		}
	}
}

func TestP103FallsAreThere(t *testing.T) {
	for _, kind := range []uint8{api.EvDie, api.EvFlip} {
		// Whatever the floor: nobody asked for it.
		c := behind(func(c *api.Cloud) { c.Floor = 9 })
		if h := cloud.H(Do(c, api.Event{Kind: kind, A: 1})); h != 0 {
			t.Errorf("behind kind %d H is %d", kind, h)
		}
	}
	if h := cloud.H(Do(group(), api.Event{Kind: api.EvFlip, A: 2})); h != 2 {
		t.Error("of one more that is well H is", h)
	}
}

func TestR4Memory(t *testing.T) {
	for _, e := range events() {
		given := append(group().Boxes, api.Box{Id: 77})
		was := slices.Clone(given)
		c := group()
		c.Boxes = given[:6]
		l := []api.Event{e, e}
		o, p, q := Do(c, e), Do(c, e), All(c, l...)
		none := All(c)
		for _, x := range []api.Cloud{o, q, none} {
			for at := range x.Boxes {
				x.Boxes[at].Id = 99
			}
			_ = append(x.Boxes, api.Box{Id: 88})
		}
		if !slices.Equal(given, was) || p.Boxes[0].Id != 1 || l[0] != e || l[1] != e {
			t.Error("memory is shared:", given, p, l)
		}
	}
	// Of one that may not be, too.
	c := wrongs()[0]
	o, p := Do(c, api.Event{Kind: api.EvTick}), All(c)
	o.Boxes[0].Id, p.Boxes[1].Id = 99, 99
	if c.Boxes[0].Id != 1 || c.Boxes[1].Id != 2 {
		t.Error("memory is shared:", c)
	}
}
