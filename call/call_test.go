package call

import (
	"fmt"
	"math"
	"math/rand/v2"
	"slices"
	"testing"

	"herd/api"
)

// least and greatest are the ends of Go's ints.
const least, greatest = math.MinInt, math.MaxInt

// top is the greatest number, and ends what an epoch's numbers are below.
const top, ends = 1 << 40, 1 << 20

// odd are no numbers.
var odd = []int{least, least + 1, -1 << 40, -1048576, -2, -1, top + 1, 1 << 60, greatest - 1, greatest}

// calls answers the calls of an epoch of which so many are open, each with the number that it has by its place: kinds from 1 to 7, keys from 100 on, sent at 10, 20, ..
func calls(epoch, many int) api.Calls {
	c := api.Calls{Epoch: epoch, Next: many + 1}
	for at := range many {
		c.Open = append(c.Open, api.Call{Id: epoch*ends + at + 1, Kind: uint8(at%7 + 1), Key: 100 + at, Sent: 10 * (at + 1)})
	}
	return c
}

// hold answers whether a and b hold the same, field by field.
func hold(a, b api.Calls) bool {
	return a.Epoch == b.Epoch && a.Next == b.Next && slices.Equal(a.Open, b.Open)
}

// rightly answers whether c may be, said anew: pair by pair.
func rightly(c api.Calls) bool {
	if c.Epoch < 0 || c.Epoch > 524288 || c.Next < 1 || c.Next > 1048576 {
		return false
	}
	for i, x := range c.Open {
		n := x.Id - c.Epoch*1048576
		if x.Id < 0 || n < 1 || n >= c.Next || x.Kind < 1 || x.Kind > 7 || x.Key < 0 || x.Key > top || x.Sent < 0 || x.Sent > top {
			return false
		}
		for _, y := range c.Open[:i] {
			if y.Id >= x.Id || y.Kind == x.Kind && y.Key == x.Key {
				return false
			}
		}
	}
	return true
}

// spoils answers by what calls of epoch 3, of which four are open and the next one is the tenth, become such as may not be.
func spoils() []func(c *api.Calls) {
	l := []func(c *api.Calls){
		func(c *api.Calls) { c.Epoch++ },
		func(c *api.Calls) { c.Epoch-- },
		func(c *api.Calls) { c.Epoch = 524289 },
		func(c *api.Calls) { c.Next = 0 },
		func(c *api.Calls) { c.Next = 1048577 },
		func(c *api.Calls) { c.Next = 4 },
		func(c *api.Calls) { c.Next = 1 },
		func(c *api.Calls) { c.Open[0].Id = 3 * ends },
		func(c *api.Calls) { c.Open[0].Id = 3*ends - 1 },
		func(c *api.Calls) { c.Open[0].Id = 1 },
		func(c *api.Calls) { c.Open[3].Id = 3*ends + 10 },
		func(c *api.Calls) { c.Open[3].Id = 4*ends + 4 },
		func(c *api.Calls) { c.Open[1].Id = c.Open[0].Id },
		func(c *api.Calls) { c.Open[2].Id = c.Open[1].Id - 1 },
		func(c *api.Calls) { c.Open[0], c.Open[1] = c.Open[1], c.Open[0] },
		func(c *api.Calls) { slices.Reverse(c.Open) },
		func(c *api.Calls) { c.Open[0].Kind = 0 },
		func(c *api.Calls) { c.Open[1].Kind = 8 },
		func(c *api.Calls) { c.Open[2].Kind = 255 },
		func(c *api.Calls) { c.Open[3].Kind, c.Open[3].Key = c.Open[0].Kind, c.Open[0].Key },
		func(c *api.Calls) { c.Open[1].Kind, c.Open[1].Key = c.Open[2].Kind, c.Open[2].Key },
		func(c *api.Calls) { c.Open = append(c.Open, api.Call{}) },
	}
	for _, n := range odd {
		l = append(l,
			func(c *api.Calls) { c.Epoch = n },
			func(c *api.Calls) { c.Next = n },
			func(c *api.Calls) { c.Open[0].Id = n },
			func(c *api.Calls) { c.Open[3].Id = n },
			func(c *api.Calls) { c.Open[1].Key = n },
			func(c *api.Calls) { c.Open[2].Sent = n })
	}
	return l
}

// wrong answers calls that may not be.
func wrong() []api.Calls {
	var l []api.Calls
	for _, spoil := range spoils() {
		c := calls(3, 4)
		c.Next = 10
		spoil(&c)
		l = append(l, c)
	}
	return append(l, api.Calls{}, api.Calls{Epoch: -1, Next: 1}, api.Calls{Epoch: 524289, Next: 1}, api.Calls{Epoch: 1, Open: []api.Call{}})
}

func TestP121Right(t *testing.T) {
	for _, c := range []api.Calls{
		{Next: 1}, {Next: 1, Open: []api.Call{}}, {Epoch: 524288, Next: 1048576}, {Epoch: 7, Next: 1048576},
		{Epoch: 524288, Next: 1048576, Open: []api.Call{{Id: 524288*ends + ends - 1, Kind: 7, Key: top, Sent: top}}},
		{Next: 2, Open: []api.Call{{Id: 1, Kind: 1}}},
		// The same kind, or the same key, but not both; sent in whatever order.
		{Epoch: 1, Next: 9, Open: []api.Call{{Id: ends + 1, Kind: 2, Key: 5, Sent: 9}, {Id: ends + 5, Kind: 2, Key: 6, Sent: 2}, {Id: ends + 8, Kind: 3, Key: 5}}},
		calls(0, 1), calls(1, 2), calls(3, 4), calls(524288, 7), calls(2, 500),
	} {
		if !Right(c) || !rightly(c) {
			t.Errorf("not right: %v", c)
		}
	}
	for at, c := range wrong() {
		if Right(c) || rightly(c) {
			t.Errorf("%d: right: %v", at, c)
		}
	}
}

func TestP121RightOfMany(t *testing.T) {
	// All numbers of an epoch may be open at a time.
	c := calls(524288, ends-1)
	if !Right(c) {
		t.Error("all numbers of an epoch")
	}
	c.Open[ends-2].Kind, c.Open[ends-2].Key = c.Open[0].Kind, c.Open[0].Key
	if Right(c) {
		t.Error("the last one asks what the first one does")
	}
	if c.Open = make([]api.Call, 3*ends); Right(c) {
		t.Error("more than there are numbers")
	}
}

func TestP121RightOfChance(t *testing.T) {
	r := rand.New(rand.NewPCG(12, 1))
	var seen [2]int
	for range 20000 {
		c := calls(r.IntN(3), r.IntN(5))
		c.Next += r.IntN(3) - 1
		for at := range c.Open {
			x := &c.Open[at]
			x.Id += r.IntN(8) / 7
			x.Kind, x.Key = uint8(r.IntN(24)/3+r.IntN(20)/19), r.IntN(9)-r.IntN(30)/29
		}
		want := rightly(c)
		if Right(c) != want {
			t.Fatalf("Right(%v) = %v", c, !want)
		}
		if want {
			seen[1]++
		} else {
			seen[0]++
		}
	}
	if seen[0] < 1000 || seen[1] < 1000 {
		t.Error("too few of one sort:", seen)
	}
}

func TestP121Begin(t *testing.T) {
	for _, epoch := range []int{0, 1, 2, 3, 1000, 524287, 524288} {
		if c, e := Begin(epoch); !hold(c, api.Calls{Epoch: epoch, Next: 1}) || e != api.OK || !Right(c) {
			t.Errorf("Begin(%d) = %v, %d", epoch, c, e)
		}
	}
	for _, epoch := range append(odd, 524289, 524290, 1048576) {
		if c, e := Begin(epoch); !hold(c, api.Calls{}) || e != api.ErrArg {
			t.Errorf("Begin(%d) = %v, %d", epoch, c, e)
		}
	}
}

func TestP121Find(t *testing.T) {
	c := calls(5, 9)
	// Some are closed.
	c.Open = slices.Delete(c.Open, 2, 4)
	for _, x := range c.Open {
		if y, ok := Find(c, x.Id); y != x || !ok {
			t.Errorf("Find(%d) = %v, %v", x.Id, y, ok)
		}
	}
	for _, id := range append(odd, 0, 1, 2, 5*ends, 5*ends+3, 5*ends+4, 5*ends+10, 5*ends+11, 6*ends+1, 4*ends+1) {
		if y, ok := Find(c, id); y != (api.Call{}) || ok {
			t.Errorf("Find(%d) = %v, %v", id, y, ok)
		}
	}
	for _, c := range []api.Calls{{}, {Next: 1}, {Next: 1, Open: []api.Call{}}} {
		if y, ok := Find(c, 0); y != (api.Call{}) || ok {
			t.Errorf("Find(%v) = %v, %v", c, y, ok)
		}
	}
}

func TestP121Has(t *testing.T) {
	c := calls(5, 9)
	c.Open = slices.Delete(c.Open, 2, 4)
	for kind := range 256 {
		for key := 90; key < 120; key++ {
			place := key - 100
			want := place >= 0 && place < 9 && place != 2 && place != 3 && kind == place%7+1
			if Has(c, uint8(kind), key) != want {
				t.Errorf("Has(%d, %d) = %v", kind, key, !want)
			}
		}
		for _, key := range append(odd, 0, 1) {
			if Has(c, uint8(kind), key) || Has(api.Calls{}, uint8(kind), key) {
				t.Errorf("Has(%d, %d)", kind, key)
			}
		}
	}
}

func TestP121OfWhatMayNotBe(t *testing.T) {
	// What is there is found there, too.
	for at, c := range wrong() {
		for i, x := range c.Open {
			if y, ok := Find(c, x.Id); !ok || y.Id != x.Id || slices.Index(c.Open, y) > i || !Has(c, x.Kind, x.Key) {
				t.Errorf("%d: Find(%v, %d) = %v, %v", at, c, x.Id, y, ok)
			}
		}
		if _, ok := Find(c, 3*ends+9); ok || Has(c, 7, 99) {
			t.Errorf("%d: something else is found in %v", at, c)
		}
	}
}

func TestP121Same(t *testing.T) {
	for _, c := range append(wrong(), calls(0, 0), calls(1, 1), calls(3, 4), calls(524288, 60)) {
		o := c
		o.Open = slices.Clone(c.Open)
		if !Same(c, c) || !Same(c, o) || !Same(o, c) {
			t.Errorf("not the same: %v", c)
		}
	}
	if !Same(api.Calls{Next: 1}, api.Calls{Next: 1, Open: []api.Call{}}) || !Same(api.Calls{Open: []api.Call{}}, api.Calls{}) {
		t.Error("nil and empty are not the same")
	}
	for at, put := range []func(c *api.Calls){
		func(c *api.Calls) { c.Epoch++ },
		func(c *api.Calls) { c.Next++ },
		func(c *api.Calls) { c.Open = nil },
		func(c *api.Calls) { c.Open = c.Open[:3] },
		func(c *api.Calls) { c.Open = c.Open[1:] },
		func(c *api.Calls) { c.Open = append(c.Open, api.Call{}) },
		func(c *api.Calls) { slices.Reverse(c.Open) },
		func(c *api.Calls) { c.Open[0].Id++ },
		func(c *api.Calls) { c.Open[1].Kind++ },
		func(c *api.Calls) { c.Open[2].Key++ },
		func(c *api.Calls) { c.Open[3].Sent++ },
	} {
		c := calls(3, 4)
		put(&c)
		if Same(c, calls(3, 4)) || Same(calls(3, 4), c) {
			t.Errorf("%d: the same: %v", at, c)
		}
	}
}

// opened tells in t, if Open answers something else than these.
func opened(t *testing.T, c api.Calls, kind uint8, key, now int, want api.Calls, number int, code api.Errno) {
	t.Helper()
	if o, id, e := Open(c, kind, key, now); !hold(o, want) || id != number || e != code {
		t.Errorf("Open(%v, %d, %d, %d) = %v, %d, %d, not %v, %d, %d", c, kind, key, now, o, id, e, want, number, code)
	}
}

// with answers c behind the opening of a call of its next number.
func with(c api.Calls, kind uint8, key, now int) api.Calls {
	c.Open = append(slices.Clone(c.Open), api.Call{Id: c.Epoch*ends + c.Next, Kind: kind, Key: key, Sent: now})
	c.Next++
	return c
}

func TestP122TheFirstOfEpoch2(t *testing.T) {
	c, _ := Begin(2)
	opened(t, c, api.AskLaunch, 7, 5, api.Calls{Epoch: 2, Next: 2, Open: []api.Call{{Id: 2097153, Kind: 1, Key: 7, Sent: 5}}}, 2097153, api.OK)
}

func TestP122Open(t *testing.T) {
	for _, epoch := range []int{0, 1, 2, 524288} {
		for _, many := range []int{0, 1, 2, 9, 60, 300} {
			c := calls(epoch, many)
			for kind := uint8(1); kind < 8; kind++ {
				for _, n := range []int{0, 1, 77, top - 1, top} {
					opened(t, c, kind, n, 5, with(c, kind, n, 5), epoch*ends+many+1, api.OK)
					opened(t, c, kind, 5, n, with(c, kind, 5, n), epoch*ends+many+1, api.OK)
				}
			}
		}
	}
	// The number does not hang on those that are closed, but on the next one's.
	c := api.Calls{Epoch: 1, Next: 900}
	opened(t, c, 1, 1, 1, with(c, 1, 1, 1), ends+900, api.OK)
	c.Open = []api.Call{{Id: ends + 4, Kind: 1, Key: 2}}
	opened(t, c, 1, 1, 1, with(c, 1, 1, 1), ends+900, api.OK)
	// What is open may be of the same kind, or of the same key.
	opened(t, c, 1, 3, 0, with(c, 1, 3, 0), ends+900, api.OK)
	opened(t, c, 2, 2, 0, with(c, 2, 2, 0), ends+900, api.OK)
}

func TestP122ErrArg(t *testing.T) {
	for _, c := range []api.Calls{calls(0, 0), calls(3, 4), {Epoch: 2, Next: ends}, {Epoch: 524288, Next: ends, Open: calls(524288, 3).Open}} {
		for kind := 8; kind <= 256; kind++ {
			opened(t, c, uint8(kind), 1, 1, c, 0, api.ErrArg)
		}
		for _, n := range odd {
			opened(t, c, 1, n, 1, c, 0, api.ErrArg)
			opened(t, c, 1, 1, n, c, 0, api.ErrArg)
			opened(t, c, 0, n, n, c, 0, api.ErrArg)
		}
		for _, x := range c.Open {
			opened(t, c, x.Kind, x.Key, x.Sent+1, c, 0, api.ErrArg)
		}
	}
	for _, c := range wrong() {
		opened(t, c, 1, 1, 1, c, 0, api.ErrArg)
		opened(t, c, 0, -1, -1, c, 0, api.ErrArg)
	}
	c := api.Calls{Epoch: 524289, Next: ends}
	opened(t, c, 1, 1, 1, c, 0, api.ErrArg)
}

func TestP122ErrNumbers(t *testing.T) {
	for _, epoch := range []int{0, 1, 524288} {
		// The last number of an epoch is told, and then no more.
		c := api.Calls{Epoch: epoch, Next: ends - 1, Open: calls(epoch, 3).Open}
		opened(t, c, 7, 1, 1, with(c, 7, 1, 1), epoch*ends+ends-1, api.OK)
		c, _, _ = Open(c, 7, 1, 1)
		opened(t, c, 7, 2, 1, c, 0, api.ErrNumbers)
		opened(t, c, 7, 1, 1, c, 0, api.ErrArg)
		// Neither behind all that are open are closed.
		c.Open = nil
		opened(t, c, 7, 1, 1, c, 0, api.ErrNumbers)
	}
}

func TestP123Close(t *testing.T) {
	for _, many := range []int{0, 1, 2, 3, 60} {
		for at := range many {
			want := calls(4, many)
			want.Open = slices.Delete(want.Open, at, at+1)
			if o := Close(calls(4, many), 4*ends+at+1); !hold(o, want) {
				t.Errorf("Close(%d) = %v, not %v", at+1, o, want)
			}
			// It is closed once.
			if o := Close(want, 4*ends+at+1); !hold(o, want) {
				t.Errorf("closed twice: %v, not %v", o, want)
			}
		}
		for _, id := range append(odd, 0, 1, many, 4*ends, 4*ends+many+1, 4*ends+many+2, 5*ends+1, 3*ends+1) {
			if o := Close(calls(4, many), id); !hold(o, calls(4, many)) {
				t.Errorf("Close(%d) = %v", id, o)
			}
		}
	}
	for _, c := range wrong() {
		for _, id := range []int{0, 1, 3*ends + 1, 3*ends + 2, 3*ends + 3, 3*ends + 4} {
			if o := Close(c, id); !hold(o, c) {
				t.Errorf("Close(%v, %d) = %v", c, id, o)
			}
		}
	}
}

// late tells in t, if Late answers something else than c with these of its open calls, by their places.
func late(t *testing.T, c api.Calls, now, timeout int, places ...int) {
	t.Helper()
	want := api.Calls{Epoch: c.Epoch, Next: c.Next}
	for _, at := range places {
		want.Open = append(want.Open, c.Open[at])
	}
	if o := Late(c, now, timeout); !hold(o, want) {
		t.Errorf("Late(%v, %d, %d) = %v, not %v", c, now, timeout, o, want)
	}
}

func TestP123Late(t *testing.T) {
	// Sent at 10, 20, 30, 40.
	c := calls(3, 4)
	late(t, c, 0, 0, 0, 1, 2, 3)
	late(t, c, 9, 0, 0, 1, 2, 3)
	late(t, c, 10, 0, 1, 2, 3)
	late(t, c, 39, 0, 3)
	late(t, c, 40, 0)
	late(t, c, 14, 5, 0, 1, 2, 3)
	late(t, c, 15, 5, 1, 2, 3)
	late(t, c, 34, 5, 2, 3)
	late(t, c, 35, 5, 3)
	late(t, c, 45, 5)
	late(t, c, top, 5)
	late(t, c, top, top-10, 1, 2, 3)
	late(t, c, top, top-11, 1, 2, 3)
	late(t, c, top, top-9, 0, 1, 2, 3)
	late(t, c, top, top, 0, 1, 2, 3)
	late(t, c, 0, top, 0, 1, 2, 3)
	// Those that are late need not be ahead of the others.
	c.Open[0].Sent, c.Open[2].Sent = 300, 0
	late(t, c, 24, 4, 0, 3)
	late(t, c, 4, 4, 0, 1, 3)
	late(t, c, 303, 4, 0)
	c.Open[1].Sent, c.Open[3].Sent = top, top
	late(t, c, top, 0)
	late(t, c, top, 1, 1, 3)
	late(t, c, top, top, 0, 1, 3)
	late(t, calls(524288, 0), 5, 1)
}

func TestP123LateAsItIs(t *testing.T) {
	for _, n := range odd {
		late(t, calls(3, 4), n, 1, 0, 1, 2, 3)
		late(t, calls(3, 4), top, n, 0, 1, 2, 3)
		late(t, calls(3, 4), n, n, 0, 1, 2, 3)
		late(t, calls(3, 0), n, n)
	}
	for _, c := range wrong() {
		for _, now := range []int{-1, 0, 35, top, top + 1} {
			if o := Late(c, now, 0); !hold(o, c) {
				t.Errorf("Late(%v, %d, 0) = %v", c, now, o)
			}
		}
	}
}

// model answers what is open, said anew: by the number.
type model struct {
	c    api.Calls
	open map[int]api.Call
	told map[int]int
	now  int
}

// step does something of chance to m, as often as it may be, and tells in t what is otherwise than it is to be.
func (m *model) step(t *testing.T, r *rand.Rand) {
	t.Helper()
	var e api.Errno
	switch r.IntN(5) {
	case 0, 1:
		x := api.Call{Kind: uint8(r.IntN(8)), Key: r.IntN(6) - r.IntN(20)/19, Sent: m.now}
		may := x.Kind > 0 && x.Key >= 0
		for _, y := range m.open {
			may = may && (y.Kind != x.Kind || y.Key != x.Key)
		}
		if m.c, x.Id, e = Open(m.c, x.Kind, x.Key, m.now); (e == api.OK) != may || (x.Id > 0) != may {
			t.Fatalf("opened: %v, %d; %v", x, e, m.open)
		}
		if may {
			m.open[x.Id] = x
			m.told[x.Id]++
		}
	case 2:
		id := m.c.Epoch*ends + m.c.Next - r.IntN(30)
		m.c = Close(m.c, id)
		delete(m.open, id)
	case 3:
		timeout := r.IntN(40)
		m.c = Late(m.c, m.now, timeout)
		for id, x := range m.open {
			if m.now-x.Sent >= timeout {
				delete(m.open, id)
			}
		}
	case 4:
		m.now += r.IntN(6)
	}
}

func TestP124WhateverIsDone(t *testing.T) {
	r := rand.New(rand.NewPCG(12, 4))
	told := map[int]int{}
	for epoch := range 20 {
		m := model{open: map[int]api.Call{}, told: told}
		var e api.Errno
		if m.c, e = Begin(epoch); e != api.OK {
			t.Fatal(epoch, e)
		}
		for range 1000 {
			m.step(t, r)
			if !Right(m.c) || len(m.c.Open) != len(m.open) {
				t.Fatalf("%v, not %v", m.c, m.open)
			}
			for id, x := range m.open {
				if y, ok := Find(m.c, id); y != x || !ok || !Has(m.c, x.Kind, x.Key) {
					t.Fatalf("Find(%v, %d) = %v, %v", m.c, id, y, ok)
				}
			}
		}
	}
	for id, many := range told {
		if many != 1 {
			t.Errorf("%d was told %d times", id, many)
		}
	}
	if len(told) < 1000 {
		t.Error("too few:", len(told))
	}
}

func TestP124EpochsApart(t *testing.T) {
	// The last number of an epoch is below the first one of the next.
	for _, epoch := range []int{0, 1, 524287} {
		_, last, e := Open(api.Calls{Epoch: epoch, Next: ends - 1}, 1, 1, 1)
		c, _ := Begin(epoch + 1)
		if _, first, f := Open(c, 1, 1, 1); last >= first || e != api.OK || f != api.OK {
			t.Errorf("%d: %d, %d; %d, %d", epoch, last, e, first, f)
		}
	}
}

func TestP124ANumberIsNotToldAgain(t *testing.T) {
	// Neither behind its call is closed, nor behind it is late, nor behind an error.
	c, first, _ := Open(api.Calls{Epoch: 1, Next: 1}, 1, 1, 1)
	c, second, _ := Open(Close(c, first), 1, 1, 1)
	c, third, _ := Open(Late(c, 9, 1), 1, 1, 1)
	c, none, _ := Open(c, 1, 1, 1)
	_, fourth, _ := Open(c, 1, 2, 1)
	if first != ends+1 || second != ends+2 || third != ends+3 || none != 0 || fourth != ends+4 {
		t.Error(first, second, third, none, fourth)
	}
}

// answers answers all that answer calls, as functions of them.
func answers() map[string]func(c api.Calls) api.Calls {
	return map[string]func(c api.Calls) api.Calls{
		"Open":                func(c api.Calls) api.Calls { o, _, _ := Open(c, 1, 1, 1); return o },
		"Open of nothing":     func(c api.Calls) api.Calls { o, _, _ := Open(c, 0, 1, 1); return o },
		"Open of what is so":  func(c api.Calls) api.Calls { o, _, _ := Open(c, 1, 100, 1); return o },
		"Close":               func(c api.Calls) api.Calls { return Close(c, 3*ends+2) },
		"Close of the last":   func(c api.Calls) api.Calls { return Close(c, 3*ends+len(c.Open)) },
		"Close of none":       func(c api.Calls) api.Calls { return Close(c, 0) },
		"Late":                func(c api.Calls) api.Calls { return Late(c, 25, 5) },
		"Late of all":         func(c api.Calls) api.Calls { return Late(c, top, 0) },
		"Late of none":        func(c api.Calls) api.Calls { return Late(c, 0, 0) },
		"Late of no timeout":  func(c api.Calls) api.Calls { return Late(c, 25, -1) },
		"Open with no number": func(c api.Calls) api.Calls { c.Next = ends; o, _, _ := Open(c, 1, 1, 1); return o },
	}
}

func TestR4Memory(t *testing.T) {
	for name, f := range answers() {
		for _, many := range []int{0, 1, 2, 4, 60} {
			for _, next := range []int{many + 1, 0} {
				c := calls(3, many)
				c.Next = next
				want := calls(3, many)
				want.Next = next
				c.Open = slices.Grow(c.Open, 9)
				o := f(c)
				told := fmt.Sprint(o)
				if !hold(c, want) || c.Open[:many+1][many] != (api.Call{}) {
					t.Errorf("%s changes what it is given: %v", name, c)
				}
				// What is changed in one is not changed in the other, spare room included.
				for at := range c.Open {
					c.Open[at].Key = -1
				}
				_ = append(c.Open, api.Call{Key: -1})
				if fmt.Sprint(o) != told {
					t.Errorf("what %s answers shares memory", name)
				}
				for at := range o.Open {
					o.Open[at].Key = -2
				}
				_ = append(o.Open, api.Call{Key: -2}, api.Call{Key: -2})
				for _, x := range c.Open[:many+1] {
					if x.Key != -1 {
						t.Errorf("what %s answers shares memory", name)
					}
				}
			}
		}
	}
}
