package cloud

import (
	"math"
	"math/rand/v2"
	"slices"
	"testing"

	"herd/api"
)

// least and greatest are the ends of Go's ints: what is worked out with them goes round.
const least, greatest = math.MinInt, math.MaxInt

// noNumbers are none; ends are numbers at the edges.
var (
	noNumbers = []int{least, least + 1, -1 << 40, -1, 1<<40 + 1, 1 << 41, greatest - 1, greatest}
	ends      = []int{0, 1, 2, 1<<40 - 1, 1 << 40}
)

// group answers a cloud of nine boxes, one of each kind that asks tell apart: two that are counted, one in that is not well, one that drains, one that is out, one that is off, a gone one, a stray one without the tag, and one that is counted. Its floor is 2.
func group() api.Cloud {
	return api.Cloud{
		Boxes: []api.Box{
			{Id: 1, Token: 11, Version: 1, Zone: 0, Tag: true, On: true, Well: true, Lb: api.LbIn, Fence: 10},
			{Id: 2, Token: 12, Version: 1, Zone: 1, Tag: true, On: true, Well: true, Lb: api.LbIn, Fence: 20},
			{Id: 3, Token: 13, Version: 1, Zone: 2, Tag: true, On: true, Lb: api.LbIn, Fence: 30},
			{Id: 4, Token: 14, Version: 2, Zone: 3, Tag: true, On: true, Well: true, Lb: api.LbDrain, Until: 55, Fence: 40},
			{Id: 5, Token: 15, Version: 2, Tag: true, On: true, Well: true, Fence: 50},
			{Id: 6, Token: 16, Version: 2, Tag: true, Well: true, Until: 7, Fence: 60},
			{Id: 7, Token: 17, Version: 1, Tag: true, Gone: true, Well: true, Fence: 70},
			{Id: 8, Version: 3, On: true, Well: true},
			{Id: 9, Token: 19, Version: 2, Zone: 1, Tag: true, On: true, Well: true, Lb: api.LbIn, Fence: 90},
		},
		Floor: 2, Drain: 5, Now: 50,
	}
}

// many answers a cloud of so many boxes, out and on, each of a token of its own.
func many(n int) api.Cloud {
	var c api.Cloud
	for at := range n {
		c.Boxes = append(c.Boxes, api.Box{Id: at + 1, Token: 100 + at, Tag: true, On: true, Well: true})
	}
	return c
}

// with answers group's cloud behind what put does to it.
func with(put func(c *api.Cloud)) api.Cloud {
	c := group()
	put(&c)
	return c
}

// box answers group's cloud, its box at a place being behind what put does to it.
func box(at int, put func(b *api.Box)) api.Cloud {
	return with(func(c *api.Cloud) { put(&c.Boxes[at]) })
}

// like tells whether a and b are the same, field by field.
func like(a, b api.Cloud) bool {
	return a.Floor == b.Floor && a.Drain == b.Drain && a.Now == b.Now && a.Tight == b.Tight && slices.Equal(a.Boxes, b.Boxes)
}

// tells answers whether t is of a, with that code and id, and nothing else.
func tells(t api.Tell, a api.Ask, code uint8, id int) bool {
	return t.Call == a.Call && t.Kind == a.Kind && t.Code == code && t.Id == id && len(t.Seen) == 0 && !t.More
}

// isDone tells in t, if a, asked of c, does not lead to the cloud want and to what is told by code and id.
func isDone(t *testing.T, what string, c api.Cloud, a api.Ask, want api.Cloud, code uint8, id int) {
	t.Helper()
	was := Own(c)
	o, told := Do(c, a)
	if !like(o, want) {
		t.Errorf("%s: %v leads to\n%v, not to\n%v", what, a, o, want)
	}
	if !tells(told, a, code, id) {
		t.Errorf("%s: %v tells %v, not %d of %d", what, a, told, code, id)
	}
	if !like(c, was) {
		t.Errorf("%s: %v changed what was handed in", what, a)
	}
}

// rightIs tells in t, if Right of c is not as it is to be.
func rightIs(t *testing.T, what string, want bool, c api.Cloud) {
	t.Helper()
	if Right(c) != want {
		t.Errorf("%s: Right = %v of %v", what, !want, c)
	}
}

func TestP81RightOfAll(t *testing.T) {
	rightIs(t, "nothing", true, api.Cloud{})
	rightIs(t, "empty", true, api.Cloud{Boxes: []api.Box{}, Tight: true})
	rightIs(t, "group", true, group())
	for n := range 61 {
		rightIs(t, "as many", true, many(n))
	}
	for _, n := range []int{61, 62, 120, 100000} {
		rightIs(t, "too many", false, many(n))
	}
	parts := []func(c *api.Cloud, n int){
		func(c *api.Cloud, n int) { c.Floor = n },
		func(c *api.Cloud, n int) { c.Drain = n },
		func(c *api.Cloud, n int) { c.Now = n },
		func(c *api.Cloud, n int) { c.Boxes[4].Version = n },
		func(c *api.Cloud, n int) { c.Boxes[8].Zone = n },
		func(c *api.Cloud, n int) { c.Boxes[0].Token = n },
		func(c *api.Cloud, n int) { c.Boxes[6].Token = n },
	}
	for _, put := range parts {
		for _, n := range ends {
			rightIs(t, "edge", true, with(func(c *api.Cloud) { put(c, n) }))
		}
		for _, n := range noNumbers {
			rightIs(t, "no number", false, with(func(c *api.Cloud) { put(c, n) }))
		}
	}
	// What bounds no field: till when it drains, and its fence.
	for _, n := range append(ends, noNumbers...) {
		rightIs(t, "Until", true, box(1, func(b *api.Box) { b.Until = n }))
		rightIs(t, "Fence", true, box(1, func(b *api.Box) { b.Fence = n }))
	}
}

func TestP81RightOfIds(t *testing.T) {
	for at := range group().Boxes {
		for _, n := range append([]int{0, at, at + 2, 10, 60, 61}, noNumbers...) {
			rightIs(t, "Id", false, box(at, func(b *api.Box) { b.Id = n }))
		}
	}
	rightIs(t, "turned", false, with(func(c *api.Cloud) { slices.Reverse(c.Boxes) }))
	rightIs(t, "without the first", false, with(func(c *api.Cloud) { c.Boxes = c.Boxes[1:] }))
	rightIs(t, "without the last", true, with(func(c *api.Cloud) { c.Boxes = c.Boxes[:8] }))
}

func TestP81RightOfTokens(t *testing.T) {
	for i := range group().Boxes {
		for j := range i {
			for _, token := range []int{0, 1, 99, 1 << 40} {
				c := with(func(c *api.Cloud) { c.Boxes[i].Token, c.Boxes[j].Token = token, token })
				rightIs(t, "the same token", token == 0, c)
			}
		}
	}
	c := many(60)
	c.Boxes[59].Token = c.Boxes[0].Token
	rightIs(t, "the first's token", false, c)
	for at := range c.Boxes {
		c.Boxes[at].Token = 0
	}
	rightIs(t, "no tokens", true, c)
}

func TestP81RightOfStates(t *testing.T) {
	for bits := range 16 {
		for lb := range 256 {
			b := api.Box{Id: 1, Tag: bits&1 > 0, On: bits&2 > 0, Gone: bits&4 > 0, Well: bits&8 > 0, Lb: uint8(lb)}
			want := false
			switch lb {
			case 0:
				want = !b.Gone || !b.On
			case 1, 2:
				want = b.On && !b.Gone
			}
			rightIs(t, "state", want, api.Cloud{Boxes: []api.Box{b}})
			if Counted(b) != (b.On && b.Well && lb == 1) {
				t.Errorf("%v: Counted = %v", b, Counted(b))
			}
			if (H(api.Cloud{Boxes: []api.Box{b}}) == 1) != Counted(b) {
				t.Errorf("%v: H and Counted are not at one", b)
			}
		}
	}
}

func TestP81H(t *testing.T) {
	c := group()
	if H(c) != 3 || H(api.Cloud{}) != 0 || H(many(60)) != 0 {
		t.Error(H(c), H(api.Cloud{}), H(many(60)))
	}
	c.Boxes[2].Well = true
	if H(c) != 4 {
		t.Error(H(c))
	}
	c.Boxes[0].On = false
	if H(c) != 3 {
		t.Error(H(c))
	}
	long := many(1000)
	for at := range long.Boxes {
		long.Boxes[at].Lb = api.LbIn
	}
	if H(long) != 1000 {
		t.Error("of too many boxes:", H(long))
	}
}

func TestP81Find(t *testing.T) {
	for id, want := range map[int]int{1: 0, 2: 1, 6: 5, 7: -1, 8: 7, 9: 8, 10: -1, 0: -1, -1: -1, 11: -1, least: -1, greatest: -1} {
		if n := Find(group(), id); n != want {
			t.Errorf("Find(%d) = %d, not %d", id, n, want)
		}
	}
	if Find(api.Cloud{}, 1) != -1 || Find(api.Cloud{}, 0) != -1 || Find(many(60), 60) != 59 || Find(many(60), 61) != -1 {
		t.Error("of nothing, or of all there may be")
	}
	// Of a cloud that may not be the first one that is of that id and not gone.
	c := api.Cloud{Boxes: []api.Box{{Id: 7, Gone: true}, {Id: -3}, {Id: 7, On: true}, {Id: 7}, {Id: 1}}}
	if Find(c, 7) != 2 || Find(c, -3) != 1 || Find(c, 1) != 4 || Find(c, 2) != -1 || Find(many(1000), 1000) != 999 {
		t.Error("of a cloud that may not be")
	}
}

func TestP81Own(t *testing.T) {
	given := append(many(10).Boxes, api.Box{Id: 77})
	c := api.Cloud{Boxes: given[:10], Floor: 1, Drain: 2, Now: 3, Tight: true}
	was := slices.Clone(given)
	o, p := Own(c), Own(c)
	if !like(o, c) || !like(p, c) {
		t.Error("Own tells another cloud:", o, p)
	}
	o.Boxes[0].Id = 99
	o.Boxes = append(o.Boxes, api.Box{Id: 88})
	if !slices.Equal(given, was) || p.Boxes[0].Id != 1 {
		t.Error("Own shares memory:", given, p)
	}
	odd := api.Cloud{Boxes: []api.Box{{Id: -1, Lb: 9, Gone: true, On: true}}, Floor: -1, Drain: least, Now: greatest}
	if !like(Own(odd), odd) || !like(Own(api.Cloud{}), api.Cloud{}) || len(Own(many(1000)).Boxes) != 1000 {
		t.Error("Own of a cloud that may not be, or of nothing")
	}
}

func TestP81Same(t *testing.T) {
	if !Same(group(), group()) || !Same(api.Cloud{}, api.Cloud{Boxes: []api.Box{}}) || !Same(many(1000), many(1000)) {
		t.Error("not the same as itself")
	}
	others := []api.Cloud{
		{}, many(9), many(60),
		with(func(c *api.Cloud) { c.Floor = 3 }),
		with(func(c *api.Cloud) { c.Drain = 6 }),
		with(func(c *api.Cloud) { c.Now = 51 }),
		with(func(c *api.Cloud) { c.Tight = true }),
		with(func(c *api.Cloud) { c.Boxes = c.Boxes[:8] }),
		with(func(c *api.Cloud) { c.Boxes = append(c.Boxes, api.Box{}) }),
		with(func(c *api.Cloud) { c.Boxes[0], c.Boxes[1] = c.Boxes[1], c.Boxes[0] }),
	}
	for _, at := range []int{0, 8} {
		for _, put := range []func(b *api.Box){
			func(b *api.Box) { b.Id = -1 }, func(b *api.Box) { b.Token = 5 }, func(b *api.Box) { b.Version = 5 },
			func(b *api.Box) { b.Zone = 5 }, func(b *api.Box) { b.Tag = !b.Tag }, func(b *api.Box) { b.On = !b.On },
			func(b *api.Box) { b.Gone = !b.Gone }, func(b *api.Box) { b.Well = !b.Well }, func(b *api.Box) { b.Lb = 2 },
			func(b *api.Box) { b.Until = 5 }, func(b *api.Box) { b.Fence = 5 },
		} {
			others = append(others, box(at, put))
		}
	}
	for i, a := range append(others, group()) {
		for j, b := range others {
			if Same(a, b) != (i == j) || Same(b, a) != (i == j) {
				t.Errorf("of %d and %d Same is %v", i, j, Same(a, b))
			}
		}
	}
}

func TestP82Launch(t *testing.T) {
	ask := func(a, b, c, d int) api.Ask {
		return api.Ask{Kind: api.AskLaunch, Call: 5, A: a, B: b, C: c, D: d}
	}
	made := func(token, version, zone int, on bool) api.Cloud {
		return with(func(c *api.Cloud) {
			c.Boxes = append(c.Boxes, api.Box{Id: 10, Token: token, Version: version, Zone: zone, Tag: true, Well: true, On: on, Fence: 5})
		})
	}
	isDone(t, "cold", group(), ask(20, 2, 3, 0), made(20, 2, 3, true), api.Done, 10)
	isDone(t, "warm", group(), ask(20, 2, 3, 1), made(20, 2, 3, false), api.Done, 10)
	isDone(t, "warm, by more", group(), ask(20, 2, 3, greatest), made(20, 2, 3, false), api.Done, 10)
	isDone(t, "least", group(), ask(1, 0, 0, 0), made(1, 0, 0, true), api.Done, 10)
	isDone(t, "most", group(), ask(1<<40, 1<<40, 1<<40, 0), made(1<<40, 1<<40, 1<<40, true), api.Done, 10)
	isDone(t, "A of 0", group(), ask(0, 2, 3, 0), group(), api.Refused, 0)
	for _, n := range noNumbers {
		isDone(t, "A", group(), ask(n, 2, 3, 0), group(), api.Refused, 0)
		isDone(t, "B", group(), ask(20, n, 3, 0), group(), api.Refused, 0)
		isDone(t, "C", group(), ask(20, 2, n, 0), group(), api.Refused, 0)
		if n < 0 {
			isDone(t, "D", group(), ask(20, 2, 3, n), group(), api.Refused, 0)
		}
	}
}

func TestP82LaunchOfOneThatThereIs(t *testing.T) {
	for _, call := range append([]int{0, 5, 1000}, noNumbers...) {
		for at, b := range group().Boxes {
			if b.Token == 0 {
				continue
			}
			a := api.Ask{Kind: api.AskLaunch, Call: call, A: b.Token, B: 9, C: 9, D: 1}
			isDone(t, "there is one", group(), a, group(), api.Done, at+1)
			// Whether it may be is asked first; whether there is room, last.
			tight := with(func(c *api.Cloud) { c.Tight = true })
			isDone(t, "tight", tight, a, tight, api.Done, at+1)
			a.D = -1
			isDone(t, "D below 0", tight, a, tight, api.Refused, 0)
			a.B, a.D = -1, 0
			isDone(t, "B below 0", group(), a, group(), api.Refused, 0)
		}
	}
	isDone(t, "full", many(60), api.Ask{Kind: api.AskLaunch, A: 159}, many(60), api.Done, 60)
}

func TestP82LaunchWithoutRoom(t *testing.T) {
	tight := with(func(c *api.Cloud) { c.Tight = true })
	a := api.Ask{Kind: api.AskLaunch, Call: 5, A: 20, B: 2, C: 3}
	isDone(t, "tight", tight, a, tight, api.Tight, 0)
	isDone(t, "full", many(60), a, many(60), api.Tight, 0)
	a.B = -1
	isDone(t, "tight, and B below 0", tight, a, tight, api.Refused, 0)
	isDone(t, "full, and B below 0", many(60), a, many(60), api.Refused, 0)
	a.B = 2
	last := many(59)
	last.Boxes = append(last.Boxes, api.Box{Id: 60, Token: 20, Version: 2, Zone: 3, Tag: true, Well: true, On: true, Fence: 5})
	isDone(t, "the last one", many(59), a, last, api.Done, 60)
	empty := api.Cloud{Boxes: []api.Box{{Id: 1, Token: 20, Version: 2, Zone: 3, Tag: true, Well: true, On: true, Fence: 5}}}
	isDone(t, "the first one", api.Cloud{}, a, empty, api.Done, 1)
}

// touches are kinds of ask, and for the boxes of group's cloud, each found, what is done to it: none is told otherwise than Done, but by code.
var touches = []struct {
	kind uint8
	code map[int]uint8 // by id
	put  func(b *api.Box)
}{
	{api.AskStart, nil, func(b *api.Box) { b.On = true }},
	{api.AskStop, nil, func(b *api.Box) { b.On, b.Lb = false, api.LbOut }},
	{api.AskJoin, map[int]uint8{6: api.None}, func(b *api.Box) { b.Lb = api.LbIn }},
	{api.AskLeave, nil, func(b *api.Box) {
		if b.Lb == api.LbIn {
			b.Lb, b.Until = api.LbDrain, 55
		}
	}},
	{api.AskEnd, nil, func(b *api.Box) { b.Gone, b.On, b.Lb = true, false, api.LbOut }},
}

func TestP82Touched(t *testing.T) {
	for _, x := range touches {
		for at, b := range group().Boxes {
			if b.Gone {
				continue
			}
			for _, more := range []int{0, 1, 1000, greatest - b.Fence} {
				a := api.Ask{Kind: x.kind, Call: b.Fence + more, A: b.Id, B: -1, C: -1, D: -1}
				if code := x.code[b.Id]; code > 0 {
					isDone(t, "told otherwise", group(), a, group(), code, b.Id)
					continue
				}
				want := box(at, func(b *api.Box) {
					x.put(b)
					b.Fence = a.Call
				})
				isDone(t, "touched", group(), a, want, api.Done, b.Id)
			}
		}
	}
}

func TestP82Stale(t *testing.T) {
	for _, x := range touches {
		for _, b := range group().Boxes {
			if b.Gone {
				continue
			}
			for _, call := range []int{b.Fence - 1, -1, least} {
				a := api.Ask{Kind: x.kind, Call: call, A: b.Id}
				isDone(t, "stale", group(), a, group(), api.Stale, b.Id)
				// That it is stale is told ahead of that it is forbidden.
				high := with(func(c *api.Cloud) { c.Floor = 9 })
				isDone(t, "stale, and forbidden", high, a, high, api.Stale, b.Id)
			}
		}
		c := box(4, func(b *api.Box) { b.Fence = least })
		if _, told := Do(c, api.Ask{Kind: x.kind, Call: least, A: 5}); told.Code != api.Done {
			t.Errorf("%d: the least fence of all is above its own call: %v", x.kind, told)
		}
		c = box(4, func(b *api.Box) { b.Fence = greatest })
		isDone(t, "the greatest fence", c, api.Ask{Kind: x.kind, Call: greatest - 1, A: 5}, c, api.Stale, 5)
	}
}

func TestP82NotFound(t *testing.T) {
	for _, x := range touches {
		for _, call := range []int{0, 69, 70, 1000, least} {
			for _, id := range append([]int{0, 10, 61, 1 << 40}, noNumbers...) {
				a := api.Ask{Kind: x.kind, Call: call, A: id}
				isDone(t, "no such box", group(), a, group(), api.None, id)
				isDone(t, "of nothing", api.Cloud{}, a, api.Cloud{}, api.None, id)
			}
			code := api.None
			if x.kind == api.AskEnd {
				code = api.Done
			}
			isDone(t, "a gone one", group(), api.Ask{Kind: x.kind, Call: call, A: 7}, group(), code, 7)
		}
	}
}

func TestP82Forbidden(t *testing.T) {
	// Three are counted: those of the ids 1, 2, 9.
	for floor := range 6 {
		c := with(func(c *api.Cloud) { c.Floor = floor })
		for _, x := range touches {
			for _, b := range c.Boxes {
				if b.Gone || x.code[b.Id] > 0 {
					continue
				}
				counted := b.Id == 1 || b.Id == 2 || b.Id == 9
				takes := x.kind == api.AskStop || x.kind == api.AskLeave || x.kind == api.AskEnd
				a := api.Ask{Kind: x.kind, Call: 100, A: b.Id}
				o, told := Do(c, a)
				if refused := counted && takes && floor > 2; refused {
					isDone(t, "forbidden", c, a, c, api.Refused, b.Id)
				} else if told.Code != api.Done || o.Boxes[b.Id-1].Fence != 100 {
					t.Errorf("floor %d: %v tells %v", floor, a, told)
				}
			}
		}
	}
}

func TestP82AnotherKind(t *testing.T) {
	for kind := range 256 {
		if kind >= 1 && kind <= 6 {
			continue
		}
		for _, id := range []int{0, 1, 7, 9, 20, -1, least, greatest} {
			a := api.Ask{Kind: uint8(kind), Call: 1000, A: id, B: 1, C: 1}
			isDone(t, "another kind", group(), a, group(), api.Refused, id)
		}
	}
}

func TestP82OfACloudThatMayNotBe(t *testing.T) {
	for _, c := range []api.Cloud{
		many(61), many(100000),
		with(func(c *api.Cloud) { c.Now = -1 }),
		with(func(c *api.Cloud) { c.Floor = 1<<40 + 1 }),
		with(func(c *api.Cloud) { c.Drain = greatest }),
		box(8, func(b *api.Box) { b.Token = 11 }),
		box(8, func(b *api.Box) { b.Id = 8 }),
		box(6, func(b *api.Box) { b.On = true }),
		box(5, func(b *api.Box) { b.Lb = api.LbDrain }),
		box(0, func(b *api.Box) { b.Lb = 3 }),
	} {
		for kind := range uint8(9) {
			for _, id := range []int{0, 1, 5, 7, 11, 20, 100} {
				told := id
				if kind == api.AskLaunch {
					told = 0
				}
				isDone(t, "may not be", c, api.Ask{Kind: kind, Call: 1000, A: id, B: 1}, c, api.Refused, told)
			}
		}
	}
}

func TestP82LeavesWhatItIsGiven(t *testing.T) {
	for kind := range uint8(9) {
		for _, id := range []int{1, 3, 7, 20, 30} {
			given := append(group().Boxes, many(3).Boxes...)
			was := slices.Clone(given)
			c := group()
			c.Boxes = given[:9]
			a := api.Ask{Kind: kind, Call: 1000, A: id}
			o, _ := Do(c, a)
			p, _ := Do(c, a)
			for at := range o.Boxes {
				o.Boxes[at].Id = -9
			}
			o.Boxes = append(o.Boxes, api.Box{Id: -8})
			if !slices.Equal(given, was) || p.Boxes[0].Id != 1 {
				t.Errorf("%v shares memory: %v", a, given)
			}
		}
	}
	// Of one that may not be, too.
	c := many(61)
	o, _ := Do(c, api.Ask{Kind: api.AskEnd, A: 1})
	o.Boxes[0].Id = -9
	if c.Boxes[0].Id != 1 {
		t.Error("a cloud that may not be is told in its own memory")
	}
}

func TestP82UntilOfLeaving(t *testing.T) {
	for _, x := range [][3]int{{0, 0, 0}, {3, 0, 3}, {0, 3, 3}, {50, 20, 70}, {1 << 40, 1 << 40, 1 << 41}} {
		c := with(func(c *api.Cloud) { c.Now, c.Drain = x[0], x[1] })
		o, told := Do(c, api.Ask{Kind: api.AskLeave, Call: 100, A: 1})
		if o.Boxes[0].Until != x[2] || o.Boxes[0].Lb != api.LbDrain || told.Code != api.Done {
			t.Errorf("at %d, draining for %d: %v, %v", x[0], x[1], o.Boxes[0], told)
		}
	}
}

// codeOf works out, by the document's words alone, which code a tells of c, which may be.
func codeOf(c api.Cloud, a api.Ask) uint8 {
	if a.Kind == api.AskLaunch {
		return launchCodeOf(c, a)
	}
	if a.Kind < api.AskStart || a.Kind > api.AskEnd {
		return api.Refused
	}
	if a.A < 1 || a.A > len(c.Boxes) {
		return api.None
	}
	b, h := c.Boxes[a.A-1], 0
	for _, o := range c.Boxes {
		if o.On && o.Well && o.Lb == 1 {
			h++
		}
	}
	switch takes := a.Kind != api.AskStart && a.Kind != api.AskJoin; {
	case b.Gone && a.Kind == api.AskEnd:
		return api.Done
	case b.Gone:
		return api.None
	case a.Call < b.Fence:
		return api.Stale
	case takes && b.On && b.Well && b.Lb == 1 && h <= c.Floor:
		return api.Refused
	case a.Kind == api.AskJoin && !b.On:
		return api.None
	}
	return api.Done
}

// launchCodeOf is codeOf of a launch.
func launchCodeOf(c api.Cloud, a api.Ask) uint8 {
	if a.A < 1 || a.A > 1<<40 || a.B < 0 || a.B > 1<<40 || a.C < 0 || a.C > 1<<40 || a.D < 0 {
		return api.Refused
	}
	for _, b := range c.Boxes {
		if b.Token == a.A {
			return api.Done
		}
	}
	if c.Tight || len(c.Boxes) == 60 {
		return api.Tight
	}
	return api.Done
}

// some answers an ask that may meet something in a cloud of about so many boxes.
func some(r *rand.Rand, boxes, call int) api.Ask {
	a := api.Ask{Kind: uint8(r.IntN(9)), Call: call - r.IntN(40), A: r.IntN(boxes+2) + 1, D: r.IntN(3) - r.IntN(2)}
	if r.IntN(4) == 0 {
		a.Kind = api.AskJoin
	}
	if a.Kind == api.AskLaunch {
		a.A, a.B, a.C = r.IntN(70), r.IntN(4), r.IntN(4)
	}
	if r.IntN(50) == 0 {
		a.A = noNumbers[r.IntN(len(noNumbers))]
	}
	return a
}

// happens does to c, in its own memory, what no ask does: boxes die, fall ill, or are strays, the floor is another one, time goes on.
func happens(r *rand.Rand, c *api.Cloud) {
	c.Now += r.IntN(3)
	c.Tight = r.IntN(5) == 0
	if r.IntN(3) == 0 {
		c.Floor, c.Drain = r.IntN(5), r.IntN(3)
	}
	if len(c.Boxes) < 60 && r.IntN(3) == 0 {
		c.Boxes = append(c.Boxes, api.Box{Id: len(c.Boxes) + 1, Tag: r.IntN(2) == 0, On: true, Well: true})
	}
	if len(c.Boxes) > 0 {
		b := &c.Boxes[r.IntN(len(c.Boxes))]
		b.Well = !b.Well
	}
}

// follows tells in t, if what must be so of a, asked of c, is not: P8.3. It answers the cloud then.
func follows(t *testing.T, c api.Cloud, a api.Ask) api.Cloud {
	t.Helper()
	o, told := Do(c, a)
	if want := codeOf(c, a); told.Code != want || told.Call != a.Call || told.Kind != a.Kind {
		t.Fatalf("%v of %v tells %v, not %d", a, c, told, want)
	}
	if !Right(o) || len(o.Boxes) < len(c.Boxes) || len(o.Boxes) > len(c.Boxes)+1 {
		t.Fatalf("%v leads from %v to %v, which may not be", a, c, o)
	}
	if h := H(c); H(o) < h-1 || H(o) < h && H(o) < c.Floor {
		t.Fatalf("%v: H falls from %d to %d, the floor is %d", a, h, H(o), c.Floor)
	}
	if told.Code != api.Done && !like(o, c) {
		t.Fatalf("%v tells %v, and changed %v to %v", a, told, c, o)
	}
	for at, b := range o.Boxes {
		if at < len(c.Boxes) && b != c.Boxes[at] && (at+1 != a.A || b.Fence != a.Call || a.Kind == api.AskLaunch) {
			t.Fatalf("%v changed the box %v to %v", a, c.Boxes[at], b)
		}
	}
	again, twice := Do(o, a)
	if !like(again, o) || !tells(twice, a, told.Code, told.Id) {
		t.Fatalf("%v, asked twice, leads from %v to %v, and tells %v, then %v", a, o, again, told, twice)
	}
	return o
}

func TestP83WhateverIsAsked(t *testing.T) {
	falls, codes := 0, map[uint8]int{}
	for seed := range uint64(300) {
		r := rand.New(rand.NewPCG(seed, 8))
		var c api.Cloud
		for call := range 300 {
			a := some(r, len(c.Boxes), call)
			codes[codeOf(c, a)]++
			o := follows(t, c, a)
			if H(o) < H(c) {
				falls++
			}
			c = o
			if r.IntN(4) == 0 {
				happens(r, &c)
			}
		}
	}
	for code := api.Done; code <= api.Stale; code++ {
		if codes[code] < 1000 {
			t.Errorf("too few tell %d: %v", code, codes)
		}
	}
	if falls < 500 {
		t.Error("H fell too seldom:", falls)
	}
}

func TestP83OneBoxOfAToken(t *testing.T) {
	var c api.Cloud
	ids := map[int]int{}
	for call := range 1000 {
		a := api.Ask{Kind: api.AskLaunch, Call: call, A: call*7%30 + 1, B: call % 3, C: call % 4, D: call % 2}
		o, told := Do(c, a)
		if id := ids[a.A]; told.Code != api.Done || id > 0 && (told.Id != id || !Same(o, c)) {
			t.Fatalf("%v of %v tells %v", a, c, told)
		}
		ids[a.A] = told.Id
		// A gone one keeps its token.
		c, _ = Do(o, api.Ask{Kind: api.AskEnd, Call: call, A: call % 13})
	}
	if len(c.Boxes) != 30 || !Right(c) {
		t.Error(len(c.Boxes), "boxes of 30 tokens")
	}
}

func TestP83TheFloorHolds(t *testing.T) {
	for floor := range 7 {
		for kind, takes := range map[uint8]bool{api.AskStop: true, api.AskLeave: true, api.AskEnd: true, api.AskJoin: false, api.AskStart: false} {
			c := many(6)
			c.Floor = floor
			for at := range c.Boxes {
				c.Boxes[at].Lb = api.LbIn
			}
			for id := range 8 {
				c = follows(t, c, api.Ask{Kind: kind, Call: 1, A: id})
			}
			want := 6
			if takes {
				want = floor
			}
			if H(c) != want {
				t.Errorf("floor %d, asks of kind %d: H is %d", floor, kind, H(c))
			}
		}
	}
	// What is below its floor already falls no more.
	c := with(func(c *api.Cloud) { c.Floor = 9 })
	for _, x := range touches {
		for id := range 11 {
			o, _ := Do(c, api.Ask{Kind: x.kind, Call: 1000, A: id})
			if H(o) < H(c) {
				t.Errorf("H falls below the floor by %d of %d", x.kind, id)
			}
		}
	}
}
