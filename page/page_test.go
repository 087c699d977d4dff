package page

import (
	"math"
	"math/rand/v2"
	"slices"
	"testing"

	"herd/api"
	"herd/cloud"
)

// least and greatest are the ends of Go's ints.
const least, greatest = math.MinInt, math.MaxInt

// odd are ids of no box, beyond all that there are.
var odd = []int{least, least + 1, -1 << 40, -1, 1<<40 + 1, greatest - 1, greatest}

// group answers a cloud of nine boxes, six of which are shown: those of the ids 1, 3, 4, 6, 7 and 9. One that is without the tag and one that is gone are not, nor is one that is both.
func group() api.Cloud {
	return api.Cloud{
		Boxes: []api.Box{
			{Id: 1, Token: 11, Version: 21, Zone: 31, Tag: true, On: true, Well: true, Lb: api.LbIn, Fence: 5},
			{Id: 2, Token: 12, On: true, Well: true, Lb: api.LbIn},
			{Id: 3, Token: 13, Version: 23, Zone: 33, Tag: true, On: true, Lb: api.LbIn, Until: 9},
			{Id: 4, Token: 14, Version: 24, Zone: 34, Tag: true, On: true, Well: true, Lb: api.LbDrain, Until: 9},
			{Id: 5, Token: 15, Tag: true, Gone: true, Well: true},
			{Id: 6, Tag: true, On: true, Well: true},
			{Id: 7, Token: 17, Version: 1 << 40, Zone: 1 << 40, Tag: true, Well: true},
			{Id: 8, Gone: true},
			{Id: 9, Token: 1 << 40, Tag: true},
		},
		Floor: 1, Drain: 5, Now: 50, Tight: true,
	}
}

// sights are what is shown of group's boxes.
func sights() []api.Seen {
	return []api.Seen{
		{Id: 1, Token: 11, Version: 21, Zone: 31, On: true, Well: true, In: true},
		{Id: 3, Token: 13, Version: 23, Zone: 33, On: true, In: true},
		{Id: 4, Token: 14, Version: 24, Zone: 34, On: true, Well: true},
		{Id: 6, On: true, Well: true},
		{Id: 7, Token: 17, Version: 1 << 40, Zone: 1 << 40, Well: true},
		{Id: 9, Token: 1 << 40},
	}
}

// many answers a cloud of so many boxes, all of them shown.
func many(n int) api.Cloud {
	var c api.Cloud
	for at := range n {
		c.Boxes = append(c.Boxes, api.Box{Id: at + 1, Token: 100 + at, Tag: true, On: true, Well: true})
	}
	return c
}

// wrongs answers clouds that may not be, but for one thing each would show its boxes.
func wrongs() []api.Cloud {
	var l []api.Cloud
	for _, put := range []func(c *api.Cloud){
		func(c *api.Cloud) { c.Floor = -1 },
		func(c *api.Cloud) { c.Drain = 1<<40 + 1 },
		func(c *api.Cloud) { c.Now = least },
		func(c *api.Cloud) { c.Boxes[0].Id = 2 },
		func(c *api.Cloud) { c.Boxes[8].Id = 0 },
		func(c *api.Cloud) { c.Boxes[8].Token = 11 },
		func(c *api.Cloud) { c.Boxes[3].Version = -1 },
		func(c *api.Cloud) { c.Boxes[3].Zone = greatest },
		func(c *api.Cloud) { c.Boxes[8].Lb = api.LbIn },
		func(c *api.Cloud) { c.Boxes[5].Lb = 3 },
		func(c *api.Cloud) { c.Boxes[7].On = true },
		func(c *api.Cloud) { slices.Reverse(c.Boxes) },
	} {
		c := group()
		put(&c)
		l = append(l, c)
	}
	return append(l, many(61), many(1000))
}

// behind answers those of l whose ids are above one.
func behind(l []api.Seen, id int) []api.Seen {
	return slices.DeleteFunc(slices.Clone(l), func(s api.Seen) bool { return s.Id <= id })
}

// ids answers boxes of these ids.
func ids(l ...int) []api.Seen {
	var o []api.Seen
	for _, id := range l {
		o = append(o, api.Seen{Id: id})
	}
	return o
}

// random answers a cloud that may be, of any boxes.
func random(r *rand.Rand) api.Cloud {
	c := many(r.IntN(api.MaxBoxes + 1))
	for at := range c.Boxes {
		b := &c.Boxes[at]
		b.Tag, b.Gone, b.Well = r.IntN(4) > 0, r.IntN(4) == 0, r.IntN(2) > 0
		b.On = !b.Gone && r.IntN(3) > 0
		if b.On {
			b.Lb = uint8(r.IntN(3))
		}
		b.Version, b.Zone = r.IntN(5), r.IntN(5)
	}
	return c
}

// isPage tells in t, if the page of c behind an id is not want and more, by Of or by Answer.
func isPage(t *testing.T, c api.Cloud, id int, want []api.Seen, more bool) {
	t.Helper()
	l, m := Of(c, id)
	if !slices.Equal(l, want) || m != more {
		t.Errorf("Of(.., %d) = %v, %v, not %v, %v", id, l, m, want, more)
	}
	a := api.Ask{Kind: api.AskPage, Call: 7, A: id, B: 1, C: 2, D: 3}
	isTold(t, c, a, api.Tell{Call: 7, Kind: api.AskPage, Code: api.Done, Id: id, Seen: want, More: more})
}

// isTold tells in t, if what c tells to a is not want.
func isTold(t *testing.T, c api.Cloud, a api.Ask, want api.Tell) {
	t.Helper()
	o := Answer(c, a)
	if o.Call != want.Call || o.Kind != want.Kind || o.Code != want.Code || o.Id != want.Id || o.More != want.More || !slices.Equal(o.Seen, want.Seen) {
		t.Errorf("Answer(.., %v) = %v, not %v", a, o, want)
	}
}

func TestP91Of(t *testing.T) {
	if !cloud.Right(group()) {
		t.Fatal("the cloud may not be")
	}
	l := sights()
	for id, x := range []struct {
		from int
		more bool
	}{{0, true}, {1, true}, {1, true}, {2, true}, {3, false}, {3, false}, {4, false}, {5, false}, {5, false}, {6, false}, {6, false}} {
		isPage(t, group(), id, l[x.from:min(x.from+3, 6)], x.more)
	}
	for _, id := range odd {
		if id < 0 {
			isPage(t, group(), id, l[:3], true)
		} else {
			isPage(t, group(), id, nil, false)
		}
	}
}

func TestP91OfSizes(t *testing.T) {
	for n := range api.MaxBoxes + 1 {
		c := many(n)
		all := All(c)
		if len(all) != n {
			t.Errorf("of %d boxes %d are shown", n, len(all))
		}
		for id := range n + 2 {
			rest := all[min(id, n):]
			isPage(t, c, id, rest[:min(3, len(rest))], len(rest) > 3)
		}
	}
	for _, id := range append(odd, 0, 1) {
		isPage(t, api.Cloud{}, id, nil, false)
		isPage(t, api.Cloud{Boxes: []api.Box{}, Tight: true}, id, nil, false)
	}
}

func TestP91MoreIsOfThoseThatAreShown(t *testing.T) {
	// Behind a full page there are others, but none that is shown.
	c := many(5)
	c.Boxes[3].Tag = false
	c.Boxes[4].Gone, c.Boxes[4].On = true, false
	isPage(t, c, 0, All(c), false)
	if len(All(c)) != 3 {
		t.Error(All(c))
	}
	c.Boxes[4].Gone = false
	isPage(t, c, 0, All(c)[:3], true)
	// None at all is shown.
	for at := range c.Boxes {
		c.Boxes[at].Tag = false
	}
	isPage(t, c, 0, nil, false)
	if len(All(c)) != 0 {
		t.Error(All(c))
	}
}

func TestP91All(t *testing.T) {
	if l := All(group()); !slices.Equal(l, sights()) {
		t.Error(l)
	}
	if len(All(api.Cloud{})) != 0 {
		t.Error("of nothing:", All(api.Cloud{}))
	}
}

func TestP91Shown(t *testing.T) {
	for bits := range 16 {
		for lb := range uint8(3) {
			b := api.Box{Id: 1, Token: 2, Version: 3, Zone: 4, Tag: bits&1 > 0, On: bits&2 > 0, Gone: bits&4 > 0, Well: bits&8 > 0, Lb: lb, Until: 5, Fence: 6}
			c := api.Cloud{Boxes: []api.Box{b}}
			var want []api.Seen
			if b.Tag && !b.Gone && (b.On || lb == 0) {
				want = []api.Seen{{Id: 1, Token: 2, Version: 3, Zone: 4, On: b.On, Well: b.Well, In: lb == 1}}
			}
			isPage(t, c, 0, want, false)
			if !slices.Equal(All(c), want) {
				t.Errorf("of %v All tells %v", b, All(c))
			}
		}
	}
}

func TestP91OfCloudsThatMayNotBe(t *testing.T) {
	for i, c := range wrongs() {
		if cloud.Right(c) {
			t.Errorf("%d: the cloud may be", i)
		}
		for _, id := range append(odd, 0, 1, 5) {
			isPage(t, c, id, nil, false)
		}
		if len(All(c)) != 0 {
			t.Errorf("%d: All tells %v", i, All(c))
		}
	}
}

func TestP92AnswerOfOtherKinds(t *testing.T) {
	for _, c := range append(wrongs(), group(), api.Cloud{}, many(60)) {
		for kind := range 256 {
			if uint8(kind) == api.AskPage {
				continue
			}
			for _, n := range append(odd, 0, 1, 3) {
				a := api.Ask{Kind: uint8(kind), Call: n, A: n, B: 1, C: 2, D: 0}
				isTold(t, c, a, api.Tell{Call: n, Kind: uint8(kind), Code: api.Refused, Id: n})
			}
		}
	}
}

func TestP92AnswerOfPages(t *testing.T) {
	for _, call := range append(odd, 0, 1) {
		a := api.Ask{Kind: api.AskPage, Call: call, A: 3}
		isTold(t, group(), a, api.Tell{Call: call, Kind: api.AskPage, Code: api.Done, Id: 3, Seen: sights()[2:5], More: true})
	}
}

func TestP93Next(t *testing.T) {
	for _, x := range []struct {
		l            []api.Seen
		behind, want int
	}{
		{nil, 0, 0}, {nil, 5, 5}, {nil, -5, -5}, {[]api.Seen{}, least, least}, {nil, greatest, greatest},
		{ids(1, 2, 3), 0, 3}, {ids(1, 2, 3), 3, 3}, {ids(1, 2, 3), 4, 4}, {ids(7), 0, 7},
		{ids(3, 2, 1), 0, 3}, {ids(1, 9, 2), 5, 9}, {ids(-3, -7), -9, -3}, {ids(-3, -7), 0, 0},
		{ids(least), least, least}, {ids(greatest), 0, greatest}, {ids(least, greatest, 0), least, greatest},
		{ids(1, 2, 3, 4, 5, 6, 7), 2, 7}, {ids(4, 4), 4, 4},
	} {
		if n := Next(x.l, x.behind); n != x.want {
			t.Errorf("Next(%v, %d) = %d, not %d", x.l, x.behind, n, x.want)
		}
	}
}

func TestP93Whole(t *testing.T) {
	for _, x := range []struct {
		want  bool
		pages [][]api.Seen
	}{
		{true, nil},
		{true, [][]api.Seen{nil}},
		{true, [][]api.Seen{{}}},
		{true, [][]api.Seen{ids(1)}},
		{true, [][]api.Seen{ids(1, 2)}},
		{true, [][]api.Seen{ids(1, 2, 3)}},
		{false, [][]api.Seen{ids(1, 2, 3, 4)}},
		{true, [][]api.Seen{ids(1, 2, 3), ids(4)}},
		{true, [][]api.Seen{ids(1, 2, 3), ids(9, 11, 60)}},
		{true, [][]api.Seen{ids(1, 2, 3), nil}},
		{true, [][]api.Seen{ids(1), ids(2), ids(3, 4), {}}},
		{false, [][]api.Seen{nil, nil}},
		{false, [][]api.Seen{nil, ids(1)}},
		{false, [][]api.Seen{ids(1), nil, ids(2)}},
		{false, [][]api.Seen{ids(1), ids(2), nil, nil}},
		{false, [][]api.Seen{ids(1, 2, 3, 4), ids(5)}},
		{false, [][]api.Seen{ids(1), ids(2, 3, 4, 5), ids(6)}},
		{false, [][]api.Seen{ids(1), ids(2, 3, 4, 5)}},
		{false, [][]api.Seen{ids(1, 1)}},
		{false, [][]api.Seen{ids(2, 1)}},
		{false, [][]api.Seen{ids(1, 3, 2)}},
		{false, [][]api.Seen{ids(1, 2, 3), ids(3)}},
		{false, [][]api.Seen{ids(1, 2, 3), ids(2, 4)}},
		{false, [][]api.Seen{ids(5, 6), ids(1, 2)}},
		{false, [][]api.Seen{ids(1, 2), ids(3), ids(2)}},
		{false, [][]api.Seen{ids(1, 2), ids(4, 3), ids(5)}},
		{true, [][]api.Seen{ids(0)}},
		{true, [][]api.Seen{ids(-2, -1, 0), ids(1)}},
		{true, [][]api.Seen{ids(least, 0, greatest), nil}},
		{false, [][]api.Seen{ids(least, least)}},
		{false, [][]api.Seen{ids(0), ids(least)}},
		{false, [][]api.Seen{ids(greatest), ids(least, 1)}},
		{false, [][]api.Seen{ids(0, 0)}},
	} {
		if Whole(x.pages...) != x.want {
			t.Errorf("Whole(%v) = %v", x.pages, !x.want)
		}
	}
}

// gone answers the pages of c that are gone over, each behind the one ahead.
func gone(c api.Cloud) [][]api.Seen {
	var pages [][]api.Seen
	for id := 0; len(pages) <= api.MaxBoxes; {
		l, more := Of(c, id)
		pages, id = append(pages, l), Next(l, id)
		if !more {
			break
		}
	}
	return pages
}

func TestP94PagesShowAll(t *testing.T) {
	r := rand.New(rand.NewPCG(9, 4))
	clouds := []api.Cloud{{}, group()}
	for n := range api.MaxBoxes + 1 {
		clouds = append(clouds, many(n))
	}
	for range 2000 {
		clouds = append(clouds, random(r))
	}
	for _, c := range clouds {
		var want []api.Seen
		for _, b := range c.Boxes {
			if b.Tag && !b.Gone {
				want = append(want, api.Seen{Id: b.Id, Token: b.Token, Version: b.Version, Zone: b.Zone, On: b.On, Well: b.Well, In: b.Lb == 1})
			}
		}
		pages := gone(c)
		if !Whole(pages...) || !slices.Equal(slices.Concat(pages...), want) || !slices.Equal(All(c), want) {
			t.Fatalf("of %v: pages %v, All %v", c, pages, All(c))
		}
		if most := max(1, (len(want)+2)/3); len(pages) != most {
			t.Fatalf("%d pages, not %d", len(pages), most)
		}
		for id := range len(c.Boxes) + 2 {
			rest := behind(want, id)
			isPage(t, c, id, rest[:min(3, len(rest))], len(rest) > 3)
		}
	}
}

func TestP94LesserIdsDoNotCount(t *testing.T) {
	r := rand.New(rand.NewPCG(9, 5))
	for range 2000 {
		c := random(r)
		id := r.IntN(len(c.Boxes) + 1)
		l, more := Of(c, id)
		for at := range id {
			c.Boxes[at] = api.Box{Id: at + 1, Tag: r.IntN(2) > 0, Gone: r.IntN(2) > 0, Version: r.IntN(9)}
		}
		isPage(t, c, id, l, more)
	}
}

func TestR4Memory(t *testing.T) {
	given := append(group().Boxes, api.Box{Id: 77})
	was := slices.Clone(given)
	c := group()
	c.Boxes = given[:9]
	l, _ := Of(c, 0)
	m, _ := Of(c, 0)
	x, y, all, other := Answer(c, api.Ask{Kind: api.AskPage}), Answer(c, api.Ask{Kind: api.AskPage}), All(c), All(c)
	for _, s := range [][]api.Seen{l, x.Seen, all} {
		s[0].Id = 99
		_ = append(s, api.Seen{Id: 88})
	}
	if !slices.Equal(given, was) || m[0].Id != 1 || y.Seen[0].Id != 1 || other[0].Id != 1 {
		t.Error("memory is shared:", given, m, y, other)
	}
	pages := [][]api.Seen{ids(3, 2, 1), ids(4)}
	Next(pages[0], 0)
	Whole(pages...)
	if !slices.Equal(pages[0], ids(3, 2, 1)) || !slices.Equal(pages[1], ids(4)) {
		t.Error("what was handed in is changed:", pages)
	}
}
