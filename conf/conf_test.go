package conf

import (
	"math"
	"slices"
	"testing"

	"herd/api"
)

// least and greatest are the ends of Go's ints: what is worked out with them goes round.
const least, greatest = math.MinInt, math.MaxInt

// all are the numbers of a group that may be, each another one where that may be, with its marks.
var all = []int{5, 41, 2, 3, 6, 7, 8, 9, 10, 11, 12, 13, 14, 1, 15, 50, 99}

// group answers the group of all's numbers.
func group() api.Conf {
	return api.Conf{
		Desired: 5, Min: 41, Surplus: 2, Pool: 3, HookIn: 6, HookOut: 7, Warmup: 8, Drain: 9,
		Reap: 10, Timeout: 11, Fails: 12, Delay: 13, Version: 14, Skip: true, Marks: []int{15, 50, 99},
	}
}

// parts are a group's numbers, by place of the row: how each is put, and from where to where it may be.
var parts = []struct {
	name        string
	put         func(c *api.Conf, n int)
	least, most int
}{
	{"Desired", func(c *api.Conf, n int) { c.Desired = n }, 0, 6},
	{"Min", func(c *api.Conf, n int) { c.Min = n }, 0, 100},
	{"Surplus", func(c *api.Conf, n int) { c.Surplus = n }, 0, 3},
	{"Pool", func(c *api.Conf, n int) { c.Pool = n }, 0, 3},
	{"HookIn", func(c *api.Conf, n int) { c.HookIn = n }, 0, 20},
	{"HookOut", func(c *api.Conf, n int) { c.HookOut = n }, 0, 20},
	{"Warmup", func(c *api.Conf, n int) { c.Warmup = n }, 0, 20},
	{"Drain", func(c *api.Conf, n int) { c.Drain = n }, 0, 20},
	{"Reap", func(c *api.Conf, n int) { c.Reap = n }, 1, 20},
	{"Timeout", func(c *api.Conf, n int) { c.Timeout = n }, 1, 20},
	{"Fails", func(c *api.Conf, n int) { c.Fails = n }, 1, 20},
	{"Delay", func(c *api.Conf, n int) { c.Delay = n }, 0, 20},
	{"Version", func(c *api.Conf, n int) { c.Version = n }, 1, 1 << 40},
}

// odd are numbers that no part may be.
var odd = []int{least, least + 1, -1 << 40, -1 << 32, -100, -1, 1<<40 + 1, 1 << 41, 1 << 62, greatest - 1, greatest}

// rightMarks and wrongMarks are marks that may be, and that may not.
var (
	rightMarks = [][]int{
		nil, {}, {1}, {50}, {100}, {1, 2}, {99, 100}, {1, 100}, {1, 2, 3}, {98, 99, 100},
		{1, 2, 3, 4}, {97, 98, 99, 100}, {10, 20, 30, 40}, {1, 50, 51, 100},
	}
	wrongMarks = [][]int{
		{0}, {-1}, {101}, {least}, {greatest}, {1 << 40}, {0, 1}, {-5, 5}, {100, 101}, {50, greatest}, {least, 50},
		{1, 1}, {100, 100}, {2, 1}, {1, 3, 2}, {1, 3, 3}, {3, 2, 1}, {2, 2, 3}, {10, 20, 30, 30}, {10, 20, 30, 29}, {1, 2, 3, 101}, {0, 1, 2, 3},
		{1, 2, 3, 4, 5}, {1, 2, 3, 4, 4}, {1, 2, 3, 4, 0}, {10, 20, 30, 40, 50, 60}, make([]int, 4), make([]int, 100000),
	}
)

// like tells whether a and b are the same, field by field.
func like(a, b api.Conf) bool {
	return a.Desired == b.Desired && a.Min == b.Min && a.Surplus == b.Surplus && a.Pool == b.Pool &&
		a.HookIn == b.HookIn && a.HookOut == b.HookOut && a.Warmup == b.Warmup && a.Drain == b.Drain &&
		a.Reap == b.Reap && a.Timeout == b.Timeout && a.Fails == b.Fails && a.Delay == b.Delay &&
		a.Version == b.Version && a.Skip == b.Skip && slices.Equal(a.Marks, b.Marks)
}

// mayNot tells in t, if c is held for a group that may be.
func mayNot(t *testing.T, what string, c api.Conf) {
	t.Helper()
	if e := Check(c); e != api.ErrConf {
		t.Errorf("%s: Check = %d", what, e)
	}
	if Floor(c) != 0 || Bound(c) != 0 {
		t.Errorf("%s: Floor %d, Bound %d", what, Floor(c), Bound(c))
	}
	if l, e := Row(c); e != api.ErrConf || l != nil {
		t.Errorf("%s: Row = %v, %d", what, l, e)
	}
}

// may tells in t, if c is held for a group that may not be, or is not told as l, and back.
func may(t *testing.T, what string, c api.Conf, l []int) {
	t.Helper()
	if e := Check(c); e != api.OK {
		t.Errorf("%s: Check = %d", what, e)
	}
	if r, e := Row(c); e != api.OK || !slices.Equal(r, l) {
		t.Errorf("%s: Row = %v, %d, not %v", what, r, e, l)
	}
	if o, e := Of(l); e != api.OK || !like(o, c) {
		t.Errorf("%s: Of(%v) = %v, %d", what, l, o, e)
	}
}

// noRow tells in t, if l is held for a group's row.
func noRow(t *testing.T, what string, l []int) {
	t.Helper()
	c, e := Of(l)
	if e != api.ErrConf || !like(c, api.Conf{}) || c.Marks != nil {
		t.Errorf("%s: Of = %v, %d", what, c, e)
	}
}

// with answers all with n in the given place.
func with(place, n int) []int {
	l := slices.Clone(all)
	l[place] = n
	return l
}

// floorOf works out the floor by counting up.
func floorOf(desired, share int) int {
	n := 0
	for n*100 < desired*share {
		n++
	}
	return n
}

func TestP71Examples(t *testing.T) {
	c := api.Conf{Desired: 3, Min: 50, Reap: 1, Timeout: 1, Fails: 1, Version: 1}
	if Check(c) != api.OK || Floor(c) != 2 || Bound(c) != 3 {
		t.Error(Check(c), Floor(c), Bound(c))
	}
	c.Desired, c.Min = 2, 100
	mayNot(t, "a floor of all, and no surplus", c)
	c.Surplus = 1
	if Check(c) != api.OK || Floor(c) != 2 || Bound(c) != 3 {
		t.Error(Check(c), Floor(c), Bound(c))
	}
	c = group()
	if Check(c) != api.OK || Floor(c) != 3 || Bound(c) != 10 {
		t.Error(Check(c), Floor(c), Bound(c))
	}
	mayNot(t, "nothing", api.Conf{})
}

func TestP71EdgesOfEachNumber(t *testing.T) {
	for place, p := range parts {
		for _, n := range []int{p.least, p.least + 1, p.most - 1, p.most} {
			c := group()
			p.put(&c, n)
			may(t, p.name, c, with(place, n))
		}
		for _, n := range append([]int{p.least - 1, p.most + 1}, odd...) {
			c := group()
			p.put(&c, n)
			mayNot(t, p.name, c)
			noRow(t, p.name, with(place, n))
		}
	}
}

func TestP71TwoThatMayNotBe(t *testing.T) {
	// What is out of bounds twice must not come to be within by being worked out together.
	for i, p := range parts {
		for j, q := range parts[:i] {
			for _, n := range odd {
				for _, m := range odd {
					c, l := group(), with(i, n)
					p.put(&c, n)
					q.put(&c, m)
					l[j] = m
					mayNot(t, p.name+", "+q.name, c)
					noRow(t, p.name+", "+q.name, l)
				}
			}
		}
	}
}

func TestP71HowManyThereAreToBe(t *testing.T) {
	for desired := -1; desired <= 7; desired++ {
		for share := -1; share <= 101; share++ {
			for surplus := -1; surplus <= 4; surplus++ {
				for pool := -1; pool <= 4; pool++ {
					c := group()
					c.Desired, c.Min, c.Surplus, c.Pool = desired, share, surplus, pool
					checkMany(t, c)
				}
			}
		}
	}
}

// checkMany holds what is told of c, which is group's but for the first four numbers, against the document's words.
func checkMany(t *testing.T, c api.Conf) {
	floor := floorOf(c.Desired, c.Min)
	right := 0 <= c.Desired && c.Desired <= 6 && 0 <= c.Min && c.Min <= 100 &&
		0 <= c.Surplus && c.Surplus <= 3 && 0 <= c.Pool && c.Pool <= 3 &&
		(c.Desired == 0 || c.Surplus+c.Desired-floor >= 1)
	if !right {
		mayNot(t, "how many", c)
		noRow(t, "how many", append([]int{c.Desired, c.Min, c.Surplus, c.Pool}, all[4:]...))
		return
	}
	if Check(c) != api.OK || Floor(c) != floor || Bound(c) != c.Desired+c.Surplus+c.Pool {
		t.Errorf("%v: Check %d, Floor %d, Bound %d", c, Check(c), Floor(c), Bound(c))
	}
	if c.Desired > 0 && Floor(c) >= c.Desired+c.Surplus {
		t.Errorf("%v: no room behind the floor %d", c, Floor(c))
	}
}

func TestP71Marks(t *testing.T) {
	for _, l := range rightMarks {
		c := group()
		c.Marks = l
		may(t, "marks", c, append(slices.Clone(all[:14]), l...))
	}
	for _, l := range wrongMarks {
		c := group()
		c.Marks = l
		mayNot(t, "marks", c)
		noRow(t, "marks", append(slices.Clone(all[:14]), l...))
	}
	// All rows of a few marks, held against the words.
	some := []int{-1, 0, 1, 2, 3, 100, 101}
	for i := range 7 * 7 * 7 {
		c := group()
		c.Marks = []int{some[i%7], some[i/7%7], some[i/49]}
		rising := c.Marks[0] < c.Marks[1] && c.Marks[1] < c.Marks[2]
		if right := rising && c.Marks[0] >= 1 && c.Marks[2] <= 100; right != (Check(c) == api.OK) {
			t.Errorf("marks %v: Check %d", c.Marks, Check(c))
		}
	}
}

func TestP71Same(t *testing.T) {
	if !Same(group(), group()) || !Same(api.Conf{}, api.Conf{}) {
		t.Error("a group is not the same as itself")
	}
	for i, p := range parts {
		for _, n := range append([]int{0, 1, 20}, odd...) {
			c, d := group(), group()
			p.put(&c, n)
			p.put(&d, n)
			if !Same(c, d) || Same(c, group()) || Same(group(), c) {
				t.Errorf("%s, %d: %v, %v, %v", p.name, n, Same(c, d), Same(c, group()), Same(group(), c))
			}
			parts[(i+1)%len(parts)].put(&d, -7)
			if Same(c, d) {
				t.Errorf("%v is held for %v", c, d)
			}
		}
	}
	c := group()
	c.Skip = false
	if Same(c, group()) || Same(group(), c) {
		t.Error("Skip is not looked at")
	}
}

func TestP71SameMarks(t *testing.T) {
	kinds := append(slices.Clone(rightMarks), wrongMarks...)
	for _, l := range kinds {
		for _, m := range kinds {
			a, b := group(), group()
			a.Marks, b.Marks = l, m
			if Same(a, b) != slices.Equal(l, m) {
				t.Errorf("of marks %.20v, %.20v Same is %v", l, m, Same(a, b))
			}
		}
	}
}

func TestP72Row(t *testing.T) {
	may(t, "group", group(), all)
	c := group()
	c.Skip = false
	may(t, "Skip", c, with(13, 0))
	c.Marks = nil
	may(t, "marks", c, with(13, 0)[:14])
	may(t, "least", api.Conf{Reap: 1, Timeout: 1, Fails: 1, Version: 1}, []int{0, 0, 0, 0, 0, 0, 0, 0, 1, 1, 1, 0, 1, 0})
	may(t, "most", api.Conf{
		Desired: 6, Min: 100, Surplus: 3, Pool: 3, HookIn: 20, HookOut: 20, Warmup: 20, Drain: 20, Reap: 20,
		Timeout: 20, Fails: 20, Delay: 20, Version: 1 << 40, Skip: true, Marks: []int{97, 98, 99, 100},
	}, []int{6, 100, 3, 3, 20, 20, 20, 20, 20, 20, 20, 20, 1 << 40, 1, 97, 98, 99, 100})
}

func TestP72OfNoRow(t *testing.T) {
	for n := range 14 {
		noRow(t, "short", all[:n])
	}
	noRow(t, "nil", nil)
	for _, n := range append([]int{2, 3, 256}, odd...) {
		noRow(t, "Skip", with(13, n))
	}
	noRow(t, "a mark too many", []int{5, 41, 2, 3, 6, 7, 8, 9, 10, 11, 12, 13, 14, 1, 15, 50, 97, 98, 99})
	noRow(t, "long", append(slices.Clone(all), make([]int, 1000)...))
	noRow(t, "very long", make([]int, 1<<20))
	noRow(t, "noughts", make([]int, 14))
	noRow(t, "no room", []int{2, 100, 0, 0, 0, 0, 0, 0, 1, 1, 1, 0, 1, 0})
}

func TestP72LeavesWhatItIsGiven(t *testing.T) {
	room := []int{10, 20, 30, 40}
	c := group()
	c.Marks = room[:2]
	l, _ := Row(c)
	Check(c)
	Floor(c)
	Bound(c)
	Same(c, c)
	l[14] = 77
	l = append(l[:14], 78, 79, 80, 81)
	if m, _ := Row(c); !slices.Equal(m[14:], []int{10, 20}) || !slices.Equal(room, []int{10, 20, 30, 40}) {
		t.Error("Row changed what it was given, or shares memory:", m, room, l)
	}
	given := slices.Clone(all)
	a, _ := Of(given[:16])
	b, _ := Of(given[:16])
	a.Marks[0] = 77
	a.Marks = append(a.Marks, 78)
	if !slices.Equal(given, all) || !slices.Equal(b.Marks, all[14:16]) {
		t.Error("Of changed what it was given, or shares memory:", given, b.Marks, a.Marks)
	}
}

func TestP73WhatIsToldIsToldBack(t *testing.T) {
	some := func(i, least, most int) int { return least + i%(most-least+1) }
	told := 0
	for i := range 200000 {
		var c api.Conf
		for place, p := range parts {
			p.put(&c, some(i*(place*2+1)/(place+1)+i/7, p.least, p.most))
		}
		c.Skip = i%3 == 0
		c.Marks = rightMarks[i%len(rightMarks)]
		l, e := Row(c)
		if e != api.OK {
			mayNot(t, "group", c)
			continue
		}
		told++
		o, e := Of(l)
		back, e2 := Row(o)
		if e != api.OK || e2 != api.OK || !like(o, c) || !Same(o, c) || !slices.Equal(back, l) {
			t.Fatalf("%v is told as %v, and told back as %v, %d", c, l, o, e)
		}
		if Floor(c) != floorOf(c.Desired, c.Min) || c.Desired > 0 && Floor(c) >= c.Desired+c.Surplus {
			t.Fatalf("%v: the floor %d", c, Floor(c))
		}
	}
	if told < 100000 {
		t.Error("too few that may be:", told)
	}
}

func TestP73OfZeroDesired(t *testing.T) {
	for _, share := range []int{0, 1, 50, 100} {
		for surplus := range 4 {
			c := group()
			c.Desired, c.Min, c.Surplus = 0, share, surplus
			if Check(c) != api.OK || Floor(c) != 0 || Bound(c) != surplus+3 {
				t.Errorf("%v: Check %d, Floor %d, Bound %d", c, Check(c), Floor(c), Bound(c))
			}
		}
	}
}
