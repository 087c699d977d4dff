package net

import (
	"math"
	"math/rand/v2"
	"slices"
	"testing"

	"herd/api"
)

// least and greatest are the ends of Go's ints.
const least, greatest = math.MinInt, math.MaxInt

// odd are places far from those of any row.
var odd = []int{least, least + 1, -1 << 40, -62, -61, -60, -3, -1, 61, 62, 1 << 40, greatest - 1, greatest}

// ask answers an Ask that is told from others by its number.
func ask(id int) api.Ask {
	return api.Ask{Kind: uint8(id), Call: id, A: id + 1, B: id + 2, C: id + 3, D: id + 4}
}

// tell answers a Tell that is told from others by its number, of two boxes.
func tell(id int) api.Tell {
	return api.Tell{Call: id, Kind: uint8(id), Code: uint8(id + 1), Id: id + 2, Seen: []api.Seen{sight(id), sight(id + 1)}, More: id%2 > 0}
}

// sight answers what is seen of a box.
func sight(id int) api.Seen {
	return api.Seen{Id: id, Token: id + 1, Version: id + 2, Zone: id + 3, On: id%2 > 0, Well: id%3 > 0, In: id%5 > 0}
}

// way answers a way with so many Asks and Tells, numbered from 1 and from 101 on.
func way(asks, tells int) api.Net {
	var n api.Net
	for at := range asks {
		n.Asks = append(n.Asks, ask(at+1))
	}
	for at := range tells {
		n.Tells = append(n.Tells, tell(at+101))
	}
	return n
}

// of answers the way with these.
func of(asks []api.Ask, tells []api.Tell) api.Net {
	return api.Net{Asks: asks, Tells: tells}
}

// fullAt answers the error of one more behind so many.
func fullAt(many int) api.Errno {
	if many >= 60 {
		return api.ErrLarge
	}
	return api.OK
}

// at answers the place that counts, of so many.
func at(n, many int) int {
	rest := n % many
	if rest < 0 {
		return rest + many
	}
	return rest
}

// hold answers whether a and b hold the same, field by field.
func hold(a, b api.Net) bool {
	return slices.Equal(a.Asks, b.Asks) && slices.EqualFunc(a.Tells, b.Tells, holdTell)
}

// holdTell answers whether t and u hold the same, field by field.
func holdTell(t, u api.Tell) bool {
	return t.Call == u.Call && t.Kind == u.Kind && t.Code == u.Code && t.Id == u.Id && t.More == u.More &&
		slices.Equal(t.Seen, u.Seen)
}

// is tells in t, if what a call answered, n and e, is not want and code.
func is(t *testing.T, what string, n api.Net, e api.Errno, want api.Net, code api.Errno) {
	t.Helper()
	if !hold(n, want) || e != code {
		t.Errorf("%s = %v, %d, not %v, %d", what, n, e, want, code)
	}
}

func TestP111Send(t *testing.T) {
	for _, tells := range []int{0, 1, 59, 60, 61} {
		for asks := range 63 {
			n, want := way(asks, tells), way(asks, tells)
			if asks < 60 {
				want.Asks = append(want.Asks, ask(777))
			}
			o, e := Send(n, ask(777))
			is(t, "Send", o, e, want, fullAt(asks))
		}
	}
	o, e := Send(of([]api.Ask{}, []api.Tell{}), api.Ask{})
	is(t, "Send", o, e, of([]api.Ask{{}}, nil), api.OK)
	o, e = Send(way(1000, 2), ask(1))
	is(t, "Send", o, e, way(1000, 2), api.ErrLarge)
}

func TestP111Post(t *testing.T) {
	for _, asks := range []int{0, 1, 59, 60, 61} {
		for tells := range 63 {
			n, want := way(asks, tells), way(asks, tells)
			if tells < 60 {
				want.Tells = append(want.Tells, tell(777))
			}
			o, e := Post(n, tell(777))
			is(t, "Post", o, e, want, fullAt(tells))
		}
	}
	o, e := Post(of([]api.Ask{}, []api.Tell{}), api.Tell{})
	is(t, "Post", o, e, of(nil, []api.Tell{{}}), api.OK)
	o, e = Post(way(2, 1000), tell(1))
	is(t, "Post", o, e, way(2, 1000), api.ErrLarge)
	// What nothing makes is on its way, too.
	long := api.Tell{Call: least, Kind: 255, Code: 255, Id: greatest, Seen: make([]api.Seen, 500), More: true}
	o, e = Post(way(0, 1), long)
	is(t, "Post", o, e, of(nil, []api.Tell{tell(101), long}), api.OK)
}

func TestP111InOrder(t *testing.T) {
	var n api.Net
	for id := range 60 {
		n, _ = Send(n, ask(id+1))
		n, _ = Post(n, tell(id+101))
	}
	if !hold(n, way(60, 60)) {
		t.Error(n)
	}
}

func TestP111Own(t *testing.T) {
	for _, n := range []api.Net{{}, of([]api.Ask{}, []api.Tell{}), way(1, 0), way(0, 1), way(3, 4), way(60, 60), way(61, 300)} {
		if o := Own(n); !hold(o, n) {
			t.Errorf("Own(%v) = %v", n, o)
		}
	}
}

func TestP111Same(t *testing.T) {
	for _, n := range []api.Net{{}, way(1, 0), way(0, 1), way(2, 3), way(60, 60), way(61, 61)} {
		if !Same(n, n) || !Same(n, Own(n)) {
			t.Error("not the same:", n)
		}
	}
	if !Same(api.Net{}, of([]api.Ask{}, []api.Tell{})) || !Same(of(nil, []api.Tell{{}}), of([]api.Ask{}, []api.Tell{{Seen: []api.Seen{}}})) {
		t.Error("nil and empty are not the same")
	}
	for i, put := range others() {
		n := way(3, 3)
		put(&n)
		if Same(n, way(3, 3)) || Same(way(3, 3), n) {
			t.Errorf("%d: the same: %v", i, n)
		}
	}
}

// others answers by what a way of three Asks and three Tells becomes another one.
func others() []func(n *api.Net) {
	return []func(n *api.Net){
		func(n *api.Net) { n.Asks = n.Asks[:2] },
		func(n *api.Net) { n.Asks = append(n.Asks, api.Ask{}) },
		func(n *api.Net) { n.Asks[0], n.Asks[1] = n.Asks[1], n.Asks[0] },
		func(n *api.Net) { n.Asks[0].Kind++ },
		func(n *api.Net) { n.Asks[1].Call++ },
		func(n *api.Net) { n.Asks[2].A++ },
		func(n *api.Net) { n.Asks[0].B++ },
		func(n *api.Net) { n.Asks[1].C++ },
		func(n *api.Net) { n.Asks[2].D++ },
		func(n *api.Net) { n.Tells = n.Tells[1:] },
		func(n *api.Net) { n.Tells = append(n.Tells, api.Tell{}) },
		func(n *api.Net) { n.Tells[1], n.Tells[2] = n.Tells[2], n.Tells[1] },
		func(n *api.Net) { n.Tells[0].Call++ },
		func(n *api.Net) { n.Tells[1].Kind++ },
		func(n *api.Net) { n.Tells[2].Code++ },
		func(n *api.Net) { n.Tells[0].Id++ },
		func(n *api.Net) { n.Tells[1].More = !n.Tells[1].More },
		func(n *api.Net) { n.Tells[2].Seen = nil },
		func(n *api.Net) { n.Tells[2].Seen = n.Tells[2].Seen[:1] },
		func(n *api.Net) { n.Tells[0].Seen = append(n.Tells[0].Seen, api.Seen{}) },
		func(n *api.Net) { slices.Reverse(n.Tells[0].Seen) },
		func(n *api.Net) { n.Tells[0].Seen[0].Id++ },
		func(n *api.Net) { n.Tells[1].Seen[1].Token++ },
		func(n *api.Net) { n.Tells[2].Seen[0].Version++ },
		func(n *api.Net) { n.Tells[0].Seen[1].Zone++ },
		func(n *api.Net) { s := &n.Tells[1].Seen[0]; s.On = !s.On },
		func(n *api.Net) { s := &n.Tells[2].Seen[1]; s.Well = !s.Well },
		func(n *api.Net) { s := &n.Tells[0].Seen[0]; s.In = !s.In },
	}
}

// places answers places of a row of so many, and beyond.
func places(many int) []int {
	l := slices.Clone(odd)
	for n := -many - 1; n <= 2*many+1; n++ {
		l = append(l, n)
	}
	return l
}

func TestP112Ask(t *testing.T) {
	for _, asks := range []int{1, 2, 3, 7, 59, 60, 61, 62, 200} {
		for _, n := range places(asks) {
			place := at(n, asks)
			want := way(asks, 2)
			want.Asks = slices.Delete(want.Asks, place, place+1)
			o, a, ok := Ask(way(asks, 2), n)
			if !hold(o, want) || a != ask(place+1) || !ok {
				t.Fatalf("Ask(%d, %d) = %v, %v, %v", asks, n, o, a, ok)
			}
		}
	}
}

func TestP112Tell(t *testing.T) {
	for _, tells := range []int{1, 2, 3, 7, 59, 60, 61, 62, 200} {
		for _, n := range places(tells) {
			place := at(n, tells)
			want := way(2, tells)
			want.Tells = slices.Delete(want.Tells, place, place+1)
			o, a, ok := Tell(way(2, tells), n)
			if !hold(o, want) || !holdTell(a, tell(place+101)) || !ok {
				t.Fatalf("Tell(%d, %d) = %v, %v, %v", tells, n, o, a, ok)
			}
		}
	}
}

func TestP112OfNothing(t *testing.T) {
	for _, n := range append(odd, 0, 1) {
		for _, w := range []api.Net{{}, way(0, 3), way(0, 61), of([]api.Ask{}, nil)} {
			if o, a, ok := Ask(w, n); !hold(o, w) || a != (api.Ask{}) || ok {
				t.Errorf("Ask(%v, %d) = %v, %v, %v", w, n, o, a, ok)
			}
		}
		for _, w := range []api.Net{{}, way(3, 0), way(61, 0), of(nil, []api.Tell{})} {
			if o, a, ok := Tell(w, n); !hold(o, w) || !holdTell(a, api.Tell{}) || ok {
				t.Errorf("Tell(%v, %d) = %v, %v, %v", w, n, o, a, ok)
			}
		}
	}
}

func TestP113Twice(t *testing.T) {
	for _, many := range []int{1, 2, 3, 7, 58, 59, 60, 61, 200} {
		for _, n := range places(many) {
			asks, tells := way(many, 61), way(61, many)
			if many < 60 {
				asks.Asks = append(asks.Asks, ask(at(n, many)+1))
				tells.Tells = append(tells.Tells, tell(at(n, many)+101))
			}
			o, e := Twice(way(many, 61), n, false)
			is(t, "Twice of Asks", o, e, asks, fullAt(many))
			o, e = Twice(way(61, many), n, true)
			is(t, "Twice of Tells", o, e, tells, fullAt(many))
		}
	}
}

func TestP113OfNothing(t *testing.T) {
	for _, n := range append(odd, 0, 1) {
		o, e := Twice(api.Net{}, n, false)
		is(t, "Twice", o, e, api.Net{}, api.OK)
		o, e = Twice(api.Net{}, n, true)
		is(t, "Twice", o, e, api.Net{}, api.OK)
		// The other row says nothing of this one, full or not.
		o, e = Twice(way(0, 60), n, false)
		is(t, "Twice", o, e, way(0, 60), api.OK)
		o, e = Twice(way(3, 0), n, true)
		is(t, "Twice", o, e, way(3, 0), api.OK)
	}
}

func TestP114TakenOnceEach(t *testing.T) {
	r := rand.New(rand.NewPCG(11, 4))
	for range 300 {
		n, asks, tells := way(r.IntN(61), r.IntN(61)), map[int]int{}, map[int]int{}
		for _, a := range n.Asks {
			asks[a.Call]++
		}
		for _, x := range n.Tells {
			tells[x.Call]++
		}
		// Some are there twice, or oftener.
		for range 5 {
			var e api.Errno
			if n, e = Twice(n, r.Int(), false); e == api.OK && len(n.Asks) > 0 {
				asks[n.Asks[len(n.Asks)-1].Call]++
			}
			if n, e = Twice(n, -r.Int(), true); e == api.OK && len(n.Tells) > 0 {
				tells[n.Tells[len(n.Tells)-1].Call]++
			}
		}
		// So many are enough, though now and then there is nothing in the row that is asked.
		for range 400 {
			n = takeOne(t, n, r, asks, tells)
		}
		if !hold(n, api.Net{}) {
			t.Fatal("left:", n)
		}
		for _, left := range []map[int]int{asks, tells} {
			for id, many := range left {
				if many != 0 {
					t.Fatalf("of %d there are %d left", id, many)
				}
			}
		}
	}
}

// takeOne answers n without an Ask or a Tell, which was as it was sent and is counted off; of the other row it tells in t, if it is another one than ahead.
func takeOne(t *testing.T, n api.Net, r *rand.Rand, asks, tells map[int]int) api.Net {
	t.Helper()
	if r.IntN(2) > 0 {
		o, a, ok := Ask(n, r.Int()-r.Int())
		if ok != (len(n.Asks) > 0) || ok && a != ask(a.Call) || !hold(of(nil, o.Tells), of(nil, n.Tells)) {
			t.Fatalf("Ask(%v) = %v, %v, %v", n, o, a, ok)
		}
		if ok {
			asks[a.Call]--
		}
		return o
	}
	o, x, ok := Tell(n, r.Int()-r.Int())
	if ok != (len(n.Tells) > 0) || ok && !holdTell(x, tell(x.Call)) || !hold(of(o.Asks, nil), of(n.Asks, nil)) {
		t.Fatalf("Tell(%v) = %v, %v, %v", n, o, x, ok)
	}
	if ok {
		tells[x.Call]--
	}
	return o
}

func TestP114WhateverIsDone(t *testing.T) {
	r := rand.New(rand.NewPCG(11, 5))
	var n, want api.Net
	for id := range 20000 {
		// More is put than taken, so that rows get full.
		var e, code api.Errno
		asks, tells, place := len(want.Asks), len(want.Tells), r.IntN(200)-100
		switch r.IntN(6) {
		case 0:
			if n, e = Send(n, ask(id)); asks < 60 {
				want.Asks = append(want.Asks, ask(id))
			}
			code = fullAt(asks)
		case 1:
			if n, e = Post(n, tell(id)); tells < 60 {
				want.Tells = append(want.Tells, tell(id))
			}
			code = fullAt(tells)
		case 2:
			if n, _, _ = Ask(n, place); asks > 0 {
				want.Asks = slices.Delete(want.Asks, at(place, asks), at(place, asks)+1)
			}
		case 3:
			if n, _, _ = Tell(n, place); tells > 0 {
				want.Tells = slices.Delete(want.Tells, at(place, tells), at(place, tells)+1)
			}
		case 4:
			if n, e = Twice(n, place, false); asks > 0 && asks < 60 {
				want.Asks = append(want.Asks, want.Asks[at(place, asks)])
			}
			code = fullAt(asks)
		case 5:
			if n, e = Twice(n, place, true); tells > 0 && tells < 60 {
				want.Tells = append(want.Tells, want.Tells[at(place, tells)])
			}
			code = fullAt(tells)
		}
		if !hold(n, want) || e != code || len(n.Asks) > 60 || len(n.Tells) > 60 {
			t.Fatalf("%v, %d, not %v, %d", n, e, want, code)
		}
	}
}

// spoil puts something else into all that n has, and into the spare room behind it.
func spoil(n api.Net) {
	for at := range n.Asks {
		n.Asks[at].Call = -1
	}
	for at := range n.Tells {
		n.Tells[at].Call = -1
		spoilTell(n.Tells[at])
	}
	_, _ = append(n.Asks, api.Ask{Call: -1}), append(n.Tells, api.Tell{Call: -1})
}

// spoilTell puts something else into what t saw, and into the spare room behind it.
func spoilTell(t api.Tell) {
	for at := range t.Seen {
		t.Seen[at].Id = -1
	}
	_ = append(t.Seen, api.Seen{Id: -1})
}

// roomy answers n with spare room behind each of its lists.
func roomy(n api.Net) api.Net {
	n.Asks, n.Tells = slices.Grow(n.Asks, 9), slices.Grow(n.Tells, 9)
	for at := range n.Tells {
		n.Tells[at].Seen = slices.Grow(n.Tells[at].Seen, 9)
	}
	return n
}

// spare answers whether nothing was put into the spare room behind each list of n.
func spare(n api.Net) bool {
	for _, x := range n.Tells {
		if x.Seen[:3][2] != (api.Seen{}) {
			return false
		}
	}
	asks, tells := len(n.Asks), len(n.Tells)
	return n.Asks[:asks+1][asks] == api.Ask{} && holdTell(n.Tells[:tells+1][tells], api.Tell{})
}

// calls answers all that answer a way, as functions of one.
func calls() map[string]func(n api.Net) api.Net {
	return map[string]func(n api.Net) api.Net{
		"Send":           func(n api.Net) api.Net { o, _ := Send(n, ask(9)); return o },
		"Post":           func(n api.Net) api.Net { o, _ := Post(n, tell(9)); return o },
		"Ask":            func(n api.Net) api.Net { o, _, _ := Ask(n, 1); return o },
		"Tell":           func(n api.Net) api.Net { o, x, _ := Tell(n, 1); spoilTell(x); return o },
		"Twice of Asks":  func(n api.Net) api.Net { o, _ := Twice(n, 1, false); return o },
		"Twice of Tells": func(n api.Net) api.Net { o, _ := Twice(n, 1, true); return o },
		"Own":            Own,
	}
}

func TestR4Memory(t *testing.T) {
	for name, f := range calls() {
		for _, many := range []int{1, 3, 59, 60, 61} {
			n := roomy(way(many, many))
			o := f(n)
			p := Own(o)
			if !hold(n, way(many, many)) || !spare(n) {
				t.Errorf("%s changes what it is given: %v", name, n)
			}
			spoil(f(n))
			if !hold(n, way(many, many)) || !spare(n) || !hold(o, p) {
				t.Errorf("what %s answers shares memory", name)
			}
			// Neither do any two lists of one answer.
			for at, x := range o.Tells {
				spoilTell(x)
				o.Tells[at].Seen = p.Tells[at].Seen
				if at+1 < len(o.Tells) && !hold(of(nil, o.Tells[at+1:]), of(nil, p.Tells[at+1:])) {
					t.Errorf("the lists of what %s answers share memory", name)
				}
			}
		}
	}
}

func TestR4MemoryOfNothing(t *testing.T) {
	// Of a row that is empty, with spare room.
	n := of(make([]api.Ask, 0, 3), make([]api.Tell, 0, 3))
	for name, f := range calls() {
		spoil(f(n))
		if n.Asks[:1][0] != (api.Ask{}) || !holdTell(n.Tells[:1][0], api.Tell{}) {
			t.Errorf("what %s answers shares spare room", name)
		}
	}
}

func TestR4MemoryOfATell(t *testing.T) {
	x := tell(1)
	x.Seen = slices.Grow(x.Seen, 9)
	n, _ := Post(api.Net{}, x)
	spoil(n)
	if !holdTell(x, tell(1)) || x.Seen[:3][2] != (api.Seen{}) {
		t.Error("what was posted is changed:", x)
	}
	n, _ = Post(api.Net{}, x)
	spoilTell(x)
	if !hold(n, of(nil, []api.Tell{tell(1)})) {
		t.Error("what was posted is kept:", n)
	}
	n = way(2, 3)
	o, y, _ := Tell(n, 1)
	spoilTell(y)
	if !hold(n, way(2, 3)) || !hold(o, of(way(2, 0).Asks, []api.Tell{tell(101), tell(103)})) {
		t.Error("what was taken shares memory:", n, o)
	}
}
