package phase

import (
	"math"
	"math/rand/v2"
	"slices"
	"testing"

	"herd/api"
	"herd/brain"
	"herd/record"
)

// least and greatest are the ends of Go's ints; never is a wait that no time of a test is behind.
const least, greatest, never = math.MinInt, math.MaxInt, math.MaxInt

// odd are no numbers, or none of an instance.
var odd = []int{least, least + 1, -1 << 40, -1, 1<<40 + 1, greatest - 1, greatest}

// pairs are the phases that may follow one another, as the chapter tells them.
var pairs = [][2]uint8{
	{api.PhHeld, api.PhYoung}, {api.PhHeld, api.PhEnding},
	{api.PhYoung, api.PhJoining}, {api.PhYoung, api.PhEnding},
	{api.PhJoining, api.PhServing},
	{api.PhServing, api.PhLeaving}, {api.PhServing, api.PhJoining},
	{api.PhLeaving, api.PhLeft}, {api.PhLeaving, api.PhServing},
	{api.PhLeft, api.PhHeldOut},
	{api.PhHeldOut, api.PhEnding},
	{api.PhWarmed, api.PhWaking}, {api.PhWarmed, api.PhEnding},
	{api.PhWaking, api.PhHeld},
}

// texts are the names of the phases, in order, and the one that no phase has.
var texts = []string{"", "held", "young", "joining", "serving", "leaving", "left", "heldout", "ending", "warmed", "waking"}

// waits answers a group each of whose waits is another one.
func waits() api.Conf {
	return api.Conf{Desired: 1, HookIn: 3, HookOut: 5, Warmup: 7, Drain: 9, Reap: 11, Timeout: 13, Fails: 15, Delay: 17, Version: 1}
}

// wait is by what an instance of a phase is due: behind how long, for which phase, and whether it is, too, if its hook is done.
type wait struct {
	phase uint8
	long  int
	to    uint8
	hook  bool
}

// dues answers by what instances are due, by waits.
func dues() []wait {
	return []wait{
		{api.PhHeld, 3, api.PhYoung, true},
		{api.PhYoung, 7, api.PhJoining, false},
		{api.PhLeft, 9, api.PhHeldOut, false},
		{api.PhHeldOut, 5, api.PhEnding, true},
	}
}

// others answers all numbers of phases, and of none, in which one is never due.
func others() []uint8 {
	var l []uint8
	for n := range 256 {
		if !slices.ContainsFunc(dues(), func(w wait) bool { return w.phase == uint8(n) }) {
			l = append(l, uint8(n))
		}
	}
	return l
}

// real tells whether there is a phase of that number.
func real(phase uint8) bool {
	return phase >= api.PhHeld && phase <= api.PhWaking
}

// due tells in t, if k is not due for to at now, by c; if to is 0: if it is due.
func due(t *testing.T, k api.Kept, c api.Conf, now int, to uint8) {
	t.Helper()
	if o, ok := Due(k, c, now); o != to || ok != (to > 0) {
		t.Errorf("Due(%v, %v, %d) = %d, %v, not %d", k, c, now, o, ok, to)
	}
}

func TestP141Legal(t *testing.T) {
	for from := range 256 {
		for to := range 256 {
			want := slices.Contains(pairs, [2]uint8{uint8(from), uint8(to)})
			if Legal(uint8(from), uint8(to)) != want {
				t.Errorf("Legal(%d, %d) is not %v", from, to, want)
			}
		}
	}
}

func TestP141LegalIsAsRecordsDo(t *testing.T) {
	// Chapter 13 tells the same changes of its own.
	for from := range 256 {
		b := api.Brain{Kept: []api.Kept{{Id: 1, Phase: uint8(from)}}}
		for to := range 256 {
			o := brain.Apply(b, record.Of(api.RecPhase, 1, to, 9))
			if changed := !brain.Same(o, b); changed != Legal(uint8(from), uint8(to)) {
				t.Errorf("Legal(%d, %d) is not %v, as RecPhase is", from, to, changed)
			}
		}
	}
}

func TestP141StandsGoes(t *testing.T) {
	stands := []uint8{api.PhHeld, api.PhYoung, api.PhJoining, api.PhServing, api.PhWaking}
	goes := []uint8{api.PhLeaving, api.PhLeft, api.PhHeldOut, api.PhEnding}
	for n := range 256 {
		phase := uint8(n)
		if Stands(phase) != slices.Contains(stands, phase) {
			t.Errorf("Stands(%d) = %v", n, Stands(phase))
		}
		if Goes(phase) != slices.Contains(goes, phase) {
			t.Errorf("Goes(%d) = %v", n, Goes(phase))
		}
	}
}

func TestP141Name(t *testing.T) {
	for n := range 256 {
		want := ""
		if n < len(texts) {
			want = texts[n]
		}
		if o := Name(uint8(n)); o != want {
			t.Errorf("Name(%d) = %q, not %q", n, o, want)
		}
	}
}

func TestP142DueBehindItsWait(t *testing.T) {
	for _, w := range dues() {
		for _, since := range []int{0, 1, 100, 1<<40 - 20, 1 << 40} {
			for past := -30; past <= 30; past++ {
				to := uint8(0)
				if past >= w.long {
					to = w.to
				}
				due(t, api.Kept{Id: 1, Phase: w.phase, Since: since}, waits(), since+past, to)
			}
		}
	}
}

func TestP142DueOfNoWait(t *testing.T) {
	// A wait of 0 is over at once, but not ahead of Since.
	for _, w := range dues() {
		k := api.Kept{Phase: w.phase, Since: 50}
		due(t, k, api.Conf{}, 49, 0)
		due(t, k, api.Conf{}, 50, w.to)
		due(t, k, api.Conf{}, 51, w.to)
	}
}

func TestP142DueByItsHook(t *testing.T) {
	for _, w := range dues() {
		k := api.Kept{Phase: w.phase, Since: 50, Complete: true}
		for _, now := range append(odd, 0, 49, 50, 50+w.long-1) {
			to := uint8(0)
			if w.hook || now-50 >= w.long {
				to = w.to
			}
			due(t, k, waits(), now, to)
		}
	}
}

func TestP142DueByItsOwnWait(t *testing.T) {
	// The other waits, and all that is told of it beside, do nothing.
	for _, w := range dues() {
		c := api.Conf{HookIn: never, HookOut: never, Warmup: never, Drain: never, Reap: never, Timeout: never, Fails: never, Delay: never}
		switch w.phase {
		case api.PhHeld:
			c.HookIn = 4
		case api.PhYoung:
			c.Warmup = 4
		case api.PhLeft:
			c.Drain = 4
		case api.PhHeldOut:
			c.HookOut = 4
		}
		for _, n := range append(odd, 0, 1) {
			k := api.Kept{Id: n, Token: n, Version: n, Zone: n, Phase: w.phase, Since: 10, Guarded: n%2 == 0}
			due(t, k, c, 13, 0)
			due(t, k, c, 14, w.to)
		}
	}
}

func TestP142DueNever(t *testing.T) {
	for _, phase := range others() {
		for _, now := range append(odd, 0, 1, 50, 1<<40) {
			for _, complete := range []bool{false, true} {
				k := api.Kept{Id: 1, Phase: phase, Complete: complete}
				due(t, k, waits(), now, 0)
				due(t, k, api.Conf{}, now, 0)
				due(t, k, api.Conf{HookIn: least, HookOut: least, Warmup: least, Drain: least}, now, 0)
			}
		}
	}
}

func TestP142DueGoesRound(t *testing.T) {
	// It is the time less Since that is held against the wait, by Go's ints.
	for _, w := range dues() {
		for _, c := range []struct {
			since, now int
			is         bool
		}{
			{1, least, true},            // goes round to the greatest
			{2, least + 1, true},        // so does this
			{greatest, least, false},    // goes round to 1
			{greatest, least + 9, true}, // to 10, above all the waits
			{-1, greatest, false},       // goes round to the least
			{least, greatest, false},    // to -1
			{least, 0, false},           // to the least
			{least, -1, true},           // the greatest
			{0, least, false},           // the least
			{greatest, greatest, false}, // 0
			{greatest - 20, greatest, true},
			{least, least + 20, true},
		} {
			to := uint8(0)
			if c.is {
				to = w.to
			}
			due(t, api.Kept{Phase: w.phase, Since: c.since}, waits(), c.now, to)
		}
	}
}

func TestP142DueOfWaitsThatMayNotBe(t *testing.T) {
	for _, w := range dues() {
		k := api.Kept{Phase: w.phase, Since: 50}
		for _, long := range append(odd, 21, 1000) {
			c := api.Conf{HookIn: long, HookOut: long, Warmup: long, Drain: long}
			for _, now := range append(odd, 0, 49, 50, 51, 71) {
				to := uint8(0)
				if now-50 >= long {
					to = w.to
				}
				due(t, k, c, now, to)
			}
		}
		c := api.Conf{HookIn: -5, HookOut: -5, Warmup: -5, Drain: -5}
		due(t, k, c, 44, 0)
		due(t, k, c, 45, w.to)
	}
}

func TestP142Find(t *testing.T) {
	l := []api.Kept{{Id: 4}, {Id: 7, Token: 1}, {Id: 7, Token: 2}, {Id: 2}, {Id: -3}, {Id: greatest}, {}, {Id: 4, Token: 9}}
	for id, want := range map[int]int{4: 0, 7: 1, 2: 3, -3: 4, greatest: 5, 0: 6, 1: -1, 5: -1, 8: -1, least: -1, 1 << 40: -1} {
		if o := Find(l, id); o != want {
			t.Errorf("Find(%d) = %d, not %d", id, o, want)
		}
	}
	for _, id := range append(odd, 0, 1) {
		if Find(nil, id) != -1 || Find([]api.Kept{}, id) != -1 || Find(l[:0], id) != -1 {
			t.Error("of none one is found:", id)
		}
	}
	// What is behind the list is not of it.
	if Find(l[:3], 2) != -1 {
		t.Error("one is found behind the list")
	}
}

func TestP142FindOfMany(t *testing.T) {
	var l []api.Kept
	for n := range 2000 {
		l = append(l, api.Kept{Id: n/2 + 1, Token: n})
	}
	for id := 1; id <= 1000; id++ {
		if o := Find(l, id); o != 2*(id-1) {
			t.Errorf("Find(%d) = %d", id, o)
		}
	}
}

func TestP143Path(t *testing.T) {
	whole := []uint8{api.PhHeld, api.PhYoung, api.PhJoining, api.PhServing, api.PhLeaving, api.PhLeft, api.PhHeldOut, api.PhEnding}
	want := map[uint8][]uint8{
		api.PhWarmed: append([]uint8{api.PhWarmed, api.PhWaking}, whole...),
		api.PhWaking: append([]uint8{api.PhWaking}, whole...),
	}
	for at, phase := range whole {
		want[phase] = whole[at:]
	}
	for n := range 256 {
		if o := Path(uint8(n)); !slices.Equal(o, want[uint8(n)]) {
			t.Errorf("Path(%d) = %v, not %v", n, o, want[uint8(n)])
		}
	}
}

func TestP144WhatIsDueMayFollow(t *testing.T) {
	r := rand.New(rand.NewPCG(14, 4))
	some := func() int {
		if r.IntN(4) == 0 {
			return odd[r.IntN(len(odd))]
		}
		return r.IntN(60) - 20
	}
	many := 0
	for range 100000 {
		k := api.Kept{Id: some(), Phase: uint8(r.IntN(14)), Since: some(), Complete: r.IntN(2) > 0}
		c := api.Conf{HookIn: some(), HookOut: some(), Warmup: some(), Drain: some()}
		to, ok := Due(k, c, some())
		if ok != Legal(k.Phase, to) || ok != (to > 0) {
			t.Fatalf("%v, by %v, is due for %d: %v", k, c, to, ok)
		}
		if ok {
			many++
		}
	}
	if many < 1000 {
		t.Error("too few were due to tell:", many)
	}
}

func TestP144EachStandsOrGoesOrIsWarmed(t *testing.T) {
	for n := range 256 {
		phase, is := uint8(n), 0
		for _, so := range []bool{Stands(phase), Goes(phase), phase == api.PhWarmed} {
			if so {
				is++
			}
		}
		if is > 1 || (is == 1) != real(phase) {
			t.Errorf("%d of the three is so of %d", is, n)
		}
	}
}

func TestP144EndingIsComeTo(t *testing.T) {
	for phase := api.PhHeld; phase <= api.PhWaking; phase++ {
		l := Path(phase)
		if len(l) == 0 || l[0] != phase || l[len(l)-1] != api.PhEnding {
			t.Fatalf("from %d on: %v", phase, l)
		}
		for at := range l[1:] {
			if !Legal(l[at], l[at+1]) {
				t.Errorf("from %d on %d comes behind %d, which it may not follow", phase, l[at+1], l[at])
			}
		}
	}
	for to := range 256 {
		if Legal(api.PhEnding, uint8(to)) {
			t.Error("from Ending there is come to:", to)
		}
	}
}

func TestR3R4(t *testing.T) {
	for n := range 256 {
		from := uint8(n)
		was, o := Path(from), Path(from)
		for at := range o {
			o[at] = 99
		}
		_ = append(o, 99)
		if !slices.Equal(Path(from), was) {
			t.Errorf("Path(%d) is another one: %v", n, Path(from))
		}
	}
	l := []api.Kept{{Id: 4, Phase: api.PhHeld}, {Id: 7}, {Id: 9, Complete: true}}
	was := slices.Clone(l)
	Find(l[:2], 9)
	if !slices.Equal(l, was) {
		t.Error("Find changes what it is given:", l)
	}
	k, c := l[0], waits()
	c.Marks = []int{30, 60}
	Due(k, c, 99)
	if !slices.Equal(c.Marks, []int{30, 60}) {
		t.Error("Due changes what it is given:", c)
	}
}
