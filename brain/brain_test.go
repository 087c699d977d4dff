package brain

import (
	"math"
	"math/rand/v2"
	"slices"
	"testing"

	"herd/api"
	"herd/conf"
	"herd/record"
)

// least and greatest are the ends of Go's ints; top is the greatest number.
const least, greatest, top = math.MinInt, math.MaxInt, 1 << 40

// odd are no numbers.
var odd = []int{least, least + 1, -1 << 40, -1, top + 1, 1 << 41, greatest - 1, greatest}

// row is the row of group.
var row = []int{3, 50, 1, 2, 5, 6, 7, 8, 9, 10, 3, 4, 21, 1, 30, 60}

// group answers a group that may be.
func group() api.Conf {
	return api.Conf{
		Desired: 3, Min: 50, Surplus: 1, Pool: 2, HookIn: 5, HookOut: 6, Warmup: 7, Drain: 8,
		Reap: 9, Timeout: 10, Fails: 3, Delay: 4, Version: 21, Skip: true, Marks: []int{30, 60},
	}
}

// full answers a brain with launches that are meant, one of them warm, an instance in each phase (its id is ten times that), and a refresh that is active.
func full() api.Brain {
	b := api.Brain{
		Epoch: 2, Seq: 90, Set: true, Conf: group(),
		Intents: []api.Intent{{Token: 70, Version: 21, Zone: 1}, {Token: 80, Version: 22, Zone: 3, Warm: true}, {Token: 90, Version: 23}},
		Ref:     api.Refresh{State: api.RefActive, From: 21, Target: 22, Step: 1, Since: 40, Fails: 1},
	}
	for phase := api.PhHeld; phase < api.Phases; phase++ {
		id := 10 * int(phase)
		b.Kept = append(b.Kept, api.Kept{Id: id, Token: id / 2, Version: 21, Zone: id % 4, Phase: phase, Since: id + 5, Guarded: phase%2 == 0, Complete: true})
	}
	return b
}

// bare answers a brain of nothing but a group.
func bare() api.Brain {
	return api.Brain{Set: true, Conf: group()}
}

// behind answers full behind put.
func behind(put func(b *api.Brain)) api.Brain {
	b := full()
	put(&b)
	return b
}

// ref answers full with another refresh.
func ref(x api.Refresh) api.Brain {
	return behind(func(b *api.Brain) { b.Ref = x })
}

// like tells whether a and b are the same, field by field.
func like(a, b api.Brain) bool {
	return a.Epoch == b.Epoch && a.Seq == b.Seq && a.Set == b.Set && conf.Same(a.Conf, b.Conf) &&
		slices.Equal(a.Intents, b.Intents) && slices.Equal(a.Kept, b.Kept) && a.Ref == b.Ref
}

// is tells in t, if b behind the record of kind and l is not want, by Apply or by All.
func is(t *testing.T, b, want api.Brain, kind uint8, l ...int) {
	t.Helper()
	r := api.Rec{Kind: kind, L: l}
	if o := Apply(b, r); !like(o, want) {
		t.Errorf("Apply(%v, %v) = %v, not %v", b, r, o, want)
	}
	if o := All(b, r); !like(o, want) {
		t.Errorf("All(%v, %v) = %v, not %v", b, r, o, want)
	}
}

// nothing tells in t, if the record of kind and l changes b.
func nothing(t *testing.T, b api.Brain, kind uint8, l ...int) {
	t.Helper()
	is(t, b, b, kind, l...)
}

// fitting answers a record of each kind that fits full, but RecStart and RecGo.
func fitting() []api.Rec {
	return []api.Rec{
		{Kind: api.RecBoot},
		{Kind: api.RecConf, L: slices.Clone(row[:14])},
		{Kind: api.RecIntent, L: []int{24, 2, 1}},
		{Kind: api.RecMade, L: []int{70, 15, 50}},
		{Kind: api.RecFail, L: []int{50}},
		{Kind: api.RecPhase, L: []int{10, 2, 50}},
		{Kind: api.RecGone, L: []int{30}},
		{Kind: api.RecTake, L: []int{25, 4, 5, 6, 50}},
		{Kind: api.RecGuard, L: []int{10, 1}},
		{Kind: api.RecComplete, L: []int{70}},
		{Kind: api.RecCancel},
		{Kind: api.RecRoll},
		{Kind: api.RecPause, L: []int{50}},
		{Kind: api.RecDone},
	}
}

// every answers a record of each kind, with a brain that it fits, and changes.
func every() ([]api.Rec, []api.Brain) {
	l := append(fitting(), record.Of(api.RecStart, 24, 50), record.Of(api.RecGo))
	var bs []api.Brain
	for _, r := range l {
		b := full()
		switch r.Kind {
		case api.RecStart:
			b.Ref = api.Refresh{}
		case api.RecRoll, api.RecGo:
			b.Ref.Paused = true
		case api.RecComplete:
			b.Kept[6].Complete = false
		}
		bs = append(bs, b)
	}
	return l, bs
}

func TestP131Find(t *testing.T) {
	for at := range full().Kept {
		if n := Find(full(), 10*at+10); n != at {
			t.Errorf("Find of %d = %d", 10*at+10, n)
		}
	}
	for _, id := range append(odd, 0, 1, 9, 11, 55, 70-1, 101, 110) {
		if n := Find(full(), id); n != -1 {
			t.Errorf("Find of %d = %d", id, n)
		}
	}
	// The first one counts, also of ids that may not be, in whatever order.
	b := api.Brain{Kept: []api.Kept{{Id: 9}, {Id: -5, Zone: 1}, {Id: 4}, {Id: -5}, {Id: 4}, {Id: greatest}, {}}}
	for id, at := range map[int]int{9: 0, -5: 1, 4: 2, greatest: 5, 0: 6, 5: -1} {
		if n := Find(b, id); n != at {
			t.Errorf("Find of %d = %d", id, n)
		}
	}
	if Find(api.Brain{}, 0) != -1 || Find(api.Brain{Intents: full().Intents}, 70) != -1 {
		t.Error("found in nothing")
	}
}

func TestP131Token(t *testing.T) {
	for at, token := range []int{70, 80, 90} {
		if n := Token(full(), token); n != at {
			t.Errorf("Token of %d = %d", token, n)
		}
	}
	for _, token := range append(odd, 0, 1, 5, 10, 69, 71, 91) {
		if n := Token(full(), token); n != -1 {
			t.Errorf("Token of %d = %d", token, n)
		}
	}
	b := api.Brain{Intents: []api.Intent{{Token: 9}, {Token: -5, Zone: 1}, {Token: 4}, {Token: -5}, {Token: 4}, {}}}
	for token, at := range map[int]int{9: 0, -5: 1, 4: 2, 0: 5, 5: -1} {
		if n := Token(b, token); n != at {
			t.Errorf("Token of %d = %d", token, n)
		}
	}
	if Token(api.Brain{}, 0) != -1 || Token(api.Brain{Kept: full().Kept}, 5) != -1 {
		t.Error("found in nothing")
	}
}

// rights are what full may be behind.
func rights() []func(b *api.Brain) {
	return []func(b *api.Brain){
		func(b *api.Brain) {},
		func(b *api.Brain) { b.Epoch, b.Seq = 0, top },
		func(b *api.Brain) { b.Epoch, b.Seq, b.Intents = top, 0, nil },
		func(b *api.Brain) { b.Intents[0].Token, b.Intents[1].Token, b.Intents[2].Token, b.Seq = 1, 2, 3, 3 },
		func(b *api.Brain) { b.Intents[2].Token, b.Seq = top, top },
		func(b *api.Brain) { b.Intents[0].Version, b.Intents[0].Zone = -1, greatest },
		func(b *api.Brain) { b.Kept[0].Id, b.Kept[9].Id = 1, top },
		func(b *api.Brain) { b.Kept = []api.Kept{} },
		func(b *api.Brain) {
			b.Kept[0].Token, b.Kept[0].Version, b.Kept[0].Zone, b.Kept[0].Since = -1, least, greatest, -9
		},
		func(b *api.Brain) { b.Ref.From, b.Ref.Target = 1, 1 },
		func(b *api.Brain) { b.Ref.From, b.Ref.Target = top, top },
		func(b *api.Brain) { b.Ref.Step, b.Ref.Since, b.Ref.Fails, b.Ref.Paused = -1, least, greatest, true },
		func(b *api.Brain) { b.Ref = api.Refresh{State: api.RefDone} },
		func(b *api.Brain) { b.Ref = api.Refresh{State: api.RefCancelled, From: -1, Target: greatest} },
		func(b *api.Brain) { b.Ref = api.Refresh{From: -1, Target: greatest} },
		func(b *api.Brain) { b.Conf.Version, b.Conf.Marks = top, nil },
		func(b *api.Brain) { b.Set, b.Intents, b.Ref = false, nil, api.Refresh{} },
		func(b *api.Brain) {
			b.Set, b.Intents, b.Ref, b.Conf = false, []api.Intent{}, api.Refresh{From: -1}, api.Conf{Desired: -1}
		},
	}
}

// wrongs are what full may not be behind.
func wrongs() []func(b *api.Brain) {
	l := []func(b *api.Brain){
		func(b *api.Brain) { b.Seq = 89 },
		func(b *api.Brain) { b.Seq = 0 },
		func(b *api.Brain) { b.Intents[0].Token = 0 },
		func(b *api.Brain) { b.Intents[0].Token = -1 },
		func(b *api.Brain) { b.Intents[1].Token = 70 },
		func(b *api.Brain) { b.Intents[1].Token = 69 },
		func(b *api.Brain) { b.Intents[0].Token = 81 },
		func(b *api.Brain) { b.Intents[2].Token = 80 },
		func(b *api.Brain) { b.Kept[0].Id = 0 },
		func(b *api.Brain) { b.Kept[0].Id = -1 },
		func(b *api.Brain) { b.Kept[9].Id = top + 1 },
		func(b *api.Brain) { b.Kept[1].Id = 10 },
		func(b *api.Brain) { b.Kept[9].Id = 89 },
		func(b *api.Brain) { b.Kept[0].Id = 21 },
		func(b *api.Brain) { slices.Reverse(b.Kept) },
		func(b *api.Brain) { b.Kept[0].Phase = 0 },
		func(b *api.Brain) { b.Kept[9].Phase = 11 },
		func(b *api.Brain) { b.Kept[5].Phase = 255 },
		func(b *api.Brain) { b.Ref.From = 0 },
		func(b *api.Brain) { b.Ref.Target = 0 },
		func(b *api.Brain) { b.Conf.Desired = 7 },
		func(b *api.Brain) { b.Conf.Version = 0 },
		func(b *api.Brain) { b.Conf.Marks = []int{60, 30} },
		func(b *api.Brain) { b.Conf = api.Conf{} },
		func(b *api.Brain) { b.Set = false },
		func(b *api.Brain) { b.Set, b.Intents = false, nil },
		func(b *api.Brain) { b.Set, b.Ref = false, api.Refresh{} },
		func(b *api.Brain) { b.Set, b.Intents, b.Ref.State = false, nil, api.RefDone },
		func(b *api.Brain) { b.Set, b.Intents, b.Ref.State = false, nil, api.RefCancelled },
	}
	for _, n := range odd {
		l = append(l,
			func(b *api.Brain) { b.Epoch = n },
			func(b *api.Brain) { b.Seq = n },
			func(b *api.Brain) { b.Intents[0].Token = n },
			func(b *api.Brain) { b.Intents[2].Token = n },
			func(b *api.Brain) { b.Kept[0].Id = n },
			func(b *api.Brain) { b.Kept[9].Id = n },
			func(b *api.Brain) { b.Ref.From = n },
			func(b *api.Brain) { b.Ref.Target = n },
			func(b *api.Brain) { b.Conf.Version = n },
		)
	}
	return l
}

func TestP131Right(t *testing.T) {
	for i, put := range rights() {
		if b := behind(put); !Right(b) {
			t.Errorf("%d: %v may not be", i, b)
		}
	}
	for i, put := range wrongs() {
		if b := behind(put); Right(b) {
			t.Errorf("%d: %v may be", i, b)
		}
	}
	if !Right(api.Brain{}) || !Right(bare()) || Right(api.Brain{Set: true}) {
		t.Error("of nothing")
	}
}

func TestP131Own(t *testing.T) {
	for i, put := range append(rights(), wrongs()...) {
		b := behind(put)
		o := Own(b)
		if !like(o, behind(put)) || !like(b, behind(put)) {
			t.Errorf("%d: Own(%v) = %v", i, b, o)
		}
	}
	if !like(Own(api.Brain{}), api.Brain{}) {
		t.Error(Own(api.Brain{}))
	}
}

// others are what makes another brain of full, each by one field.
func others() []func(b *api.Brain) {
	return []func(b *api.Brain){
		func(b *api.Brain) { b.Epoch++ },
		func(b *api.Brain) { b.Seq-- },
		func(b *api.Brain) { b.Set = false },
		func(b *api.Brain) { b.Conf.Desired++ },
		func(b *api.Brain) { b.Conf.Version++ },
		func(b *api.Brain) { b.Conf.Skip = false },
		func(b *api.Brain) { b.Conf.Marks[1]++ },
		func(b *api.Brain) { b.Conf.Marks = b.Conf.Marks[:1] },
		func(b *api.Brain) { b.Intents[0].Token++ },
		func(b *api.Brain) { b.Intents[1].Version++ },
		func(b *api.Brain) { b.Intents[2].Zone++ },
		func(b *api.Brain) { b.Intents[2].Warm = true },
		func(b *api.Brain) { b.Intents = b.Intents[:2] },
		func(b *api.Brain) { b.Intents = append(b.Intents, api.Intent{}) },
		func(b *api.Brain) { b.Intents[0], b.Intents[1] = b.Intents[1], b.Intents[0] },
		func(b *api.Brain) { b.Kept[0].Id++ },
		func(b *api.Brain) { b.Kept[1].Token++ },
		func(b *api.Brain) { b.Kept[2].Version++ },
		func(b *api.Brain) { b.Kept[3].Zone++ },
		func(b *api.Brain) { b.Kept[4].Phase++ },
		func(b *api.Brain) { b.Kept[5].Since++ },
		func(b *api.Brain) { b.Kept[6].Guarded = true },
		func(b *api.Brain) { b.Kept[9].Complete = false },
		func(b *api.Brain) { b.Kept = b.Kept[:9] },
		func(b *api.Brain) { b.Kept = append(b.Kept, api.Kept{}) },
		func(b *api.Brain) { slices.Reverse(b.Kept) },
		func(b *api.Brain) { b.Ref.State = api.RefDone },
		func(b *api.Brain) { b.Ref.From++ },
		func(b *api.Brain) { b.Ref.Target++ },
		func(b *api.Brain) { b.Ref.Step++ },
		func(b *api.Brain) { b.Ref.Paused = true },
		func(b *api.Brain) { b.Ref.Since++ },
		func(b *api.Brain) { b.Ref.Fails++ },
	}
}

func TestP131Same(t *testing.T) {
	if !Same(full(), full()) || !Same(api.Brain{}, api.Brain{}) || Same(full(), api.Brain{}) || Same(bare(), full()) {
		t.Error("of the same, of another one")
	}
	empty := api.Brain{Conf: api.Conf{Marks: []int{}}, Intents: []api.Intent{}, Kept: []api.Kept{}}
	if !Same(empty, api.Brain{}) || !Same(api.Brain{}, empty) {
		t.Error("nil and empty are not the same")
	}
	for i, put := range others() {
		b := behind(put)
		if Same(b, full()) || Same(full(), b) {
			t.Errorf("%d: the same as %v", i, b)
		}
		if !Same(b, behind(put)) {
			t.Errorf("%d: not the same as itself: %v", i, b)
		}
	}
}

func TestP132Boot(t *testing.T) {
	for _, epoch := range []int{0, 1, 1 << 20, top - 1} {
		b := behind(func(b *api.Brain) { b.Epoch = epoch })
		is(t, b, behind(func(b *api.Brain) { b.Epoch = epoch + 1 }), api.RecBoot)
	}
	is(t, behind(func(b *api.Brain) { b.Epoch = -7 }), behind(func(b *api.Brain) { b.Epoch = -6 }), api.RecBoot)
	nothing(t, behind(func(b *api.Brain) { b.Epoch = top }), api.RecBoot)
	nothing(t, behind(func(b *api.Brain) { b.Epoch = greatest }), api.RecBoot)
	if b := All(api.Brain{}, record.Of(api.RecBoot), record.Of(api.RecBoot)); !like(b, api.Brain{Epoch: 2}) {
		t.Error(b)
	}
}

func TestP132Conf(t *testing.T) {
	// The first group brings its version; a later one leaves it.
	is(t, api.Brain{}, bare(), api.RecConf, row...)
	is(t, api.Brain{Conf: api.Conf{Desired: 9, Version: 5, Marks: []int{4}}}, bare(), api.RecConf, row...)
	l := []int{2, 0, 0, 0, 0, 0, 0, 0, 1, 1, 1, 0, 99, 0, 10, 20, 30, 40}
	want := behind(func(b *api.Brain) {
		b.Conf = api.Conf{Desired: 2, Reap: 1, Timeout: 1, Fails: 1, Version: 21, Marks: []int{10, 20, 30, 40}}
	})
	is(t, full(), want, api.RecConf, l...)
	want.Conf.Marks = nil
	is(t, full(), want, api.RecConf, l[:14]...)
	is(t, full(), full(), api.RecConf, row...)
	// Also of a version that may not be.
	is(t, behind(func(b *api.Brain) { b.Conf.Version = -3 }), behind(func(b *api.Brain) { b.Conf.Version = -3 }), api.RecConf, row...)
}

func TestP132ConfOfNoRow(t *testing.T) {
	for _, b := range []api.Brain{{}, full()} {
		nothing(t, b, api.RecConf)
		nothing(t, b, api.RecConf, row[:13]...)
		nothing(t, b, api.RecConf, append(slices.Clone(row), 70, 80, 90)...)
		nothing(t, b, api.RecConf, append(slices.Clone(row), 60)...)
		nothing(t, b, api.RecConf, append(slices.Clone(row), 101)...)
		nothing(t, b, api.RecConf, make([]int, 14)...)
		nothing(t, b, api.RecConf, make([]int, 100000)...)
		for at := range row {
			for _, n := range odd {
				l := slices.Clone(row)
				l[at] = n
				nothing(t, b, api.RecConf, l...)
			}
		}
		// No room for one that leaves, or for one more.
		nothing(t, b, api.RecConf, 3, 100, 0, 2, 5, 6, 7, 8, 9, 10, 3, 4, 21, 1)
		nothing(t, b, api.RecConf, 3, 50, 0, 2, 5, 6, 7, 8, 9, 10, 3, 4, 21, 2)
		nothing(t, b, api.RecConf, 3, 50, 0, 2, 5, 6, 7, 8, 9, 10, 3, 4, 0, 1)
	}
}

func TestP132Intent(t *testing.T) {
	for _, version := range []int{1, 2, top - 1, top} {
		for zone := range 4 {
			for warm := range 2 {
				x := api.Intent{Token: 91, Version: version, Zone: zone, Warm: warm == 1}
				is(t, full(), behind(func(b *api.Brain) { b.Seq, b.Intents = 91, append(b.Intents, x) }), api.RecIntent, version, zone, warm)
			}
		}
	}
	want := bare()
	want.Seq, want.Intents = 1, []api.Intent{{Token: 1, Version: 5, Zone: 2}}
	is(t, bare(), want, api.RecIntent, 5, 2, 0)
	want.Seq, want.Intents = 2, append(want.Intents, api.Intent{Token: 2, Version: 6, Zone: 3, Warm: true})
	if b := All(bare(), record.Of(api.RecIntent, 5, 2, 0), record.Of(api.RecIntent, 6, 3, 1)); !like(b, want) {
		t.Error(b)
	}
	// The last token.
	b := bare()
	b.Seq = top - 1
	want = bare()
	want.Seq, want.Intents = top, []api.Intent{{Token: top, Version: 1}}
	is(t, b, want, api.RecIntent, 1, 0, 0)
	nothing(t, want, api.RecIntent, 1, 0, 0)
}

func TestP132IntentThatDoesNotFit(t *testing.T) {
	nothing(t, api.Brain{}, api.RecIntent, 1, 0, 0)
	nothing(t, behind(func(b *api.Brain) { b.Set = false }), api.RecIntent, 1, 0, 0)
	nothing(t, behind(func(b *api.Brain) { b.Seq = top }), api.RecIntent, 1, 0, 0)
	nothing(t, behind(func(b *api.Brain) { b.Seq = greatest }), api.RecIntent, 1, 0, 0)
	nothing(t, full(), api.RecIntent, 0, 0, 0)
	nothing(t, full(), api.RecIntent, 1, 4, 0)
	nothing(t, full(), api.RecIntent, 1, top, 0)
	nothing(t, full(), api.RecIntent, 1, 0, 2)
	nothing(t, full(), api.RecIntent, 1, 0, top)
}

func TestP132Made(t *testing.T) {
	for _, x := range []struct{ token, intent, id, at int }{
		{70, 0, 5, 0}, {70, 0, 1, 0}, {70, 0, 9, 0}, {80, 1, 11, 1}, {90, 2, 55, 5}, {90, 2, 99, 9}, {80, 1, 101, 10}, {70, 0, top, 10},
	} {
		m := full().Intents[x.intent]
		k := api.Kept{Id: x.id, Token: x.token, Version: m.Version, Zone: m.Zone, Phase: api.PhHeld, Since: 66}
		if x.token == 80 {
			k.Phase = api.PhWarmed
		}
		is(t, full(), behind(func(b *api.Brain) {
			b.Intents = slices.Delete(b.Intents, x.intent, x.intent+1)
			b.Kept = slices.Insert(b.Kept, x.at, k)
			b.Ref.Fails = 0
		}), api.RecMade, x.token, x.id, 66)
	}
	// The first one that is kept; since nought, and since the end of time.
	for _, now := range []int{0, top} {
		b := bare()
		b.Intents = []api.Intent{{Token: 4, Version: 5, Zone: 3}}
		want := bare()
		want.Kept = []api.Kept{{Id: 7, Token: 4, Version: 5, Zone: 3, Phase: api.PhHeld, Since: now}}
		is(t, b, want, api.RecMade, 4, 7, now)
	}
}

func TestP132MadeAndFails(t *testing.T) {
	for state := range 256 {
		x := api.Refresh{State: uint8(state), From: 3, Target: 4, Step: 5, Paused: true, Since: 6, Fails: 2}
		want := ref(x)
		want.Intents = want.Intents[1:]
		want.Kept = slices.Insert(want.Kept, 0, api.Kept{Id: 5, Token: 70, Version: 21, Zone: 1, Phase: api.PhHeld, Since: 66})
		if state == 1 {
			want.Ref.Fails = 0
		}
		is(t, ref(x), want, api.RecMade, 70, 5, 66)
	}
}

func TestP132MadeThatDoesNotFit(t *testing.T) {
	nothing(t, full(), api.RecMade, 71, 5, 66)
	nothing(t, full(), api.RecMade, 0, 5, 66)
	nothing(t, full(), api.RecMade, 70, 0, 66)
	for id := 10; id <= 100; id += 10 {
		nothing(t, full(), api.RecMade, 70, id, 66)
	}
	nothing(t, api.Brain{}, api.RecMade, 0, 5, 66)
	// Once made it is meant no more.
	b := Apply(full(), record.Of(api.RecMade, 70, 5, 66))
	nothing(t, b, api.RecMade, 70, 6, 66)
}

func TestP132MadeOfWhatMayNotBe(t *testing.T) {
	// The first of a token counts, and goes alone; the place is ahead of the first greater id.
	b := api.Brain{
		Intents: []api.Intent{{Token: 9, Version: 1}, {Token: 4, Version: 2, Zone: -8, Warm: true}, {Token: 4, Version: 3}, {Version: -9}},
		Kept:    []api.Kept{{Id: 3}, {Id: 8}, {Id: 5}, {Id: 9}, {Id: 1}},
	}
	want := Own(b)
	want.Intents = slices.Delete(want.Intents, 1, 2)
	want.Kept = slices.Insert(want.Kept, 1, api.Kept{Id: 6, Token: 4, Version: 2, Zone: -8, Phase: api.PhWarmed, Since: 7})
	is(t, b, want, api.RecMade, 4, 6, 7)
	want = Own(b)
	want.Intents = want.Intents[:3]
	want.Kept = append(want.Kept, api.Kept{Id: 20, Version: -9, Phase: api.PhHeld})
	is(t, b, want, api.RecMade, 0, 20, 0)
}

func TestP132Fail(t *testing.T) {
	for most := 1; most <= 20; most++ {
		for fails := range 23 {
			b := behind(func(b *api.Brain) { b.Conf.Fails, b.Ref.Fails = most, fails })
			want := Own(b)
			want.Ref.Fails = fails + 1
			if fails+1 >= most {
				want.Ref.Target, want.Ref.Fails = 21, 0
			}
			is(t, b, want, api.RecFail, 66)
		}
	}
	for state := range 256 {
		if state != 1 {
			nothing(t, ref(api.Refresh{State: uint8(state), From: 3, Target: 4, Fails: 9}), api.RecFail, 66)
		}
	}
	nothing(t, api.Brain{}, api.RecFail, 0)
	// A pause stays.
	x := api.Refresh{State: api.RefActive, From: 3, Target: 4, Step: 2, Paused: true, Since: 40, Fails: 2}
	y := x
	y.Target, y.Fails = 3, 0
	is(t, ref(x), ref(y), api.RecFail, 66)
}

// may are the changes of phases that may be.
var may = [][2]int{
	{1, 2}, {1, 8}, {2, 3}, {2, 8}, {3, 4}, {4, 5}, {4, 3}, {5, 6}, {5, 4}, {6, 7}, {7, 8}, {9, 10}, {9, 8}, {10, 1},
}

func TestP132Phase(t *testing.T) {
	for from := range 256 {
		b := behind(func(b *api.Brain) { b.Kept[2].Phase = uint8(from) })
		for to := range 300 {
			want := Own(b)
			if slices.Contains(may, [2]int{from, to}) {
				want.Kept[2].Phase, want.Kept[2].Since, want.Kept[2].Complete = uint8(to), 66, false
			}
			if o := Apply(b, record.Of(api.RecPhase, 30, to, 66)); !like(o, want) {
				t.Errorf("from %d to %d: %v", from, to, o.Kept[2])
			}
		}
	}
}

func TestP132PhaseThatDoesNotFit(t *testing.T) {
	// 258 would be 2, if it went round.
	for _, to := range []int{0, 1, 11, 258, 1<<8 + 8, 1<<32 + 2, top} {
		nothing(t, full(), api.RecPhase, 10, to, 66)
	}
	for _, id := range []int{0, 1, 11, 110, top} {
		nothing(t, full(), api.RecPhase, id, 2, 66)
	}
	nothing(t, api.Brain{}, api.RecPhase, 0, 0, 0)
	// The first one of an id counts, whatever the id.
	for _, id := range []int{0, 7} {
		b := api.Brain{Kept: []api.Kept{{Id: 9, Phase: 1}, {Id: id, Phase: 3}, {Id: id, Phase: 1}}}
		want := Own(b)
		want.Kept[1].Phase, want.Kept[1].Since = 4, 5
		nothing(t, b, api.RecPhase, id, 2, 5)
		is(t, b, want, api.RecPhase, id, 4, 5)
	}
}

func TestP132Gone(t *testing.T) {
	for at := range 10 {
		is(t, full(), behind(func(b *api.Brain) { b.Kept = slices.Delete(b.Kept, at, at+1) }), api.RecGone, 10*at+10)
	}
	for _, id := range []int{0, 1, 11, 70 + 1, 110, top} {
		nothing(t, full(), api.RecGone, id)
	}
	nothing(t, api.Brain{}, api.RecGone, 0)
	// The first one goes alone, whatever the id.
	for _, id := range []int{0, 7} {
		b := api.Brain{Kept: []api.Kept{{Id: 9}, {Id: id, Zone: 1}, {Id: id, Zone: 2}}}
		is(t, b, api.Brain{Kept: []api.Kept{{Id: 9}, {Id: id, Zone: 2}}}, api.RecGone, id)
	}
}

func TestP132Take(t *testing.T) {
	for id, at := range map[int]int{1: 0, 9: 0, 11: 1, 55: 5, 99: 9, 101: 10, top: 10} {
		k := api.Kept{Id: id, Token: 70, Version: 4, Zone: 5, Phase: api.PhEnding, Since: 66}
		is(t, full(), behind(func(b *api.Brain) { b.Kept = slices.Insert(b.Kept, at, k) }), api.RecTake, id, 70, 4, 5, 66)
	}
	is(t, api.Brain{}, api.Brain{Kept: []api.Kept{{Id: 1, Phase: api.PhEnding}}}, api.RecTake, 1, 0, 0, 0, 0)
	is(t, api.Brain{}, api.Brain{Kept: []api.Kept{{Id: top, Token: top, Version: top, Zone: top, Phase: api.PhEnding, Since: top}}}, api.RecTake, top, top, top, top, top)
	nothing(t, full(), api.RecTake, 0, 1, 1, 1, 66)
	for id := 10; id <= 100; id += 10 {
		nothing(t, full(), api.RecTake, id, 1, 1, 1, 66)
	}
}

func TestP132Guard(t *testing.T) {
	for at := range 10 {
		is(t, full(), behind(func(b *api.Brain) { b.Kept[at].Guarded = true }), api.RecGuard, 10*at+10, 1)
		is(t, full(), behind(func(b *api.Brain) { b.Kept[at].Guarded = false }), api.RecGuard, 10*at+10, 0)
		nothing(t, full(), api.RecGuard, 10*at+10, 2)
		nothing(t, full(), api.RecGuard, 10*at+10, top)
	}
	for _, id := range []int{0, 1, 11, 110, top} {
		nothing(t, full(), api.RecGuard, id, 1)
	}
	b := api.Brain{Kept: []api.Kept{{Id: 9}, {Id: 7}, {Id: 7}}}
	want := Own(b)
	want.Kept[1].Guarded = true
	is(t, b, want, api.RecGuard, 7, 1)
}

func TestP132Complete(t *testing.T) {
	for phase := range 256 {
		for _, complete := range []bool{false, true} {
			b := behind(func(b *api.Brain) { b.Kept[4].Phase, b.Kept[4].Complete = uint8(phase), complete })
			want := Own(b)
			want.Kept[4].Complete = complete || phase == 1 || phase == 7
			is(t, b, want, api.RecComplete, 50)
		}
	}
	for _, id := range []int{0, 1, 11, 110, top} {
		nothing(t, full(), api.RecComplete, id)
	}
}

func TestP132Start(t *testing.T) {
	for state := range 256 {
		for _, target := range []int{0, 1, 21, 22, top} {
			b := ref(api.Refresh{State: uint8(state), From: 3, Target: 4, Step: 5, Paused: true, Since: 6, Fails: 7})
			want := Own(b)
			if state != 1 && target > 0 {
				want.Ref = api.Refresh{State: api.RefActive, From: 21, Target: target, Since: 66}
			}
			is(t, b, want, api.RecStart, target, 66)
		}
	}
	nothing(t, api.Brain{}, api.RecStart, 1, 0)
	nothing(t, api.Brain{Conf: group()}, api.RecStart, 1, 0)
	want := bare()
	want.Ref = api.Refresh{State: api.RefActive, From: 21, Target: 1}
	is(t, bare(), want, api.RecStart, 1, 0)
}

func TestP132OfARefresh(t *testing.T) {
	for state := range 256 {
		for _, paused := range []bool{false, true} {
			x := api.Refresh{State: uint8(state), From: 3, Target: 4, Step: 5, Paused: paused, Since: 6, Fails: 2}
			b, active := ref(x), state == 1
			cancelled, rolled, gone, on, done := x, x, x, x, x
			if active {
				cancelled.State, cancelled.Paused = api.RefCancelled, false
				rolled.Target = 3
				done.State, done.Paused = api.RefDone, false
			}
			if active && !paused {
				gone.Paused, gone.Since = true, 66
			}
			if active && paused {
				on.Paused, on.Step = false, 6
			}
			is(t, b, ref(cancelled), api.RecCancel)
			is(t, b, ref(rolled), api.RecRoll)
			is(t, b, ref(gone), api.RecPause, 66)
			is(t, b, ref(on), api.RecGo)
			want := ref(done)
			if active {
				want.Conf.Version = 4
			}
			is(t, b, want, api.RecDone)
		}
	}
}

func TestP132HowManyNumbers(t *testing.T) {
	l, bs := every()
	for i, r := range l {
		if like(Apply(bs[i], r), bs[i]) {
			t.Errorf("%v changes nothing", r)
		}
		nothing(t, bs[i], r.Kind, append(slices.Clone(r.L), 0)...)
		nothing(t, bs[i], r.Kind, append(slices.Clone(r.L), 1, 1, 1, 1, 1)...)
		for n := range r.L {
			nothing(t, bs[i], r.Kind, r.L[:n]...)
		}
	}
}

func TestP132NoNumbers(t *testing.T) {
	l, bs := every()
	for i, r := range l {
		for at := range r.L {
			for _, n := range odd {
				wrong := slices.Clone(r.L)
				wrong[at] = n
				nothing(t, bs[i], r.Kind, wrong...)
			}
		}
	}
	// Also where a brain that may not be has an id, or a token, that is none.
	for _, n := range odd {
		b := api.Brain{Set: true, Kept: []api.Kept{{Id: n, Phase: 1}}, Intents: []api.Intent{{Token: n}}}
		nothing(t, b, api.RecGone, n)
		nothing(t, b, api.RecPhase, n, 2, 5)
		nothing(t, b, api.RecGuard, n, 1)
		nothing(t, b, api.RecComplete, n)
		nothing(t, b, api.RecMade, n, 5, 5)
	}
}

func TestP132OtherKinds(t *testing.T) {
	for kind := range 256 {
		if kind >= 1 && kind <= 16 {
			continue
		}
		for _, l := range [][]int{nil, {}, {10}, {10, 1}, {10, 2, 3}, {25, 1, 1, 1, 1}, row, make([]int, 50)} {
			nothing(t, full(), uint8(kind), l...)
			nothing(t, bare(), uint8(kind), l...)
		}
	}
}

func TestP132All(t *testing.T) {
	for _, b := range []api.Brain{{}, bare(), full()} {
		if !like(All(b), b) || !like(All(b, []api.Rec{}...), b) {
			t.Error("behind nothing:", All(b))
		}
	}
	// A life, in order; what does not fit is passed over.
	b := All(api.Brain{},
		record.Of(api.RecIntent, 1, 0, 0), record.Of(api.RecBoot), record.Of(api.RecConf, row...),
		record.Of(api.RecIntent, 21, 0, 0), record.Of(api.RecIntent, 21, 2, 1), record.Of(api.RecMade, 2, 1, 5),
		record.Of(api.RecMade, 1, 2, 6), record.Of(99), record.Of(api.RecPhase, 2, 3, 7), record.Of(api.RecPhase, 2, 2, 8),
		record.Of(api.RecStart, 22, 9), record.Of(api.RecFail, 10), record.Of(api.RecTake, 9, 8, 7, 6, 11), record.Of(api.RecGone, 1),
		record.Of(api.RecPause, 12), record.Of(api.RecGo), record.Of(api.RecDone))
	want := api.Brain{
		Epoch: 1, Seq: 2, Set: true, Conf: group(),
		Kept: []api.Kept{
			{Id: 2, Token: 1, Version: 21, Phase: api.PhYoung, Since: 8},
			{Id: 9, Token: 8, Version: 7, Zone: 6, Phase: api.PhEnding, Since: 11},
		},
		Ref: api.Refresh{State: api.RefDone, From: 21, Target: 22, Step: 1, Since: 12, Fails: 1},
	}
	want.Conf.Version = 22
	if !like(b, want) {
		t.Errorf("%v, not %v", b, want)
	}
	// Turned about it is another story.
	if b := All(api.Brain{}, record.Of(api.RecIntent, 1, 0, 0), record.Of(api.RecConf, row...)); !like(b, bare()) {
		t.Error(b)
	}
}

func TestP132AllOfManyRecords(t *testing.T) {
	l := make([]api.Rec, 300000)
	for at := range l {
		l[at] = record.Of(api.RecBoot)
	}
	if b := All(full(), l...); !like(b, behind(func(b *api.Brain) { b.Epoch += 300000 })) {
		t.Error(b)
	}
}

// random answers any record, most of which fit a brain of few instances.
func random(r *rand.Rand) api.Rec {
	n := func(most int) int {
		if r.IntN(50) == 0 {
			return odd[r.IntN(len(odd))]
		}
		return r.IntN(most)
	}
	x := api.Rec{Kind: uint8(r.IntN(18))}
	switch x.Kind {
	case api.RecConf:
		x.L = []int{n(7), n(101), n(4), n(4), 0, 0, 0, 0, 1 + n(3), 1, 1 + n(4), 0, 1 + n(9), n(2)}
	case api.RecIntent:
		x.L = []int{n(4), n(5), n(3)}
	case api.RecMade:
		x.L = []int{n(60), n(30), n(99)}
	case api.RecPhase:
		x.L = []int{n(30), n(12), n(99)}
	case api.RecTake:
		x.L = []int{n(30), n(99), n(99), n(9), n(99)}
	case api.RecGuard, api.RecStart:
		x.L = []int{n(30), n(3)}
	case api.RecFail, api.RecGone, api.RecComplete, api.RecPause:
		x.L = []int{n(30)}
	}
	return x
}

// starts answers brains that may be.
func starts() []api.Brain {
	l := []api.Brain{{}, bare(), {Epoch: top, Seq: top}, {Conf: api.Conf{Version: -1}}}
	for _, put := range rights() {
		l = append(l, behind(put))
	}
	return l
}

func TestP133WhateverRecords(t *testing.T) {
	r := rand.New(rand.NewPCG(13, 3))
	for _, first := range starts() {
		for range 20 {
			b, l := first, []api.Rec(nil)
			for range 200 {
				x := random(r)
				was := b
				b = Apply(b, x)
				l = append(l, x)
				follows(t, was, b, x)
			}
			cut := r.IntN(len(l) + 1)
			if !Same(All(first, l...), b) || !Same(All(All(first, l[:cut]...), l[cut:]...), b) {
				t.Fatalf("in parts it is another one: %v, %v", first, l)
			}
		}
	}
}

// follows tells in t, if what follows is not so of was and b, which is behind x.
func follows(t *testing.T, was, b api.Brain, x api.Rec) {
	t.Helper()
	if !Right(b) {
		t.Fatalf("%v behind %v may not be: %v", was, x, b)
	}
	if !record.Right(x) && !Same(was, b) {
		t.Fatalf("%v behind %v, which may not be: %v", was, x, b)
	}
	for _, m := range b.Intents {
		if Token(was, m.Token) < 0 && (m.Token <= was.Seq || m.Token != b.Seq) {
			t.Fatalf("behind %v a token comes again: %v", x, b)
		}
	}
	if b.Epoch < was.Epoch || b.Seq < was.Seq || was.Set && !b.Set {
		t.Fatalf("%v behind %v goes back: %v", was, x, b)
	}
}

func TestP133NoTokenComesTwice(t *testing.T) {
	// Behind the launch was made, and the instance is gone, too.
	b := bare()
	for n := 1; n < 100; n++ {
		b = Apply(b, record.Of(api.RecIntent, 1, 0, 0))
		if len(b.Intents) != 1 || b.Intents[0].Token != n {
			t.Fatalf("%d: %v", n, b)
		}
		b = All(b, record.Of(api.RecMade, n, 7, 1), record.Of(api.RecGone, 7))
	}
}

func TestR1WhateverBrains(t *testing.T) {
	// None panics; what does not fit changes nothing.
	r := rand.New(rand.NewPCG(13, 1))
	for _, put := range wrongs() {
		b := behind(put)
		for range 100 {
			x := random(r)
			if o := Apply(b, x); !record.Right(x) && !Same(o, b) {
				t.Fatalf("%v behind %v: %v", b, x, o)
			}
		}
	}
	for range 3000 {
		b := api.Brain{Epoch: wild(r), Seq: wild(r), Set: r.IntN(2) > 0, Conf: group()}
		b.Conf.Version, b.Conf.Fails = wild(r), wild(r)
		b.Ref = api.Refresh{State: uint8(r.IntN(5)), From: wild(r), Target: wild(r), Step: wild(r), Paused: r.IntN(2) > 0, Since: wild(r), Fails: wild(r)}
		for range r.IntN(6) {
			b.Intents = append(b.Intents, api.Intent{Token: wild(r), Version: wild(r), Zone: wild(r)})
			b.Kept = append(b.Kept, api.Kept{Id: wild(r), Phase: uint8(r.IntN(256)), Since: wild(r)})
		}
		for range 20 {
			b = Apply(b, random(r))
		}
		Right(b)
	}
}

// wild answers any int.
func wild(r *rand.Rand) int {
	if r.IntN(3) == 0 {
		return odd[r.IntN(len(odd))]
	}
	return r.IntN(40) - 5
}

// roomy answers b with spare room behind each of its lists.
func roomy(b api.Brain) api.Brain {
	b.Conf.Marks = append(slices.Grow(b.Conf.Marks, 9), -1)[:len(b.Conf.Marks)]
	b.Intents = append(slices.Grow(b.Intents, 9), api.Intent{Token: -1})[:len(b.Intents)]
	b.Kept = append(slices.Grow(b.Kept, 9), api.Kept{Id: -1})[:len(b.Kept)]
	return b
}

// whole answers b with what stands in the first place of the spare room of each of its lists.
func whole(b api.Brain) api.Brain {
	b.Conf.Marks = b.Conf.Marks[:len(b.Conf.Marks)+1]
	b.Intents = b.Intents[:len(b.Intents)+1]
	b.Kept = b.Kept[:len(b.Kept)+1]
	return apart(b)
}

// apart answers b in memory of its own, said anew.
func apart(b api.Brain) api.Brain {
	b.Conf.Marks = slices.Clone(b.Conf.Marks)
	b.Intents = slices.Clone(b.Intents)
	b.Kept = slices.Clone(b.Kept)
	return b
}

// spoil changes all that b's lists hold, and what is behind them, as far as there is room.
func spoil(b api.Brain) {
	for at := range b.Conf.Marks {
		b.Conf.Marks[at] = 99
	}
	for at := range b.Intents {
		b.Intents[at].Token = 999
	}
	for at := range b.Kept {
		b.Kept[at].Id = 999
	}
	_ = append(b.Conf.Marks, 99)
	_ = append(b.Intents, api.Intent{Token: 999})
	_ = append(b.Kept, api.Kept{Id: 999})
}

// answers answers all that answer brains, as functions of one, of the record r.
func answers(r api.Rec) []func(b api.Brain) api.Brain {
	return []func(b api.Brain) api.Brain{
		Own,
		func(b api.Brain) api.Brain { return All(b) },
		func(b api.Brain) api.Brain { return Apply(b, r) },
		func(b api.Brain) api.Brain { return All(b, r, r) },
		func(b api.Brain) api.Brain { return Apply(b, api.Rec{}) },
	}
}

func TestR4Memory(t *testing.T) {
	l, bs := every()
	for i, r := range l {
		for n, f := range answers(r) {
			b, given := roomy(bs[i]), record.Of(r.Kind, r.L...)
			was := whole(b)
			o, p := f(b), f(b)
			told := apart(p)
			spoil(o)
			if !like(whole(b), was) || !slices.Equal(r.L, given.L) {
				t.Errorf("%d of %v changes, or shares, what it is given: %v", n, r, b)
			}
			if !like(p, told) {
				t.Errorf("%d of %v: answers share memory: %v", n, r, p)
			}
			spoil(b)
			if !like(p, told) {
				t.Errorf("%d of %v: what is answered shares memory with what was given: %v", n, r, p)
			}
		}
	}
}

func TestR4MemoryOfARow(t *testing.T) {
	given := slices.Clone(row)
	b := Apply(api.Brain{}, api.Rec{Kind: api.RecConf, L: given})
	given[14] = 1
	if !like(b, bare()) {
		t.Error("the row is kept:", b)
	}
	b.Conf.Marks[1] = 2
	if given[15] != 60 {
		t.Error("the row is changed:", given)
	}
}
