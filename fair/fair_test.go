package fair

import (
	"fmt"
	"math"
	"reflect"
	"slices"
	"strings"
	"testing"

	"lanekeeper/api"
	"lanekeeper/plain"
	"lanekeeper/view"
	"lanekeeper/world"
)

// tell is x as a text: nil and empty lists are one in it.
func tell(x any) string { return fmt.Sprintf("%v", x) }

func msg(stream int, data string) api.Msg {
	return api.Msg{Stream: stream, Data: []byte(data)}
}

func put(tenant, stream int, data string) api.Step {
	return api.Step{Kind: api.StepPut, Tenant: tenant, Msg: msg(stream, data)}
}

var aTick = api.Step{Kind: api.StepTick}

// played is what Play makes of steps, no one of which may fail.
func played(t *testing.T, tenants int, l ...api.Step) api.World {
	t.Helper()
	w, es, err := Play(tenants, l)
	if err != api.OK || len(es) != len(l) {
		t.Fatalf("Play of %d: %d, and %d errors of %d steps", tenants, err, len(es), len(l))
	}
	for i, e := range es {
		if e != api.OK {
			t.Fatalf("step %d, %v, is error %d", i, l[i], e)
		}
	}
	return w
}

// stepByStep is what Play must answer, if it answers no error.
func stepByStep(tenants int, l []api.Step) (api.World, []api.Errno) {
	w, _ := world.New(tenants)
	var es []api.Errno
	for _, s := range l {
		next, err := world.Do(w, s)
		w, es = next, append(es, err)
	}
	return w, es
}

func ticks(many int) []api.Step {
	return slices.Repeat([]api.Step{aTick}, many)
}

func TestPlayOfWrongTenants(t *testing.T) {
	for _, tenants := range []int{0, 4, 5, -1, -3, 256 + 1, 1<<32 + 1, math.MinInt, math.MaxInt} {
		// That there are too many steps is told behind it.
		for _, many := range []int{0, 1, 160, 161, 500} {
			if w, es, err := Play(tenants, ticks(many)); err != api.ErrRange || tell(w) != tell(api.World{}) || es != nil {
				t.Errorf("Play(%d, of %d) is %v, %v, %d", tenants, many, w, es, err)
			}
		}
	}
}

func TestPlayOfTooManySteps(t *testing.T) {
	for tenants := 1; tenants <= 3; tenants++ {
		for _, many := range []int{0, 1, 2, 159, 160, 161, 162, 320, 5000} {
			w, es, err := Play(tenants, ticks(many))
			if many > 160 {
				if err != api.ErrMany || tell(w) != tell(api.World{}) || es != nil {
					t.Errorf("Play(%d, of %d) is %v, %v, %d", tenants, many, w, es, err)
				}
				continue
			}
			want := api.World{Lanes: make([]api.Lane, tenants), Ticks: many}
			if err != api.OK || tell(w) != tell(want) || len(es) != many || slices.ContainsFunc(es, func(e api.Errno) bool { return e != api.OK }) {
				t.Errorf("Play(%d, of %d) is %v, %v, %d", tenants, many, w, es, err)
			}
		}
	}
	// What is wrong with one of them does not matter: they are not looked at.
	if w, es, err := Play(2, make([]api.Step, 161)); err != api.ErrMany || len(w.Lanes) != 0 || es != nil {
		t.Errorf("Play of 161 that are of no kind is %v, %v, %d", w, es, err)
	}
}

func TestPlayOfNothing(t *testing.T) {
	for tenants := 1; tenants <= 3; tenants++ {
		for _, l := range [][]api.Step{nil, {}} {
			want, _ := world.New(tenants)
			if w, es, err := Play(tenants, l); err != api.OK || tell(w) != tell(want) || len(w.Lanes) != tenants || len(es) != 0 {
				t.Errorf("Play(%d, of nothing) is %v, %v, %d", tenants, w, es, err)
			}
		}
	}
}

// Each step has its error, and one that fails keeps none behind it from being done.
func TestPlayTellsEachError(t *testing.T) {
	l := []api.Step{
		{Kind: 0},
		put(0, 0, "a"),
		put(2, 0, "a"),
		put(-1, 9, "a"),
		{Kind: 7, Tenant: 9},
		put(1, 3, "a"),
		put(1, 0, "abcdefg"),
		{Kind: api.StepCome},
		aTick,
		{Kind: api.StepCome, N: 1},
		{Kind: api.StepSpoil, M: 99},
		{Kind: api.StepCome, IsBack: true},
		{Kind: api.StepTwice},
		{Kind: api.StepLose, N: 1},
		{Kind: api.StepCome},
		{Kind: api.StepCome},
		put(0, 2, "b"), put(0, 2, "c"), put(0, 2, "d"), put(0, 2, "e"), put(0, 2, "f"), put(0, 2, "g"), put(0, 2, "h"),
		aTick,
	}
	want := []api.Errno{1, 0, 6, 6, 1, 3, 4, 6, 0, 6, 3, 6, 0, 0, 0, 6, 0, 0, 0, 0, 0, 0, 9, 0}
	w, es, err := Play(2, l)
	if err != api.OK || tell(es) != tell(want) {
		t.Errorf("the errors are %v, %d, not %v", es, err, want)
	}
	if got := w.Lanes[0]; tell(got.Receiver.Told) != tell([]api.Msg{msg(0, "a")}) || len(got.Sender.Queue) != 6 || len(got.There) != 0 {
		t.Errorf("lane 0 is %v", got)
	}
	if got := w.Lanes[1]; tell(got) != tell(api.Lane{}) || w.Ticks != 2 {
		t.Errorf("lane 1 is %v, behind %d ticks", got, w.Ticks)
	}
}

// Behind the last number of a lane nothing is put any more, as Play tells.
func TestPlayOfAFlood(t *testing.T) {
	var l []api.Step
	for range 40 {
		l = append(l, put(0, 1, "z"), aTick, api.Step{Kind: api.StepCome})
		l = append(l, api.Step{Kind: api.StepCome, IsBack: true})
	}
	w, es, err := Play(1, l)
	want, wrong := stepByStep(1, l)
	if err != api.OK || tell(w) != tell(want) || tell(es) != tell(wrong) || len(w.Lanes[0].Receiver.Told) < 20 {
		t.Errorf("Play of 160 steps is %v, %v, %d", w, es, err)
	}
}

// dice is a story's own, the same each time.
type dice uint32

func (d *dice) roll(n int) int {
	*d = *d*1664525 + 1013904223
	return int(uint32(*d)>>8) % n
}

// step is any step, most of them right ones of the first tenants.
func (d *dice) step(tenants int) api.Step {
	s := api.Step{
		Kind:   api.StepTick,
		Tenant: d.roll(tenants),
		N:      d.roll(6),
		M:      d.roll(11),
		IsBack: d.roll(2) == 0,
		Msg:    msg(d.roll(3), "abcdef"[:d.roll(7)]),
	}
	switch k := d.roll(40); {
	case k < 12:
		s.Kind = api.StepPut
	case k < 18:
		s.Kind, s.N = api.StepCome, s.N/3
	case k < 24:
		s.Kind, s.N = api.StepLose+d.roll(3), s.N/2
	case k == 26:
		s.Tenant = d.roll(9) - 3
	case k == 27:
		s.Kind = d.roll(12) - 3
	case k == 28:
		s.Kind, s.Msg = api.StepPut, msg(d.roll(7)-2, strings.Repeat("x", d.roll(10)))
	}
	return s
}

// story is a list of steps. A packet that is spoilt twice may be right again, and tell what nobody said: so what is spoilt comes at once.
func (d *dice) story(tenants, many int) []api.Step {
	var l []api.Step
	for len(l) < many {
		s := d.step(tenants)
		l = append(l, s)
		if s.Kind == api.StepSpoil {
			l = append(l, api.Step{Kind: api.StepCome, Tenant: s.Tenant, N: s.N, IsBack: s.IsBack})
		}
	}
	return l[:many]
}

func TestPlayIsStepByStep(t *testing.T) {
	seen := map[api.Errno]int{}
	for seed := range 90 {
		d := dice(seed)
		tenants := 1 + seed%3
		for _, many := range []int{1, 7, 60, 159, 160} {
			l := d.story(tenants, many)
			w, es, err := Play(tenants, l)
			want, wrong := stepByStep(tenants, l)
			if err != api.OK || tell(w) != tell(want) || len(es) != many || tell(es) != tell(wrong) {
				t.Fatalf("Play(%d, %v) is %v, %v, %d, not %v, %v", tenants, l, w, es, err, want, wrong)
			}
			for _, e := range es {
				seen[e]++
			}
		}
	}
	for _, e := range []api.Errno{api.OK, api.ErrKind, api.ErrRange, api.ErrMuch, api.ErrNone, api.ErrFull} {
		if seen[e] == 0 {
			t.Errorf("error %d was not seen: %v", e, seen)
		}
	}
}

// someWorlds are worlds that Play makes, with much on its way.
func someWorlds() []api.World {
	var out []api.World
	for tenants := 1; tenants <= 3; tenants++ {
		w, _ := world.New(tenants)
		out = append(out, w)
		for seed := range 20 {
			d := dice(700*tenants + seed)
			w, _, _ := Play(tenants, d.story(tenants, 20+seed*7))
			out = append(out, w)
		}
	}
	return out
}

// byHand is a round, step by step: how many come is counted ahead of it.
func byHand(t *testing.T, w api.World) api.World {
	t.Helper()
	var l []api.Step
	for tenant, one := range w.Lanes {
		l = append(l, slices.Repeat([]api.Step{{Kind: api.StepCome, Tenant: tenant}}, len(one.There))...)
		l = append(l, slices.Repeat([]api.Step{{Kind: api.StepCome, Tenant: tenant, IsBack: true}}, len(one.Back))...)
	}
	for _, s := range append(l, aTick) {
		var err api.Errno
		if w, err = world.Do(w, s); err != api.OK {
			t.Fatalf("%v is error %d", s, err)
		}
	}
	return w
}

func TestRoundIsByHand(t *testing.T) {
	most, both := 0, 0
	for _, w := range someWorlds() {
		for range 12 {
			for _, l := range w.Lanes {
				most = max(most, len(l.There), len(l.Back))
				both += min(len(l.There), len(l.Back), 1)
			}
			got, want := Round(w), byHand(t, w)
			if tell(got) != tell(want) {
				t.Fatalf("a round of %v is %v, not %v", w, got, want)
			}
			w = got
		}
	}
	if most != api.MaxNet || both < 100 {
		t.Errorf("the fullest way had %d packets, and %d lanes were full both ways", most, both)
	}
}

// In a round all comes ahead of the tick: what is said at it is on its way behind it, of the lane whose the line is alone.
func TestRoundOfOneMessage(t *testing.T) {
	w := played(t, 1, put(0, 0, "a"))
	for round, want := range []struct {
		there, back, told, flight int
	}{{1, 0, 0, 1}, {1, 1, 1, 1}, {0, 1, 1, 0}, {0, 0, 1, 0}, {0, 0, 1, 0}} {
		w = Round(w)
		l := w.Lanes[0]
		if len(l.There) != want.there || len(l.Back) != want.back || len(l.Receiver.Told) != want.told || len(l.Sender.Flight) != want.flight || w.Ticks != round+1 {
			t.Errorf("behind round %d it is %v", round+1, w)
		}
	}
}

// The first one comes first: messages of other streams are told as they were said.
func TestRoundKeepsTheOrder(t *testing.T) {
	w := played(t, 2, put(0, 2, "c"), put(0, 0, "a"), put(0, 1, "b"), put(0, 2, "d"),
		aTick, aTick, aTick, aTick, aTick, aTick, aTick, aTick)
	got := Round(w)
	want := []api.Msg{msg(2, "c"), msg(0, "a"), msg(1, "b"), msg(2, "d")}
	if tell(got.Lanes[0].Receiver.Told) != tell(want) {
		t.Errorf("told was %v, not %v", got.Lanes[0].Receiver.Told, want)
	}
	if tell(got.Lanes[0].Back) != "[[2 4 18 19]]" || got.Ticks != 9 {
		t.Errorf("behind the round it is %v", got)
	}
}

// All lanes get what is on its way, both ways; only one lane speaks.
func TestRoundOfAllLanes(t *testing.T) {
	var l []api.Step
	for tenant := range 3 {
		l = append(l, put(tenant, 0, "x"), put(tenant, 1, "yz"), put(tenant, 2, ""))
	}
	l = append(l, ticks(6)...)
	for tenant := range 3 {
		l = append(l, api.Step{Kind: api.StepCome, Tenant: tenant})
	}
	l = append(l, ticks(3)...)
	w := played(t, 3, l...)
	for tenant, one := range w.Lanes {
		if len(one.There) != 2 || len(one.Back) != 1 || len(one.Sender.Flight) != 3 {
			t.Fatalf("ahead of the round lane %d is %v", tenant, one)
		}
	}
	got := Round(w)
	for tenant, one := range got.Lanes {
		there, back := 0, 0
		if tenant == 0 {
			there, back = 1, 1
		}
		if len(one.There) != there || len(one.Back) != back || len(one.Sender.Flight) != 2 || len(one.Receiver.Told) != 3 || one.Receiver.Owes != (tenant != 0) {
			t.Errorf("behind the round lane %d is %v", tenant, one)
		}
	}
	if got.Ticks != 10 {
		t.Errorf("behind the round there were %d ticks", got.Ticks)
	}
}

// What is spoilt comes too, and is gone; what is doubled is told once.
func TestRoundOfSpoiltAndDoubled(t *testing.T) {
	w := played(t, 1, put(0, 0, "a"), put(0, 0, "b"), aTick, aTick,
		api.Step{Kind: api.StepTwice}, api.Step{Kind: api.StepTwice, N: 1},
		api.Step{Kind: api.StepSpoil, M: 4}, api.Step{Kind: api.StepSpoil, N: 1, M: 1})
	got := Round(w)
	if l := got.Lanes[0]; tell(l.Receiver.Told) != tell([]api.Msg{msg(0, "a"), msg(0, "b")}) || len(l.There) != 1 || len(l.Back) != 1 {
		t.Errorf("behind the round it is %v", got)
	}
}

func TestRoundOfAnEmptyWorld(t *testing.T) {
	for tenants := 1; tenants <= 3; tenants++ {
		w := played(t, tenants, ticks(tenants)...)
		want := api.World{Lanes: make([]api.Lane, tenants), Ticks: tenants + 1}
		if got := Round(w); tell(got) != tell(want) {
			t.Errorf("a round of %v is %v", w, got)
		}
	}
}

// Of worlds that no call makes: where the tick is nobody's no lane speaks, and nothing panics.
func TestNobodysRound(t *testing.T) {
	none, _, _ := Play(0, nil)
	if got := Round(none); len(got.Lanes) != 0 || got.Ticks != 0 {
		t.Errorf("a round of no lanes is %v", got)
	}
	if got, rounds := Settle(none); len(got.Lanes) != 0 || got.Ticks != 0 || rounds != 0 {
		t.Errorf("a world of no lanes settles in %d rounds, and is %v", rounds, got)
	}
	early := played(t, 2, put(0, 0, "a"), put(1, 0, "b"), aTick)
	early.Ticks = -1
	got, rounds := Settle(early)
	if l := got.Lanes[0]; len(l.Receiver.Told) != 1 || len(l.There) != 0 || got.Ticks != -1 || rounds != 200 {
		t.Errorf("behind %d rounds it is %v", rounds, got)
	}
}

// settleByHand is Settle told otherwise, and how many rounds it took.
func settleByHand(t *testing.T, w api.World) (api.World, int) {
	t.Helper()
	for rounds := range 200 {
		still := true
		for _, l := range w.Lanes {
			still = still && len(l.Sender.Queue)+len(l.Sender.Flight) == 0
		}
		if still {
			return w, rounds
		}
		w = byHand(t, w)
	}
	return w, 200
}

func TestSettleIsByHand(t *testing.T) {
	for _, w := range someWorlds() {
		got, rounds := Settle(w)
		want, many := settleByHand(t, w)
		if rounds != many || tell(got) != tell(want) {
			t.Errorf("%v settles in %d rounds, not %d, and is %v, not %v", w, rounds, many, got, want)
		}
	}
}

// One message is told behind two rounds, or as many more as the line is others'; one more round of the tenant's own, and the sender has heard of it.
func TestSettleOfOneMessage(t *testing.T) {
	for tenants := 1; tenants <= 3; tenants++ {
		for tenant := range tenants {
			for at := range 7 {
				w := played(t, tenants, append(ticks(at), put(tenant, 1, "abc"))...)
				wait := (tenant - at%tenants + tenants) % tenants
				told := 0
				for x := w; len(x.Lanes[tenant].Receiver.Told) == 0; told++ {
					x = Round(x)
				}
				if told != wait+2 {
					t.Errorf("tenant %d of %d at tick %d was told behind %d rounds, not %d", tenant, tenants, at, told, wait+2)
				}
				got, rounds := Settle(w)
				// The answer is said at the next tick that is the tenant's, and comes in the round behind it.
				if want := wait + tenants + 2; rounds != want || got.Ticks != at+want {
					t.Errorf("tenant %d of %d at tick %d settled in %d rounds, not %d", tenant, tenants, at, rounds, want)
				}
				if l := got.Lanes[tenant]; tell(l.Receiver.Told) != tell([]api.Msg{msg(1, "abc")}) {
					t.Errorf("tenant %d of %d was told %v", tenant, tenants, l.Receiver.Told)
				}
			}
		}
	}
}

// Still is still: it takes no round, and the world is as it was, whatever is on its way.
func TestSettleOfStillWorlds(t *testing.T) {
	worlds := []api.World{played(t, 1), played(t, 3), played(t, 2, ticks(5)...), crowdedStill(t, 1), crowdedStill(t, 3)}
	for _, w := range someWorlds() {
		w, _ = Settle(w)
		worlds = append(worlds, w)
	}
	for _, w := range worlds {
		got, rounds := Settle(w)
		if rounds != 0 || tell(got) != tell(w) {
			t.Errorf("%v settled in %d rounds, and is %v", w, rounds, got)
		}
	}
}

// crowdedStill is a world whose senders have heard of all that they said, while packets are on their way, there and back, and receivers owe an answer.
func crowdedStill(t *testing.T, tenants int) api.World {
	t.Helper()
	var l []api.Step
	for tenant := range tenants {
		l = append(l, put(tenant, 0, "a"))
	}
	l = append(l, ticks(tenants)...)
	for tenant := range tenants {
		l = append(l, api.Step{Kind: api.StepTwice, Tenant: tenant}, api.Step{Kind: api.StepTwice, Tenant: tenant},
			api.Step{Kind: api.StepCome, Tenant: tenant})
	}
	l = append(l, ticks(tenants)...)
	for tenant := range tenants {
		l = append(l, api.Step{Kind: api.StepTwice, Tenant: tenant, IsBack: true},
			api.Step{Kind: api.StepCome, Tenant: tenant, IsBack: true}, api.Step{Kind: api.StepCome, Tenant: tenant})
	}
	w := played(t, tenants, l...)
	for tenant, l := range w.Lanes {
		if len(l.Sender.Queue)+len(l.Sender.Flight) != 0 || len(l.There) != 2 || len(l.Back) != 1 || !l.Receiver.Owes {
			t.Fatalf("lane %d is %v", tenant, l)
		}
	}
	return w
}

// All is told at last: once, stream by stream as it was put, in no more rounds than there may be.
func TestAllIsToldAtLast(t *testing.T) {
	told, most := 0, 0
	for seed := range 300 {
		d := dice(4000 + seed)
		tenants := 1 + seed%3
		l := d.story(tenants, 10+seed%151)
		w, es, err := Play(tenants, l)
		if err != api.OK {
			t.Fatalf("Play is error %d", err)
		}
		got, rounds := Settle(w)
		for tenant, one := range got.Lanes {
			puts := view.Puts(l, es, tenant)
			if !plain.All(one.Receiver.Told, puts) || len(one.Sender.Queue)+len(one.Sender.Flight) != 0 || one.Sender.Next != len(puts) {
				t.Fatalf("tenant %d put %v, and was told %v, behind %d rounds of %v", tenant, puts, one.Receiver.Told, rounds, l)
			}
			told += len(puts)
		}
		if rounds >= api.MaxRounds || got.Ticks != w.Ticks+rounds {
			t.Fatalf("behind %d rounds there were %d ticks, and %d ahead of them", rounds, got.Ticks, w.Ticks)
		}
		most = max(most, rounds)
	}
	if told < 2000 || most < 20 {
		t.Errorf("only %d were told, in %d rounds at most", told, most)
	}
}

// Others cost nothing: a tenant is told the same, in the same rounds, whatever others put, and as much is sent.
func TestOthersCostNothing(t *testing.T) {
	for seed := range 60 {
		d := dice(8000 + seed)
		tenants := 2 + seed%2
		l := d.story(tenants, 120)
		full, _, _ := Play(tenants, l)
		for tenant := range tenants {
			alone, _, _ := Play(tenants, view.Only(l, tenant))
			for round := range 70 {
				a, _ := view.Of(alone, tenant)
				b, _ := view.Of(full, tenant)
				if tell(a) != tell(b) {
					t.Fatalf("behind %d rounds tenant %d sees another one: %v, not %v", round, tenant, b, a)
				}
				alone = Round(alone)
				full = Round(full)
			}
			full, _, _ = Play(tenants, l)
		}
	}
}

// A flood of all tenants is still in time.
func TestSettleOfAFlood(t *testing.T) {
	for tenants := 1; tenants <= 3; tenants++ {
		var l []api.Step
		for tenant := range tenants {
			for i := range 6 {
				l = append(l, put(tenant, i%3, "ab"))
			}
		}
		l = append(l, ticks(4*tenants)...)
		for tenant := range tenants {
			for i := range 4 {
				l = append(l, put(tenant, i%2, "c"))
				l = append(l, api.Step{Kind: api.StepLose, Tenant: tenant})
			}
		}
		w := played(t, tenants, l...)
		got, rounds := Settle(w)
		want, many := settleByHand(t, w)
		if rounds != many || rounds >= 200 || tell(got) != tell(want) {
			t.Errorf("%d tenants' flood settled in %d rounds, not %d, and is %v", tenants, rounds, many, got)
		}
		for tenant, one := range got.Lanes {
			if !plain.All(one.Receiver.Told, view.Puts(l, make([]api.Errno, len(l)), tenant)) || len(one.Receiver.Told) != 10 {
				t.Errorf("tenant %d of %d was told %v", tenant, tenants, one.Receiver.Told)
			}
		}
	}
}

// neverStill is a world in which an answer was spoilt twice, and right again: it says of chunk 3 that it came, and chunk 3 was lost. Those behind it have no room at the receiver's.
func neverStill(t *testing.T) api.World {
	t.Helper()
	var l []api.Step
	for range 6 {
		l = append(l, put(0, 0, "a"))
	}
	l = append(l, ticks(4)...)
	return played(t, 1, append(l,
		api.Step{Kind: api.StepCome}, api.Step{Kind: api.StepCome, N: 1},
		aTick,
		api.Step{Kind: api.StepSpoil, IsBack: true, M: 2}, api.Step{Kind: api.StepSpoil, IsBack: true, M: 4},
		api.Step{Kind: api.StepCome, IsBack: true},
		api.Step{Kind: api.StepLose, N: 1},
		put(0, 1, "b"), put(0, 1, "c"),
	)...)
}

// There are no more rounds than there may be.
func TestSettleEnds(t *testing.T) {
	w := neverStill(t)
	want := w
	for range 200 {
		want = byHand(t, want)
	}
	got, rounds := Settle(w)
	if rounds != 200 || tell(got) != tell(want) || got.Ticks != w.Ticks+200 {
		t.Errorf("behind %d rounds it is %v, not %v", rounds, got, want)
	}
	l := got.Lanes[0]
	if len(l.Sender.Flight) != 1 || l.Sender.Flight[0].Number != 7 || tell(l.Receiver.Early) != "[4 5 6]" || l.Receiver.Next != 3 {
		t.Errorf("behind %d rounds the lane is %v", rounds, l)
	}
	// Whoever goes on has as many once more.
	if again, rounds := Settle(got); rounds != 200 || again.Ticks != w.Ticks+400 {
		t.Errorf("behind %d rounds more it is %v", rounds, again)
	}
}

// lists visits each list of v, with the room behind it, those within it first.
func lists(v reflect.Value, visit func(reflect.Value)) {
	switch v.Kind() {
	case reflect.Struct:
		for i := range v.NumField() {
			lists(v.Field(i), visit)
		}
	case reflect.Slice:
		all := v.Slice(0, v.Cap())
		for i := range all.Len() {
			lists(all.Index(i), visit)
		}
		visit(all)
	}
}

// scribble changes all that x has memory of, the room behind its lists too.
func scribble(x any) {
	lists(reflect.ValueOf(x), func(v reflect.Value) {
		for i := range v.Len() {
			switch one := v.Index(i); one.Kind() {
			case reflect.Uint8:
				one.SetUint('#')
			case reflect.Int:
				one.SetInt(-9)
			default:
				one.SetZero()
			}
		}
	})
}

// whole is x as a text, the room behind its lists told too.
func whole(x any) string {
	out := ""
	lists(reflect.ValueOf(x), func(v reflect.Value) { out += tell(v.Interface()) + "\n" })
	return out
}

// roomy is a copy of x with spare room behind each list, in which stands something like what the list has.
func roomy[T any](x T) T { return roomyValue(reflect.ValueOf(x)).Interface().(T) }

func roomyValue(v reflect.Value) reflect.Value {
	switch v.Kind() {
	case reflect.Struct:
		out := reflect.New(v.Type()).Elem()
		for i := range v.NumField() {
			out.Field(i).Set(roomyValue(v.Field(i)))
		}
		return out
	case reflect.Slice:
		out := reflect.MakeSlice(v.Type(), 0, v.Len()+2)
		for i := range v.Len() {
			out = reflect.Append(out, roomyValue(v.Index(i)))
		}
		for i := range 2 {
			out = reflect.Append(out, spare(v, i))
		}
		return out.Slice(0, v.Len())
	}
	return v
}

func spare(v reflect.Value, i int) reflect.Value {
	switch kind := v.Type().Elem().Kind(); {
	case kind == reflect.Uint8:
		return reflect.ValueOf(byte('S'))
	case kind == reflect.Int:
		return reflect.ValueOf(1 + i)
	case v.Len() > 0:
		return roomyValue(v.Index(0))
	}
	return reflect.Zero(v.Type().Elem())
}

// memory is where the lists of x are, each with the room behind it.
func memory(x any) [][2]uintptr {
	var out [][2]uintptr
	lists(reflect.ValueOf(x), func(v reflect.Value) {
		if v.Len() > 0 {
			out = append(out, [2]uintptr{v.Pointer(), v.Pointer() + uintptr(v.Len())*v.Type().Elem().Size()})
		}
	})
	return out
}

// apart: whether no two of l have a byte of memory in common.
func apart(l [][2]uintptr) bool {
	slices.SortFunc(l, func(a, b [2]uintptr) int { return int(a[0]) - int(b[0]) })
	for i := 1; i < len(l); i++ {
		if l[i][0] < l[i-1][1] {
			return false
		}
	}
	return true
}

func TestStepsAreOnlyReadAndNotShared(t *testing.T) {
	for seed := range 30 {
		d := dice(200 + seed)
		tenants := 1 + seed%3
		story := d.story(tenants, 5*seed+10)
		first, errs, _ := Play(tenants, story)
		answer := tell(first) + tell(errs)
		l := roomy(story)
		before := whole(l)
		w, es, _ := Play(tenants, l)
		if tell(w)+tell(es) != answer {
			t.Fatalf("the room behind the lists of %s was looked at: %v, %v, not %s", before, w, es, answer)
		}
		if whole(l) != before {
			t.Fatalf("Play changed what it was handed: %s, not %s", whole(l), before)
		}
		if !apart(slices.Concat(memory(w), memory(es), memory(l))) {
			t.Fatalf("Play of %s: lists share memory", before)
		}
		scribble(l)
		if tell(w)+tell(es) != answer {
			t.Fatalf("something of %s is kept", before)
		}
		scribble(es)
		if tell(w)+tell(errs) != answer {
			t.Fatalf("errors of %s are kept", before)
		}
	}
}

func TestWorldsAreOnlyReadAndNotShared(t *testing.T) {
	settled := func(w api.World) api.World { w, _ = Settle(w); return w }
	still := settled(played(t, 2, put(1, 0, "ab"), put(1, 1, "c")))
	for name, call := range map[string]func(api.World) api.World{"Round": Round, "Settle": settled} {
		for _, one := range append(someWorlds(), still, crowdedStill(t, 2), neverStill(t)) {
			answer := tell(call(world.Own(one)))
			w := roomy(one)
			before := whole(w)
			got := call(w)
			if tell(got) != answer {
				t.Fatalf("%s: the room behind the lists of %s was looked at: %v, not %s", name, before, got, answer)
			}
			if whole(w) != before {
				t.Fatalf("%s changed what it was handed: %s, not %s", name, whole(w), before)
			}
			if !apart(append(memory(got), memory(w)...)) {
				t.Fatalf("%s of %s: lists share memory: %v", name, before, got)
			}
			scribble(w)
			if tell(got) != answer {
				t.Fatalf("%s kept something of %s", name, before)
			}
		}
	}
}
