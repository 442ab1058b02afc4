package look

import (
	"fmt"
	"math"
	"testing"

	"lanekeeper/api"
	"lanekeeper/plain"
	"lanekeeper/view"
	"lanekeeper/world"
)

// tell is x as a text: nil and empty lists are one in it.
func tell(x any) string { return fmt.Sprintf("%v", x) }

func msg(stream int, data string) api.Msg {
	return api.Msg{Stream: stream, Data: []byte(data)}
}

func put(tenant, stream int, data string) api.Step {
	return api.Step{Kind: api.StepPut, Tenant: tenant, Msg: msg(stream, data)}
}

func come(tenant int, back bool) api.Step {
	return api.Step{Kind: api.StepCome, Tenant: tenant, IsBack: back}
}

var aTick = api.Step{Kind: api.StepTick}

// part is something of a lane of which there may be so many.
type part struct {
	name  string
	limit int
	set   func(l *api.Lane, many int)
}

func parts() []part {
	return []part{
		{"Queue", 6, func(l *api.Lane, many int) { l.Sender.Queue = make([]api.Msg, many) }},
		{"Flight", 4, func(l *api.Lane, many int) { l.Sender.Flight = make([]api.Chunk, many) }},
		{"Next", 40, func(l *api.Lane, many int) { l.Sender.Next = many }},
		{"Early", 3, func(l *api.Lane, many int) { l.Receiver.Early = make([]int, many) }},
		{"Told", 40, func(l *api.Lane, many int) { l.Receiver.Told = make([]api.Msg, many) }},
		{"Hold", 40, func(l *api.Lane, many int) { l.Receiver.Hold = make([]api.Chunk, many) }},
		{"There", 6, func(l *api.Lane, many int) { l.There = make([][]byte, many) }},
		{"Back", 6, func(l *api.Lane, many int) { l.Back = make([][]byte, many) }},
	}
}

// full is a lane that has as much of all as there is room for; Told and Hold share theirs.
func full() api.Lane {
	var l api.Lane
	for _, p := range parts() {
		p.set(&l, p.limit)
	}
	l.Receiver.Told = make([]api.Msg, 22)
	l.Receiver.Hold = make([]api.Chunk, 18)
	return l
}

func TestWithinOfOnePart(t *testing.T) {
	for _, p := range parts() {
		for many := range 3 * p.limit {
			var l api.Lane
			p.set(&l, many)
			if got, want := Within(l), many <= p.limit; got != want {
				t.Errorf("%d of %s: within is %t", many, p.name, got)
			}
		}
	}
}

// No part that is within hides another one that is not.
func TestWithinOfAllParts(t *testing.T) {
	if !Within(full()) {
		t.Error("a lane that is full is not within")
	}
	for _, p := range parts() {
		for many := range 2 * p.limit {
			l := full()
			p.set(&l, many)
			limit := p.limit
			switch p.name {
			case "Told":
				limit = 22
			case "Hold":
				limit = 18
			}
			if got, want := Within(l), many <= limit; got != want {
				t.Errorf("%d of %s in a full lane: within is %t", many, p.name, got)
			}
		}
	}
}

// Told and Hold are counted together, however they share the room; There and Back each alone.
func TestWithinSharesOfRoom(t *testing.T) {
	for told := range 43 {
		for hold := range 43 {
			l := api.Lane{Receiver: api.Receiver{Told: make([]api.Msg, told), Hold: make([]api.Chunk, hold)}}
			if got, want := Within(l), told+hold <= 40; got != want {
				t.Errorf("%d told and %d held: within is %t", told, hold, got)
			}
		}
	}
	for there := range 9 {
		for back := range 9 {
			l := api.Lane{There: make([][]byte, there), Back: make([][]byte, back)}
			if got, want := Within(l), there <= 6 && back <= 6; got != want {
				t.Errorf("%d there and %d back: within is %t", there, back, got)
			}
		}
	}
}

// Of lanes that no call makes: only what the chapter names is looked at, and nothing panics.
func TestWithinOfLanesThatNoCallMakes(t *testing.T) {
	for next, want := range map[int]bool{math.MinInt: true, -1: true, 0: true, 40: true, 41: false, 1 << 32: false, math.MaxInt: false} {
		if got := Within(api.Lane{Sender: api.Sender{Next: next}}); got != want {
			t.Errorf("with Next %d within is %t", next, got)
		}
	}
	l := full()
	l.Sender.Turn, l.Sender.Places = math.MaxInt, [3]int{99, -99, math.MinInt}
	l.Receiver.Next, l.Receiver.Places, l.Receiver.Owes = math.MaxInt, [3]int{99, -99, math.MinInt}, true
	l.Sender.Queue[0] = msg(-4, "much more than there may be in one")
	l.Sender.Flight[0] = api.Chunk{Kind: 9, Number: 99, Early: make([]int, 99)}
	l.Receiver.Hold[0] = api.Chunk{Kind: -9, Number: -1, Data: make([]byte, 99)}
	l.Receiver.Told[0] = msg(99, "much more than there may be in one")
	l.Receiver.Early[0] = math.MinInt
	l.There[0], l.Back[0] = make([]byte, 99), make([]byte, 99)
	if !Within(l) {
		t.Errorf("%v is not within", l)
	}
}

func TestIdle(t *testing.T) {
	for queue := range 9 {
		for flight := range 7 {
			l := api.Lane{Sender: api.Sender{Queue: make([]api.Msg, queue), Flight: make([]api.Chunk, flight)}}
			if got, want := Idle(l), queue == 0 && flight == 0; got != want {
				t.Errorf("%d in Queue and %d in Flight: idle is %t", queue, flight, got)
			}
		}
	}
	if !Idle(api.Lane{Sender: api.Sender{Queue: []api.Msg{}, Flight: []api.Chunk{}}}) {
		t.Error("a lane of lists without entries is not idle")
	}
}

// What else a lane has does not keep it from being idle, nor make it so.
func TestIdleLooksAtNothingElse(t *testing.T) {
	l := full()
	l.Sender.Queue, l.Sender.Flight = nil, nil
	l.Sender.Turn, l.Receiver.Owes = 3, true
	if !Idle(l) {
		t.Errorf("%v is not idle", l)
	}
	for _, p := range parts() {
		var one api.Lane
		p.set(&one, 2)
		if got, want := Idle(one), p.name != "Queue" && p.name != "Flight"; got != want {
			t.Errorf("a lane of two %s: idle is %t", p.name, got)
		}
		empty := full()
		p.set(&empty, 0)
		if Idle(empty) {
			t.Errorf("a full lane but for its %s is idle", p.name)
		}
	}
}

func TestStill(t *testing.T) {
	queued := api.Lane{Sender: api.Sender{Queue: make([]api.Msg, 1)}}
	flying := api.Lane{Sender: api.Sender{Flight: make([]api.Chunk, 1)}}
	for lanes := range 6 {
		for busy := range 1 << lanes {
			for _, one := range []api.Lane{queued, flying} {
				w := api.World{Lanes: make([]api.Lane, lanes), Ticks: 5 - lanes}
				for at := range w.Lanes {
					if busy>>at&1 == 1 {
						w.Lanes[at] = one
					}
				}
				if got, want := Still(w), busy == 0; got != want {
					t.Errorf("of %v still is %t", w, got)
				}
			}
		}
	}
}

// A world without lanes has none that is not idle; ticks are no matter, nor what is on its way.
func TestStillOfOtherWorlds(t *testing.T) {
	for _, w := range []api.World{{}, {Lanes: []api.Lane{}}, {Ticks: 7}, {Ticks: -7}, {Ticks: math.MinInt, Lanes: make([]api.Lane, 3)}} {
		if !Still(w) {
			t.Errorf("%v is not still", w)
		}
	}
	l := full()
	l.Sender.Queue, l.Sender.Flight = nil, nil
	if w := (api.World{Lanes: []api.Lane{{}, l, l}}); !Still(w) {
		t.Errorf("%v is not still", w)
	}
	if w := (api.World{Lanes: []api.Lane{{}, l, full()}}); Still(w) {
		t.Errorf("%v is still", w)
	}
}

func TestSent(t *testing.T) {
	for _, next := range []int{0, 1, 2, 39, 40, 41, -1, 1 << 32, math.MinInt, math.MaxInt} {
		for _, told := range []int{0, 1, 7, 40, 41, 300} {
			l := full()
			l.Sender.Next, l.Receiver.Next = next, 17
			l.Receiver.Told = make([]api.Msg, told)
			if a, b := Sent(l); a != next || b != told {
				t.Errorf("of Next %d and %d told sent is %d, %d", next, told, a, b)
			}
		}
	}
	if a, b := Sent(api.Lane{}); a != 0 || b != 0 {
		t.Errorf("an empty lane has sent %d, %d", a, b)
	}
	l := full()
	l.Sender.Next, l.Receiver = 0, api.Receiver{Next: 5, Hold: make([]api.Chunk, 4), Early: []int{7}}
	if a, b := Sent(l); a != 0 || b != 0 {
		t.Errorf("a lane of which nothing was told has sent %d, %d", a, b)
	}
}

// do is w behind these steps; no one of them may fail.
func do(t *testing.T, w api.World, steps ...api.Step) api.World {
	t.Helper()
	for _, s := range steps {
		var err api.Errno
		if w, err = world.Do(w, s); err != api.OK {
			t.Fatalf("step %v is error %d", s, err)
		}
	}
	return w
}

// A message's way, from being put until its sender hears of it.
func TestAMessageOnItsWay(t *testing.T) {
	w, _ := world.New(2)
	for _, at := range []struct {
		name        string
		steps       []api.Step
		idle        bool
		sent, heard int
	}{
		{"new", nil, true, 0, 0},
		{"put", []api.Step{put(1, 0, "a")}, false, 0, 0},
		{"behind another one's tick", []api.Step{aTick}, false, 0, 0},
		{"said", []api.Step{aTick}, false, 1, 0},
		{"doubled", []api.Step{{Kind: api.StepTwice, Tenant: 1}}, false, 1, 0},
		{"come", []api.Step{come(1, false)}, false, 1, 1},
		{"come again", []api.Step{come(1, false)}, false, 1, 1},
		{"answered", []api.Step{aTick, aTick}, false, 1, 1},
		{"heard", []api.Step{come(1, true)}, true, 1, 1},
	} {
		w = do(t, w, at.steps...)
		l := w.Lanes[1]
		sent, heard := Sent(l)
		if Idle(l) != at.idle || Still(w) != at.idle || sent != at.sent || heard != at.heard || !Within(l) {
			t.Errorf("%s: idle %t, still %t, sent %d, %d, within %t", at.name, Idle(l), Still(w), sent, heard, Within(l))
		}
		if !Idle(w.Lanes[0]) {
			t.Errorf("%s: lane 0 is not idle", at.name)
		}
	}
	// It was said again ahead of the answer: that is on its way still.
	if l := w.Lanes[1]; len(l.There) != 1 {
		t.Errorf("there are %d packets", len(l.There))
	}
}

// Who floods drowns alone: they take no more than their room, and the others are idle.
func TestAFlood(t *testing.T) {
	w, _ := world.New(3)
	refused := map[api.Errno]int{}
	for round := range 600 {
		for range 9 {
			var err api.Errno
			w, err = world.Do(w, put(2, round%3, "flood"))
			refused[err]++
		}
		w = do(t, w, aTick)
		if round > 30 {
			// Where nothing is on its way, nothing comes.
			w, _ = world.Do(w, come(2, false))
			w, _ = world.Do(w, come(2, true))
		}
		l := w.Lanes[2]
		sent, _ := Sent(l)
		if !Within(l) || !Idle(w.Lanes[0]) || !Idle(w.Lanes[1]) || Idle(l) != (sent == 40 && len(l.Sender.Flight) == 0) || Still(w) != Idle(l) {
			t.Fatalf("in round %d the flood is %v", round, w)
		}
	}
	if sent, told := Sent(w.Lanes[2]); sent != 40 || told != 40 || !Still(w) {
		t.Errorf("at last the flood sent %d, was told %d, and is %v", sent, told, w.Lanes[2])
	}
	if refused[api.OK] != 40 || refused[api.ErrFull] == 0 || refused[api.ErrMuch] == 0 {
		t.Errorf("of the flood so many had each error: %v", refused)
	}
}

// dice is a story's own, the same each time.
type dice uint32

func (d *dice) roll(n int) int {
	*d = *d*1664525 + 1013904223
	return int(uint32(*d)>>8) % n
}

// step is most often a right one of the first tenants; with spoil, of all kinds.
func (d *dice) step(tenants int, spoil bool) api.Step {
	s := api.Step{
		Kind:   api.StepTick,
		Tenant: d.roll(tenants),
		N:      d.roll(3),
		M:      d.roll(12),
		IsBack: d.roll(2) == 0,
		Msg:    msg(d.roll(3), "abcdef"[:d.roll(7)]),
	}
	switch k := d.roll(40); {
	case k < 3:
		s.Kind = api.StepPut
	case k < 20:
		// Most that speak are heard, the first one first: else few would be idle.
		s.Kind, s.N = api.StepCome, s.N/2
	case k < 22:
		s.Kind = api.StepLose + d.roll(2)
	case k < 26 && spoil:
		s.Kind = api.StepSpoil
	case k == 28:
		s.Tenant = d.roll(9) - 3
	case k == 29:
		s.Kind = d.roll(12) - 3
	}
	return s
}

// Nobody takes all the room, whatever becomes of the packets.
func TestWorldsAreWithin(t *testing.T) {
	for seed := range 30 {
		d := dice(100 + seed)
		tenants := 1 + seed%3
		w, _ := world.New(tenants)
		for at := range 300 {
			w, _ = world.Do(w, d.step(tenants, true))
			w, _ = world.Do(w, put(at%tenants, at%3, "more"))
			for tenant, l := range w.Lanes {
				if !Within(l) {
					t.Fatalf("lane %d is not within: %v", tenant, l)
				}
			}
		}
	}
}

// Who is idle knows it: all that they put was sent, and told.
func TestWhoIsIdleKnowsIt(t *testing.T) {
	idle := 0
	for seed := range 30 {
		d := dice(500 + seed)
		tenants := 1 + seed%3
		w, _ := world.New(tenants)
		var l []api.Step
		var es []api.Errno
		for range 240 {
			s := d.step(tenants, false)
			var err api.Errno
			w, err = world.Do(w, s)
			l, es = append(l, s), append(es, err)
			for tenant, lane := range w.Lanes {
				puts := view.Puts(l, es, tenant)
				sent, told := Sent(lane)
				if told > sent || sent > len(puts) {
					t.Fatalf("tenant %d put %d, sent %d, and was told %d", tenant, len(puts), sent, told)
				}
				if !Idle(lane) {
					continue
				}
				if sent != len(puts) || told != sent || !plain.All(lane.Receiver.Told, puts) {
					t.Fatalf("tenant %d is idle, put %d, sent %d, and was told %d", tenant, len(puts), sent, told)
				}
				if told > 0 {
					idle++
				}
			}
		}
	}
	if idle < 100 {
		t.Errorf("only %d were idle behind something", idle)
	}
}

// whole is l as a text, the room behind its lists told too.
func whole(l api.Lane) string {
	s, r := l.Sender, l.Receiver
	out := tell(l) + tell(s.Queue[:cap(s.Queue)]) + tell(s.Flight[:cap(s.Flight)])
	out += tell(r.Early[:cap(r.Early)]) + tell(r.Hold[:cap(r.Hold)]) + tell(r.Told[:cap(r.Told)])
	return out + tell(l.There[:cap(l.There)]) + tell(l.Back[:cap(l.Back)])
}

// roomy is l with entries in the room behind each of its lists.
func roomy(l api.Lane) api.Lane {
	l.Sender.Queue = append(l.Sender.Queue, make([]api.Msg, 50)...)[:len(l.Sender.Queue)]
	l.Sender.Flight = append(l.Sender.Flight, make([]api.Chunk, 50)...)[:len(l.Sender.Flight)]
	l.Receiver.Early = append(l.Receiver.Early, make([]int, 50)...)[:len(l.Receiver.Early)]
	l.Receiver.Hold = append(l.Receiver.Hold, make([]api.Chunk, 50)...)[:len(l.Receiver.Hold)]
	l.Receiver.Told = append(l.Receiver.Told, make([]api.Msg, 50)...)[:len(l.Receiver.Told)]
	l.There = append(l.There, make([][]byte, 50)...)[:len(l.There)]
	l.Back = append(l.Back, make([][]byte, 50)...)[:len(l.Back)]
	return l
}

// What is looked at stays as it was, and what stands in the room behind its lists is nothing of it.
func TestLanesAreOnlyLookedAt(t *testing.T) {
	busy := full()
	busy.Sender.Queue = nil
	for _, clean := range []api.Lane{{}, full(), busy} {
		l := roomy(clean)
		before := whole(l)
		w := api.World{Lanes: []api.Lane{l, full()}[:1]}
		a, b := Sent(l)
		c, d := Sent(clean)
		if Idle(l) != Idle(clean) || Within(l) != Within(clean) || Still(w) != Idle(clean) || a != c || b != d {
			t.Errorf("the room behind lists of %v was looked at", clean)
		}
		if whole(l) != before || tell(w.Lanes[:2]) != tell([]api.Lane{l, full()}) {
			t.Errorf("to look at %v changed it", clean)
		}
	}
}
