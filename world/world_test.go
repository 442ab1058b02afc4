package world

import (
	"fmt"
	"math"
	"reflect"
	"slices"
	"strings"
	"testing"

	"lanekeeper/api"
	"lanekeeper/chunk"
	"lanekeeper/lane"
	"lanekeeper/plain"
	"lanekeeper/send"
)

// tell is x as a text: nil and empty lists are one in it.
func tell(x any) string { return fmt.Sprintf("%v", x) }

func msg(stream int, data string) api.Msg {
	return api.Msg{Stream: stream, Data: []byte(data)}
}

func put(tenant, stream int, data string) api.Step {
	return api.Step{Kind: api.StepPut, Tenant: tenant, Msg: msg(stream, data)}
}

var aTick = api.Step{Kind: api.StepTick}

// made is a new world of so many tenants, behind these steps, each without an error.
func made(t *testing.T, tenants int, steps ...api.Step) api.World {
	t.Helper()
	w, err := New(tenants)
	if err != api.OK {
		t.Fatalf("New(%d) is error %d", tenants, err)
	}
	for i, s := range steps {
		if w, err = Do(w, s); err != api.OK {
			t.Fatalf("step %d, %v, is error %d", i, s, err)
		}
	}
	return w
}

// busy is a world of three, in whose lanes packets are on their way, there and back, each lane another one.
func busy(t *testing.T) api.World {
	t.Helper()
	w := made(t, 3,
		put(0, 0, "a"), put(0, 1, "b"), put(0, 0, "cde"), put(0, 2, ""),
		put(1, 2, "x"), put(1, 2, "yz"), put(1, 0, "uvw"),
		put(2, 1, "mnopqr"), put(2, 0, "s"),
		aTick, aTick, aTick, aTick, aTick, aTick, aTick, aTick, aTick,
	)
	for tenant := range 3 {
		for _, s := range []api.Step{
			{Kind: api.StepCome, Tenant: tenant, N: 1},
			{Kind: api.StepTwice, Tenant: tenant, N: 1},
			aTick, aTick, aTick,
			{Kind: api.StepTwice, Tenant: tenant, IsBack: true},
		} {
			var err api.Errno
			if w, err = Do(w, s); err != api.OK {
				t.Fatalf("%v of tenant %d is error %d", s, tenant, err)
			}
		}
	}
	for i, l := range w.Lanes {
		if len(l.There) < 3 || len(l.Back) < 2 || len(l.Sender.Flight) == 0 {
			t.Fatalf("lane %d is not busy: %v", i, l)
		}
	}
	return w
}

func TestNew(t *testing.T) {
	for _, tenants := range []int{1, 2, 3} {
		want := api.World{Lanes: make([]api.Lane, tenants)}
		if got, err := New(tenants); err != api.OK || len(got.Lanes) != tenants || tell(got) != tell(want) {
			t.Errorf("New(%d) is %v, %d", tenants, got, err)
		}
	}
	for _, tenants := range []int{0, 4, -1, -2, -3, 5, 256 + 1, 1<<32 + 1, math.MinInt, math.MinInt + 2, math.MaxInt} {
		if got, err := New(tenants); err != api.ErrRange || tell(got) != tell(api.World{}) {
			t.Errorf("New(%d) is %v, %d", tenants, got, err)
		}
	}
}

func TestNewWorldsAreApart(t *testing.T) {
	a, _ := New(2)
	b, _ := New(2)
	a.Lanes[0].Sender.Next = 7
	a.Lanes[:cap(a.Lanes)][1].There = [][]byte{{1}}
	if want := made(t, 2); tell(b) != tell(want) {
		t.Errorf("the other one is %v", b)
	}
	if c, _ := New(2); tell(c) != tell(b) {
		t.Errorf("the next one is %v", c)
	}
}

func TestOwn(t *testing.T) {
	for _, w := range []api.World{
		{},
		{Lanes: []api.Lane{}},
		{Ticks: 12},
		made(t, 1), made(t, 2), made(t, 3, aTick, aTick),
		made(t, 1, put(0, 2, "abc"), aTick),
		busy(t),
	} {
		if got := Own(w); len(got.Lanes) != len(w.Lanes) || tell(got) != tell(w) {
			t.Errorf("Own of %v is %v", w, got)
		}
	}
}

// At each tick one lane speaks, in turn, whether it has something to say or not; the others are as they were.
func TestTicks(t *testing.T) {
	for tenants := 1; tenants <= 3; tenants++ {
		w := made(t, tenants)
		for tenant := range tenants {
			if tenant != 1 {
				for i := range 5 {
					w, _ = Do(w, put(tenant, i%3, "abcdef"[:i+1]))
				}
			}
		}
		for at := range 40 {
			want := Own(w)
			want.Ticks = at + 1
			want.Lanes[at%tenants] = lane.Speak(want.Lanes[at%tenants])
			got, err := Do(w, aTick)
			if err != api.OK || tell(got) != tell(want) {
				t.Fatalf("tick %d of %d tenants: %d, and %v, not %v", at, tenants, err, got, want)
			}
			w = got
		}
		for tenant, l := range w.Lanes {
			if tenant != 1 && len(l.There) != 6 || tenant == 1 && len(l.There) != 0 {
				t.Errorf("of %d tenants %d has %d packets there", tenants, tenant, len(l.There))
			}
		}
	}
}

// The line is at Ticks, not behind it; and both ends speak.
func TestTickSaysBothWays(t *testing.T) {
	w := made(t, 2, put(0, 0, "a"), put(1, 1, "b"), aTick)
	if len(w.Lanes[0].There) != 1 || len(w.Lanes[1].There) != 0 || w.Ticks != 1 {
		t.Errorf("behind one tick it is %v", w)
	}
	w, _ = Do(w, aTick)
	if len(w.Lanes[0].There) != 1 || len(w.Lanes[1].There) != 1 || w.Ticks != 2 {
		t.Errorf("behind two ticks it is %v", w)
	}
	w, _ = Do(w, api.Step{Kind: api.StepCome, Tenant: 1})
	w, _ = Do(w, aTick)
	w, _ = Do(w, aTick)
	if l := w.Lanes[1]; tell(l.There) != "[[1 0 1 0 98 208 75]]" || tell(l.Back) != "[[2 1 18 16]]" || l.Receiver.Owes || w.Ticks != 4 {
		t.Errorf("behind four ticks it is %v", w)
	}
}

// What a tick has not means nothing: not even a tenant that there is not.
func TestTickIsOfNoTenant(t *testing.T) {
	w := busy(t)
	want, _ := Do(w, aTick)
	for _, s := range []api.Step{
		{Tenant: 1}, {Tenant: 2}, {Tenant: -1}, {Tenant: 3}, {Tenant: math.MinInt}, {Tenant: math.MaxInt},
		{N: 1, M: 2, IsBack: true}, {N: -5, M: -5}, {N: 99, M: 99},
		{Msg: msg(0, "a")}, {Msg: msg(9, "much too long")}, {Tenant: 99, N: 99, M: 99, IsBack: true, Msg: msg(-1, "")},
	} {
		s.Kind = api.StepTick
		if got, err := Do(w, s); err != api.OK || tell(got) != tell(want) {
			t.Errorf("%v: %d, and %v, not %v", s, err, got, want)
		}
	}
}

func someWorlds(t *testing.T) []api.World {
	t.Helper()
	out := []api.World{made(t, 1), made(t, 2), made(t, 3, aTick), busy(t)}
	for seed := range 6 {
		d := dice(500 + seed)
		w := made(t, 1+seed%3)
		for i := range 150 {
			if w, _ = Do(w, d.step(len(w.Lanes))); i%25 == 24 {
				out = append(out, w)
			}
		}
	}
	return out
}

// asWas: s of w is that error, and w is as it was.
func asWas(t *testing.T, w api.World, s api.Step, want api.Errno) {
	t.Helper()
	if got, err := Do(w, s); err != want || tell(got) != tell(w) {
		t.Errorf("%v of %v: error %d, not %d, and %v", s, w, err, want, got)
	}
}

// There being no such kind is told ahead of all else.
func TestNoSuchKind(t *testing.T) {
	for _, w := range someWorlds(t) {
		for _, kind := range []int{0, 7, 8, -1, -2, 256 + 1, 1<<32 + 1, 1<<32 + 2, math.MinInt, math.MaxInt} {
			for _, s := range []api.Step{
				{}, {Tenant: 3}, {Tenant: -1}, {Tenant: math.MaxInt}, {N: 99, M: 99}, {N: -1, IsBack: true},
				{Msg: msg(0, "a")}, {Msg: msg(9, "much too long")},
			} {
				s.Kind = kind
				asWas(t, w, s, api.ErrKind)
			}
		}
	}
}

// There being no such tenant is told ahead of what is wrong with a message, a packet or a byte.
func TestNoSuchTenant(t *testing.T) {
	for _, w := range someWorlds(t) {
		many := len(w.Lanes)
		for _, tenant := range []int{-1, many, many + 1, -many, 99, 256, 1 << 32, math.MinInt, math.MaxInt} {
			for kind := api.StepPut; kind <= api.StepSpoil; kind++ {
				for _, s := range []api.Step{
					{}, {N: 99}, {M: 99}, {N: -1, M: -1, IsBack: true}, {IsBack: true},
					{Msg: msg(2, "ab")}, {Msg: msg(9, "a")}, {Msg: msg(0, "too long")},
				} {
					s.Kind, s.Tenant = kind, tenant
					asWas(t, w, s, api.ErrNone)
				}
			}
		}
	}
}

func TestPut(t *testing.T) {
	for _, w := range someWorlds(t) {
		for tenant := range w.Lanes {
			for _, s := range []api.Step{
				put(tenant, 0, "a"), put(tenant, 1, ""), put(tenant, 2, "abcdef"),
				{Kind: api.StepPut, Tenant: tenant, N: 9, M: -9, IsBack: true, Msg: msg(1, "bc")},
				{Kind: api.StepPut, Tenant: tenant, Msg: api.Msg{}},
			} {
				want := Own(w)
				sender, wrong := send.Put(w.Lanes[tenant].Sender, s.Msg)
				want.Lanes[tenant].Sender = sender
				if got, err := Do(w, s); err != wrong || tell(got) != tell(want) {
					t.Errorf("%v of %v: %d, and %v, not %d, and %v", s, w, err, got, wrong, want)
				}
			}
		}
	}
}

func TestPutIsLast(t *testing.T) {
	w := made(t, 3, put(1, 0, "a"), put(1, 2, "b"), put(2, 0, "c"))
	for tenant, want := range []string{"[]", tell([]api.Msg{msg(0, "a"), msg(2, "b")}), tell([]api.Msg{msg(0, "c")})} {
		if got := tell(w.Lanes[tenant].Sender.Queue); got != want {
			t.Errorf("of tenant %d there wait %s, not %s", tenant, got, want)
		}
	}
	if w.Ticks != 0 {
		t.Errorf("behind no tick there are %d", w.Ticks)
	}
}

func TestWrongPut(t *testing.T) {
	w := made(t, 2, put(0, 0, "a"))
	for _, c := range []struct {
		m    api.Msg
		want api.Errno
	}{
		{msg(-1, "a"), api.ErrRange}, {msg(3, "a"), api.ErrRange}, {msg(math.MaxInt, "a"), api.ErrRange}, {msg(math.MinInt, ""), api.ErrRange},
		{msg(0, "abcdefg"), api.ErrMuch}, {msg(2, "abcdefghijklmnopq"), api.ErrMuch}, {msg(3, "abcdefg"), api.ErrRange},
	} {
		if got := chunk.WrongMsg(c.m); got != c.want {
			t.Fatalf("WrongMsg of %v is %d, not %d", c.m, got, c.want)
		}
		asWas(t, w, api.Step{Kind: api.StepPut, Tenant: 0, Msg: c.m}, c.want)
		asWas(t, w, api.Step{Kind: api.StepPut, Tenant: 1, Msg: c.m}, c.want)
	}
}

// Who floods has no room any more; the others have theirs.
func TestPutWithoutRoom(t *testing.T) {
	w := made(t, 2)
	for range 6 {
		w, _ = Do(w, put(0, 0, "a"))
	}
	asWas(t, w, put(0, 1, "b"), api.ErrFull)
	asWas(t, w, put(0, 3, "b"), api.ErrRange)
	if got, err := Do(w, put(1, 1, "b")); err != api.OK || len(got.Lanes[1].Sender.Queue) != 1 || tell(got.Lanes[0]) != tell(w.Lanes[0]) {
		t.Errorf("the other one's: %d, %v", err, got)
	}
}

// A lane has its numbers in all; behind the last one nothing is put any more, and others have theirs.
func TestPutWithoutNumbers(t *testing.T) {
	w := made(t, 2)
	puts := 0
	for range 1000 {
		var err api.Errno
		if w, err = Do(w, put(1, 2, "z")); err == api.OK {
			puts++
		}
		w, _ = Do(w, aTick)
		w, _ = Do(w, api.Step{Kind: api.StepCome, Tenant: 1})
		w, _ = Do(w, api.Step{Kind: api.StepCome, Tenant: 1, IsBack: true})
	}
	if puts != 40 || len(w.Lanes[1].Receiver.Told) != 40 || w.Ticks != 1000 {
		t.Errorf("%d were put, %d told, in %d ticks", puts, len(w.Lanes[1].Receiver.Told), w.Ticks)
	}
	asWas(t, w, put(1, 0, ""), api.ErrMuch)
	if _, err := Do(w, put(0, 0, "")); err != api.OK {
		t.Errorf("the other one's: %d", err)
	}
}

// byHand is what a step of a packet makes of a lane.
func byHand(l api.Lane, s api.Step) (api.Lane, api.Errno) {
	return map[int]func() (api.Lane, api.Errno){
		3: func() (api.Lane, api.Errno) { return lane.Come(l, s.N, s.IsBack) },
		4: func() (api.Lane, api.Errno) { return lane.Lose(l, s.N, s.IsBack) },
		5: func() (api.Lane, api.Errno) { return lane.Twice(l, s.N, s.IsBack) },
		6: func() (api.Lane, api.Errno) { return lane.Spoil(l, s.N, s.M, s.IsBack) },
	}[s.Kind]()
}

var ways = []bool{false, true}

func TestPackets(t *testing.T) {
	seen := map[string]int{}
	for _, w := range someWorlds(t) {
		for tenant := range w.Lanes {
			for kind := 3; kind <= 6; kind++ {
				for _, n := range []int{0, 1, 5, -1, math.MaxInt} {
					for _, at := range []int{0, 3, 99, math.MinInt} {
						for _, back := range ways {
							s := api.Step{Kind: kind, Tenant: tenant, N: n, M: at, IsBack: back}
							want := Own(w)
							l, wrong := byHand(want.Lanes[tenant], s)
							want.Lanes[tenant] = l
							got, err := Do(w, s)
							if err != wrong || tell(got) != tell(want) {
								t.Fatalf("%v of %v: %d, and %v, not %d, and %v", s, w, err, got, wrong, want)
							}
							if err != api.OK && tell(got) != tell(w) {
								t.Fatalf("%v of %v: %d, and %v, not as it was", s, w, err, got)
							}
							seen[fmt.Sprint(kind, back, err)]++
						}
					}
				}
			}
		}
	}
	for _, one := range []string{"3 false 0", "3 true 0", "4 false 0", "4 true 0", "5 false 0", "5 true 0", "6 false 0", "6 true 0", "6 false 3", "6 true 3", "3 true 6", "6 false 6"} {
		if seen[one] == 0 {
			t.Errorf("kind, way, error: %s was not seen", one)
		}
	}
}

// What a step of a packet has not means nothing.
func TestPacketsHaveNoMessage(t *testing.T) {
	w := busy(t)
	for kind := 3; kind <= 6; kind++ {
		for tenant := range 3 {
			s := api.Step{Kind: kind, Tenant: tenant, N: 1, M: 1}
			want, _ := Do(w, s)
			s.Msg = msg(9, "much too long")
			if got, err := Do(w, s); err != api.OK || tell(got) != tell(want) {
				t.Errorf("%v: %d, and %v, not %v", s, err, got, want)
			}
		}
	}
}

func TestEachKind(t *testing.T) {
	w := made(t, 2, put(1, 0, "a"), put(1, 1, "b"), aTick, aTick, aTick, aTick)
	packets := w.Lanes[1].There
	for _, c := range []struct {
		s     api.Step
		there [][]byte
		told  []api.Msg
	}{
		{api.Step{Kind: 3, Tenant: 1}, packets[1:], []api.Msg{msg(0, "a")}},
		{api.Step{Kind: 3, Tenant: 1, N: 1}, packets[:1], []api.Msg{msg(1, "b")}},
		{api.Step{Kind: 4, Tenant: 1}, packets[1:], nil},
		{api.Step{Kind: 4, Tenant: 1, N: 1}, packets[:1], nil},
		{api.Step{Kind: 5, Tenant: 1}, [][]byte{packets[0], packets[1], packets[0]}, nil},
		{api.Step{Kind: 5, Tenant: 1, N: 1}, [][]byte{packets[0], packets[1], packets[1]}, nil},
		{api.Step{Kind: 6, Tenant: 1, N: 1, M: 4}, [][]byte{packets[0], {1, 1, 1, 0, 'c', 205, 101}}, nil},
		{api.Step{Kind: 6, Tenant: 1, M: 6}, [][]byte{{1, 0, 0, 0, 'a', 132, 208}, packets[1]}, nil},
	} {
		got, err := Do(w, c.s)
		l := got.Lanes[1]
		if err != api.OK || tell(l.There) != tell(c.there) || tell(l.Receiver.Told) != tell(c.told) || tell(got.Lanes[0]) != tell(w.Lanes[0]) || got.Ticks != 4 {
			t.Errorf("%v: %d, and %v", c.s, err, got)
		}
	}
}

// A packet that is spoilt is lost when it comes, and said again at the next tick of its tenant.
func TestSpoiltIsLost(t *testing.T) {
	w := made(t, 1, put(0, 2, "ab"), aTick, api.Step{Kind: 6, M: 5}, api.Step{Kind: 3})
	if l := w.Lanes[0]; len(l.Receiver.Told) != 0 || len(l.There) != 0 || len(l.Sender.Flight) != 1 || l.Receiver.Owes {
		t.Errorf("behind a spoilt one it is %v", w)
	}
	w, _ = Do(w, aTick)
	w, _ = Do(w, api.Step{Kind: 3})
	if l := w.Lanes[0]; tell(l.Receiver.Told) != tell([]api.Msg{msg(2, "ab")}) || !l.Receiver.Owes {
		t.Errorf("behind another one it is %v", w)
	}
}

// Of worlds that no call makes, and of the one beside New's error: at a tick that is nobody's no lane speaks.
func TestNobodysTick(t *testing.T) {
	none, _ := New(0)
	asWas(t, none, aTick, api.ErrRange)
	asWas(t, none, put(0, 0, "a"), api.ErrNone)
	asWas(t, none, api.Step{Kind: 9}, api.ErrKind)
	early := busy(t)
	early.Ticks = -1
	asWas(t, early, aTick, api.ErrRange)
	asWas(t, api.World{Lanes: make([]api.Lane, 4)}, aTick, api.ErrRange)
}

// dice is a story's own, the same each time.
type dice uint32

func (d *dice) roll(n int) int {
	*d = *d*1664525 + 1013904223
	return int(uint32(*d)>>8) % n
}

// step is any step, most of them right ones of the first tenants.
func (d *dice) step(tenants int) api.Step {
	s := api.Step{
		Kind:   api.StepTick,
		Tenant: d.roll(tenants),
		N:      d.roll(8) - 1,
		M:      d.roll(14) - 1,
		IsBack: d.roll(2) == 0,
		Msg:    msg(d.roll(3), "abcdef"[:d.roll(7)]),
	}
	switch k := d.roll(40); {
	case k < 10:
		s.Kind = api.StepPut
	case k < 20:
		// Most that speak are heard: else no story would come to its end.
		s.Kind, s.N = api.StepCome, max(0, s.N/2)
	case k < 26:
		s.Kind = api.StepLose + d.roll(3)
	case k == 26:
		s.Tenant = d.roll(9) - 3
	case k == 27:
		s.Kind = d.roll(12) - 3
	case k == 28:
		s.Kind, s.Msg = api.StepPut, msg(d.roll(7)-2, strings.Repeat("x", d.roll(10)))
	}
	return s
}

// apartWorld is a world told otherwise: each tenant's lane on its own, and who has the line counted on.
type apartWorld struct {
	lanes       map[int]api.Lane
	turn, ticks int
}

func apartOf(w api.World) *apartWorld {
	m := &apartWorld{map[int]api.Lane{}, w.Ticks % len(w.Lanes), w.Ticks}
	for i, l := range w.Lanes {
		m.lanes[i] = lane.Own(l)
	}
	return m
}

func (m *apartWorld) world() api.World {
	w := api.World{Ticks: m.ticks}
	for i := range len(m.lanes) {
		w.Lanes = append(w.Lanes, m.lanes[i])
	}
	return w
}

// do does s, and tells its error.
func (m *apartWorld) do(s api.Step) api.Errno {
	if s.Kind == 1 {
		m.lanes[m.turn] = lane.Speak(m.lanes[m.turn])
		m.ticks++
		if m.turn++; m.turn == len(m.lanes) {
			m.turn = 0
		}
		return api.OK
	}
	if !slices.Contains([]int{2, 3, 4, 5, 6}, s.Kind) {
		return api.ErrKind
	}
	l, is := m.lanes[s.Tenant]
	if !is {
		return api.ErrNone
	}
	if s.Kind == 2 {
		sender, err := send.Put(l.Sender, s.Msg)
		if err == api.OK {
			l.Sender = sender
			m.lanes[s.Tenant] = l
		}
		return err
	}
	got, err := byHand(l, s)
	if err == api.OK {
		m.lanes[s.Tenant] = got
	}
	return err
}

// walk does s to w and to m, and holds them against each other.
func walk(t *testing.T, w api.World, m *apartWorld, s api.Step) api.World {
	t.Helper()
	before := tell(w)
	got, err := Do(w, s)
	if want := m.do(s); err != want {
		t.Fatalf("%s, behind %v: error %d, not %d", before, s, err, want)
	}
	if want := m.world(); tell(got) != tell(want) {
		t.Fatalf("%s, behind %v: %v, not %v", before, s, got, want)
	}
	return got
}

// All short stories.
func TestShortStories(t *testing.T) {
	steps := []api.Step{
		aTick, put(0, 0, "a"), put(1, 2, "bc"), put(2, 0, "d"),
		{Kind: 3}, {Kind: 3, Tenant: 1}, {Kind: 3, Tenant: 1, IsBack: true},
		{Kind: 4}, {Kind: 5, Tenant: 1}, {Kind: 6, Tenant: 1, M: 4}, {Kind: 0},
	}
	var tellAll func(w api.World, left int)
	tellAll = func(w api.World, left int) {
		if left == 0 {
			return
		}
		for _, s := range steps {
			tellAll(walk(t, w, apartOf(w), s), left-1)
		}
	}
	for tenants := 1; tenants <= 3; tenants++ {
		tellAll(made(t, tenants), 3)
	}
	tellAll(made(t, 2, put(0, 1, "x"), put(1, 0, "y"), aTick, aTick, aTick), 3)
}

// A line that loses, doubles, spoils and mixes up, for each tenant alike.
func TestLongStories(t *testing.T) {
	for seed := range 24 {
		d := dice(seed)
		w := made(t, 1+seed%3)
		m := apartOf(w)
		for range 700 {
			w = walk(t, w, m, d.step(len(w.Lanes)))
		}
	}
}

// Nobody sees another one: a tenant's lane is the same whatever others do.
func TestOthersDoNotMatter(t *testing.T) {
	for seed := range 20 {
		d := dice(3000 + seed)
		tenants := 2 + seed%2
		full := made(t, tenants)
		alone := make([]api.World, tenants)
		for i := range alone {
			alone[i] = made(t, tenants)
		}
		for range 500 {
			s := d.step(tenants)
			full, _ = Do(full, s)
			for i := range alone {
				if s.Kind == api.StepTick || s.Tenant == i {
					alone[i], _ = Do(alone[i], s)
				}
				if tell(alone[i].Lanes[i]) != tell(full.Lanes[i]) {
					t.Fatalf("behind %v tenant %d sees another one: %v, not %v", s, i, full.Lanes[i], alone[i].Lanes[i])
				}
			}
		}
	}
}

// Over a bad line what each tenant is told fits what was put by the same one, at every time, and all is told at last.
func TestWhatIsToldFits(t *testing.T) {
	for seed := range 12 {
		d := dice(9000 + seed)
		tenants := 1 + seed%3
		w := made(t, tenants)
		puts := make([][]api.Msg, tenants)
		for range 3500 * tenants {
			s := d.step(tenants)
			var err api.Errno
			w, err = Do(w, s)
			if s.Kind == api.StepPut && err == api.OK {
				puts[s.Tenant] = append(puts[s.Tenant], s.Msg)
			}
			if s.Kind == api.StepSpoil && err == api.OK {
				// Two bytes turned may be right again: what is spoilt comes at once.
				w, _ = Do(w, api.Step{Kind: api.StepCome, Tenant: s.Tenant, N: s.N, IsBack: s.IsBack})
			}
			for i, l := range w.Lanes {
				if !plain.Fits(l.Receiver.Told, puts[i]) {
					t.Fatalf("of tenant %d %v was put, and %v told", i, puts[i], l.Receiver.Told)
				}
			}
		}
		for i, l := range w.Lanes {
			if len(puts[i]) != 40 || !plain.All(l.Receiver.Told, puts[i]) {
				t.Errorf("of tenant %d of %d %d were put, and %d told", i, tenants, len(puts[i]), len(l.Receiver.Told))
			}
		}
	}
}

// lists visits each list of v, with the room behind it, those within it first.
func lists(v reflect.Value, visit func(reflect.Value)) {
	switch v.Kind() {
	case reflect.Struct:
		for i := range v.NumField() {
			lists(v.Field(i), visit)
		}
	case reflect.Slice:
		all := v.Slice(0, v.Cap())
		for i := range all.Len() {
			lists(all.Index(i), visit)
		}
		visit(all)
	}
}

// scribble changes all that x has memory of, the room behind its lists too.
func scribble(x any) {
	lists(reflect.ValueOf(x), func(v reflect.Value) {
		for i := range v.Len() {
			switch one := v.Index(i); one.Kind() {
			case reflect.Uint8:
				one.SetUint('#')
			case reflect.Int:
				one.SetInt(-9)
			default:
				one.SetZero()
			}
		}
	})
}

// whole is x as a text, the room behind its lists told too.
func whole(x any) string {
	out := ""
	lists(reflect.ValueOf(x), func(v reflect.Value) { out += tell(v.Interface()) + "\n" })
	return out
}

// roomy is a copy of x with spare room behind each list, in which stands something like what the list has.
func roomy[T any](x T) T { return roomyValue(reflect.ValueOf(x)).Interface().(T) }

func roomyValue(v reflect.Value) reflect.Value {
	switch v.Kind() {
	case reflect.Struct:
		out := reflect.New(v.Type()).Elem()
		for i := range v.NumField() {
			out.Field(i).Set(roomyValue(v.Field(i)))
		}
		return out
	case reflect.Slice:
		out := reflect.MakeSlice(v.Type(), 0, v.Len()+2)
		for i := range v.Len() {
			out = reflect.Append(out, roomyValue(v.Index(i)))
		}
		for i := range 2 {
			out = reflect.Append(out, spare(v, i))
		}
		return out.Slice(0, v.Len())
	}
	return v
}

func spare(v reflect.Value, i int) reflect.Value {
	switch kind := v.Type().Elem().Kind(); {
	case kind == reflect.Uint8:
		return reflect.ValueOf(byte('S'))
	case kind == reflect.Int:
		return reflect.ValueOf(1 + i)
	case v.Len() > 0:
		return roomyValue(v.Index(0))
	}
	return reflect.Zero(v.Type().Elem())
}

// memory is where the lists of x are, each with the room behind it.
func memory(x any) [][2]uintptr {
	var out [][2]uintptr
	lists(reflect.ValueOf(x), func(v reflect.Value) {
		if v.Len() > 0 {
			out = append(out, [2]uintptr{v.Pointer(), v.Pointer() + uintptr(v.Len())*v.Type().Elem().Size()})
		}
	})
	return out
}

// apart: whether no two of l have a byte of memory in common.
func apart(l [][2]uintptr) bool {
	slices.SortFunc(l, func(a, b [2]uintptr) int { return int(a[0]) - int(b[0]) })
	for i := 1; i < len(l); i++ {
		if l[i][0] < l[i-1][1] {
			return false
		}
	}
	return true
}

// someSteps are steps of every kind, right ones and wrong ones.
func someSteps() []api.Step {
	out := []api.Step{aTick, {Kind: 0}, {Kind: 7}, put(0, 1, "ab"), put(0, 9, "ab"), put(0, 0, "abcdefg"), put(2, 2, ""), put(-1, 0, "a")}
	for kind := 3; kind <= 6; kind++ {
		for _, back := range ways {
			out = append(out,
				api.Step{Kind: kind, IsBack: back, M: 2},
				api.Step{Kind: kind, Tenant: 1, N: 1, IsBack: back},
				api.Step{Kind: kind, N: 9, IsBack: back},
				api.Step{Kind: kind, Tenant: 3, IsBack: back},
			)
		}
	}
	return append(out, api.Step{Kind: 6, M: 99})
}

func TestWorldsAreOnlyReadAndNotShared(t *testing.T) {
	for _, one := range someWorlds(t) {
		for _, step := range someSteps() {
			first, _ := Do(Own(one), step)
			answer := tell(first)
			w, s := roomy(one), roomy(step)
			before := whole(w) + whole(s)
			got, _ := Do(w, s)
			if tell(got) != answer {
				t.Fatalf("%v: the room behind the lists of %s was looked at: %v, not %s", s, before, got, answer)
			}
			if whole(w)+whole(s) != before {
				t.Fatalf("%v changed what it was handed: %s, not %s", s, whole(w)+whole(s), before)
			}
			if !apart(slices.Concat(memory(got), memory(w), memory(s))) {
				t.Fatalf("%v of %s: lists share memory: %v", s, before, got)
			}
			scribble(w)
			scribble(s)
			if tell(got) != answer {
				t.Fatalf("something of %s is kept behind %v", before, step)
			}
		}
	}
}

func TestOwnSharesNothing(t *testing.T) {
	for _, one := range someWorlds(t) {
		w := roomy(one)
		before := whole(w)
		got := Own(w)
		if whole(w) != before || tell(got) != tell(one) || !apart(append(memory(got), memory(w)...)) {
			t.Fatalf("Own of %s is %v, and it %s", before, got, whole(w))
		}
		scribble(w)
		if tell(got) != tell(one) {
			t.Fatalf("Own kept something of %s", before)
		}
	}
}

// One world may go on in several ways, and none of them tells of another.
func TestWaysApart(t *testing.T) {
	w := busy(t)
	before := tell(w)
	for _, s := range someSteps() {
		got, _ := Do(w, s)
		scribble(got)
		if tell(w) != before {
			t.Fatalf("behind %v it is %v, not %s", s, w, before)
		}
	}
}
