package view

import (
	"fmt"
	"math"
	"reflect"
	"slices"
	"strings"
	"testing"

	"lanekeeper/api"
	"lanekeeper/plain"
	"lanekeeper/slot"
	"lanekeeper/world"
)

// tell is x as a text: nil and empty lists are one in it.
func tell(x any) string { return fmt.Sprintf("%v", x) }

func msg(stream int, data string) api.Msg {
	return api.Msg{Stream: stream, Data: []byte(data)}
}

func put(tenant, stream int, data string) api.Step {
	return api.Step{Kind: api.StepPut, Tenant: tenant, Msg: msg(stream, data)}
}

var aTick = api.Step{Kind: api.StepTick}

// play is a new world of so many tenants behind these steps, and each one's error.
func play(t *testing.T, tenants int, steps []api.Step) (api.World, []api.Errno) {
	t.Helper()
	w, err := world.New(tenants)
	if err != api.OK {
		t.Fatalf("New(%d) is error %d", tenants, err)
	}
	es := make([]api.Errno, len(steps))
	for i, s := range steps {
		w, es[i] = world.Do(w, s)
	}
	return w, es
}

// far are tenants that there are in no world.
var far = []int{-1, -2, -3, 3, 4, 99, 256, 1 << 32, 1<<32 + 1, math.MinInt, math.MinInt + 1, math.MaxInt}

func TestOf(t *testing.T) {
	for tenants := 1; tenants <= 3; tenants++ {
		var steps []api.Step
		for tenant := range tenants {
			steps = append(steps, put(tenant, tenant, "abc"[:tenant+1]), put(tenant, 2, "z"), aTick)
		}
		steps = append(steps, aTick, aTick, aTick, api.Step{Kind: api.StepCome}, aTick)
		w, _ := play(t, tenants, steps)
		for tenant := range tenants {
			if got, ok := Of(w, tenant); !ok || tell(got) != tell(w.Lanes[tenant]) || len(got.There) == 0 {
				t.Errorf("of %d tenants %d sees %v, %t", tenants, tenant, got, ok)
			}
		}
		for _, tenant := range append([]int{tenants, -tenants}, far...) {
			if got, ok := Of(w, tenant); ok || tell(got) != tell(api.Lane{}) {
				t.Errorf("of %d tenants %d sees %v, %t", tenants, tenant, got, ok)
			}
		}
	}
}

// A lane that is empty is there all the same.
func TestOfEmptyLanes(t *testing.T) {
	w, _ := world.New(2)
	for tenant := -1; tenant <= 2; tenant++ {
		if got, ok := Of(w, tenant); ok != (tenant == 0 || tenant == 1) || tell(got) != tell(api.Lane{}) {
			t.Errorf("of a new world tenant %d sees %v, %t", tenant, got, ok)
		}
	}
}

// Of worlds that no call makes: what lanes there are is seen, and nothing panics.
func TestOfWorldsThatNoCallMakes(t *testing.T) {
	for _, tenant := range append([]int{0, 1, 2}, far...) {
		for _, w := range []api.World{{}, {Lanes: []api.Lane{}}, {Ticks: 5}, {Ticks: -1}} {
			if got, ok := Of(w, tenant); ok || tell(got) != tell(api.Lane{}) {
				t.Errorf("of %v tenant %d sees %v, %t", w, tenant, got, ok)
			}
		}
	}
	many := api.World{Lanes: make([]api.Lane, 5), Ticks: -7}
	many.Lanes[4].Sender.Next = 12
	if got, ok := Of(many, 4); !ok || tell(got) != tell(many.Lanes[4]) {
		t.Errorf("the fifth one of five is %v, %t", got, ok)
	}
}

// story has steps of each kind, and of none, right ones and wrong ones, of tenants that there are and of others.
func story() []api.Step {
	return []api.Step{
		put(0, 0, "a"),
		{Kind: api.StepTick, Tenant: 1, N: 4, M: -4, IsBack: true, Msg: msg(9, "much too long")},
		put(1, 1, "b"),
		{Kind: api.StepPut, Tenant: 7},
		aTick,
		{Kind: api.StepCome},
		{Kind: api.StepPut, Msg: api.Msg{Stream: 4}},
		{Kind: api.StepTwice, Tenant: 1, N: 3, IsBack: true},
		{Kind: api.StepSpoil, Tenant: 1, M: 2, Msg: msg(2, "x")},
		put(1, 2, "cd"),
		{Kind: 0, Tenant: 1},
		{Kind: 9, Tenant: 0, Msg: msg(1, "y")},
		{Kind: api.StepLose, Tenant: -1},
		put(1, 1, "e"),
		put(-1, 1, "f"),
		{Kind: -1, Tenant: 7},
		{Kind: api.StepTick, Tenant: 7},
	}
}

// at are those entries of l.
func at[T any](l []T, places ...int) []T {
	var out []T
	for _, i := range places {
		out = append(out, l[i])
	}
	return out
}

func TestOnly(t *testing.T) {
	for _, c := range []struct {
		tenant int
		places []int
	}{
		{0, []int{0, 1, 4, 5, 6, 11, 16}},
		{1, []int{1, 2, 4, 7, 8, 9, 10, 13, 16}},
		{2, []int{1, 4, 16}},
		{7, []int{1, 3, 4, 15, 16}},
		{-1, []int{1, 4, 12, 14, 16}},
		{math.MinInt, []int{1, 4, 16}},
		{math.MaxInt, []int{1, 4, 16}},
		{1<<32 + 1, []int{1, 4, 16}},
	} {
		if got, want := Only(story(), c.tenant), at(story(), c.places...); tell(got) != tell(want) {
			t.Errorf("of tenant %d only %v, not %v", c.tenant, got, want)
		}
	}
}

func TestOnlyOfNothing(t *testing.T) {
	for _, tenant := range append([]int{0, 1, 2}, far...) {
		for _, l := range [][]api.Step{nil, {}, {put(5, 0, "a")}, {{Kind: 0, Tenant: 5}, {Kind: 7, Tenant: 5}}} {
			if got := Only(l, tenant); len(got) != 0 {
				t.Errorf("of %v tenant %d has %v", l, tenant, got)
			}
		}
	}
}

// Each step of some tenant is of that one alone, and each tick is everybody's; what is only one's is so still.
func TestOnlySharesOut(t *testing.T) {
	for seed := range 20 {
		l := dice(seed).steps(3, 200)
		ticks := 0
		for _, s := range l {
			if s.Kind == api.StepTick {
				ticks++
			}
		}
		left := len(l) - ticks
		for tenant := -3; tenant <= 5; tenant++ {
			mine := Only(l, tenant)
			left -= len(mine) - ticks
			if tell(Only(mine, tenant)) != tell(mine) {
				t.Fatalf("of what is only tenant %d's there is less", tenant)
			}
			if got := Only(mine, tenant+1); len(got) != ticks {
				t.Fatalf("of what is only tenant %d's there is %v of another one", tenant, got)
			}
		}
		if left != 0 {
			t.Fatalf("of %v %d steps are nobody's", l, left)
		}
	}
}

func TestPuts(t *testing.T) {
	l := story()
	_, es := play(t, 2, l)
	for _, c := range []struct {
		tenant int
		want   []api.Msg
	}{
		{0, []api.Msg{msg(0, "a")}},
		{1, []api.Msg{msg(1, "b"), msg(2, "cd"), msg(1, "e")}},
		{2, nil}, {7, nil}, {-1, nil}, {math.MinInt, nil}, {math.MaxInt, nil}, {1<<32 + 1, nil},
	} {
		if got := Puts(l, es, c.tenant); tell(got) != tell(c.want) {
			t.Errorf("tenant %d put %v, not %v", c.tenant, got, c.want)
		}
	}
}

// It is what es tells, not what the step is: a wrong one that is told to be right was put, and none beside any error.
func TestPutsByTheErrors(t *testing.T) {
	l := story()
	right := make([]api.Errno, len(l))
	for tenant, want := range map[int][]api.Msg{
		0:  {msg(0, "a"), msg(4, "")},
		1:  {msg(1, "b"), msg(2, "cd"), msg(1, "e")},
		7:  {msg(0, "")},
		-1: {msg(1, "f")},
		2:  nil,
	} {
		if got := Puts(l, right, tenant); tell(got) != tell(want) {
			t.Errorf("where all is right tenant %d put %v, not %v", tenant, got, want)
		}
	}
	for _, err := range []api.Errno{api.ErrKind, api.ErrForm, api.ErrRange, api.ErrMuch, api.ErrMany, api.ErrNone, api.ErrSum, api.ErrEnd, api.ErrFull, -1, 77, math.MinInt, math.MaxInt, 1 << 32} {
		one := slices.Clone(right)
		one[9] = err
		if got, want := Puts(l, one, 1), []api.Msg{msg(1, "b"), msg(1, "e")}; tell(got) != tell(want) {
			t.Errorf("beside error %d tenant 1 put %v, not %v", err, got, want)
		}
		all := slices.Repeat([]api.Errno{err}, len(l))
		if got := Puts(l, all, 1); len(got) != 0 {
			t.Errorf("where all is error %d tenant 1 put %v", err, got)
		}
	}
}

// A step without an error's place was not put; an error without a step means nothing.
func TestPutsOfUnlikeLengths(t *testing.T) {
	l := []api.Step{put(1, 0, "a"), aTick, put(1, 2, "b"), put(1, 0, "c"), put(0, 1, "d"), put(1, 1, "e")}
	for many, want := range [][]api.Msg{
		0: nil,
		1: {msg(0, "a")},
		2: {msg(0, "a")},
		3: {msg(0, "a"), msg(2, "b")},
		4: {msg(0, "a"), msg(2, "b"), msg(0, "c")},
		5: {msg(0, "a"), msg(2, "b"), msg(0, "c")},
		6: {msg(0, "a"), msg(2, "b"), msg(0, "c"), msg(1, "e")},
		7: {msg(0, "a"), msg(2, "b"), msg(0, "c"), msg(1, "e")},
		8: {msg(0, "a"), msg(2, "b"), msg(0, "c"), msg(1, "e")},
	} {
		if got := Puts(l, make([]api.Errno, many), 1); tell(got) != tell(want) {
			t.Errorf("of %d errors tenant 1 put %v, not %v", many, got, want)
		}
	}
	for _, es := range [][]api.Errno{nil, {}} {
		if got := Puts(l, es, 1); len(got) != 0 {
			t.Errorf("without errors tenant 1 put %v", got)
		}
		if got := Puts(nil, es, 1); len(got) != 0 {
			t.Errorf("of nothing tenant 1 put %v", got)
		}
	}
	if got := Puts([]api.Step{}, make([]api.Errno, 4), 0); len(got) != 0 {
		t.Errorf("of nothing tenant 0 put %v", got)
	}
}

// dice is a story's own, the same each time.
type dice uint32

func (d *dice) roll(n int) int {
	*d = *d*1664525 + 1013904223
	return int(uint32(*d)>>8) % n
}

// steps are many steps, most of them right ones of the first tenants.
func (d dice) steps(tenants, many int) []api.Step {
	out := make([]api.Step, many)
	for i := range out {
		out[i] = d.step(tenants)
	}
	return out
}

func (d *dice) step(tenants int) api.Step {
	s := api.Step{
		Kind:   api.StepTick,
		Tenant: d.roll(tenants),
		N:      d.roll(6) - 1,
		M:      d.roll(12) - 1,
		IsBack: d.roll(2) == 0,
		Msg:    msg(d.roll(3), "abcdef"[:d.roll(7)]),
	}
	switch k := d.roll(40); {
	case k < 10:
		s.Kind = api.StepPut
	case k < 20:
		// Most that speak are heard: else few would be told anything.
		s.Kind, s.N = api.StepCome, max(0, s.N/2)
	case k < 26:
		s.Kind = api.StepLose + d.roll(3)
	case k == 26:
		s.Tenant = d.roll(9) - 3
	case k == 27:
		s.Kind = d.roll(12) - 3
	case k == 28:
		s.Kind, s.Msg = api.StepPut, msg(d.roll(7)-2, strings.Repeat("x", d.roll(10)))
	}
	return s
}

// Nobody sees another one: a world of only a tenant's steps shows them the same, and they put the same, at every time.
func TestNobodySeesAnotherOne(t *testing.T) {
	for seed := range 60 {
		tenants := 1 + seed%3
		all := dice(700+seed).steps(tenants, 10+3*seed)
		w, es := play(t, tenants, all)
		for tenant := range tenants {
			mine := Only(all, tenant)
			alone, ownErrors := play(t, tenants, mine)
			got, ok := Of(alone, tenant)
			want, is := Of(w, tenant)
			if !ok || !is || tell(got) != tell(want) {
				t.Fatalf("tenant %d sees another one: %v, not %v", tenant, want, got)
			}
			if got, want := Puts(mine, ownErrors, tenant), Puts(all, es, tenant); tell(got) != tell(want) {
				t.Fatalf("alone tenant %d put %v, else %v", tenant, got, want)
			}
			for other := range tenants {
				if got, _ := Of(alone, other); other != tenant && tell(got) != tell(api.Lane{}) {
					t.Fatalf("of tenant %d alone %d has %v", tenant, other, got)
				}
			}
		}
	}
}

// The line is a tenant's at the same ticks, in a world of their steps only.
func TestOnlyKeepsTheTicks(t *testing.T) {
	all := dice(42).steps(3, 150)
	w, _ := play(t, 3, all)
	for tenant := range 3 {
		alone, _ := play(t, 3, Only(all, tenant))
		if alone.Ticks != w.Ticks || len(slot.Mine(0, w.Ticks, 3, tenant)) == 0 {
			t.Errorf("alone tenant %d has %d ticks, else %d", tenant, alone.Ticks, w.Ticks)
		}
	}
}

// What each tenant is told fits what they put; over a line that is mended, all of it is told at last.
func TestWhatIsToldFitsWhatWasPut(t *testing.T) {
	for seed := range 30 {
		tenants := 1 + seed%3
		var l []api.Step
		for _, s := range dice(80+seed).steps(tenants, 300) {
			l = append(l, s)
			if s.Kind == api.StepSpoil {
				// Two bytes turned may be right again: what is spoilt comes at once.
				l = append(l, api.Step{Kind: api.StepCome, Tenant: s.Tenant, N: s.N, IsBack: s.IsBack})
			}
		}
		for range 200 {
			for tenant := range tenants {
				l = append(l, aTick, api.Step{Kind: api.StepCome, Tenant: tenant}, api.Step{Kind: api.StepCome, Tenant: tenant, IsBack: true})
			}
		}
		for _, so := range []int{5, 50, 300, len(l)} {
			w, es := play(t, tenants, l[:so])
			for tenant := range tenants {
				lane, _ := Of(w, tenant)
				puts := Puts(l, es, tenant)
				if !plain.Fits(lane.Receiver.Told, puts) {
					t.Fatalf("tenant %d put %v, and was told %v", tenant, puts, lane.Receiver.Told)
				}
				if so == len(l) && (len(puts) < 5 || !plain.All(lane.Receiver.Told, puts)) {
					t.Fatalf("at last tenant %d put %v, and was told %v", tenant, puts, lane.Receiver.Told)
				}
			}
		}
	}
}

// scribble changes all that x has memory of, the room behind its lists too.
func scribble(v reflect.Value) {
	switch v.Kind() {
	case reflect.Struct:
		for i := range v.NumField() {
			scribble(v.Field(i))
		}
	case reflect.Slice:
		all := v.Slice(0, v.Cap())
		for i := range all.Len() {
			one := all.Index(i)
			scribble(one)
			switch one.Kind() {
			case reflect.Uint8:
				one.SetUint('#')
			case reflect.Int:
				one.SetInt(-9)
			default:
				one.SetZero()
			}
		}
	}
}

// changed: whether to change what was answered, or handed in, changes the other one.
func changed[T, U any](answer T, handed U) bool {
	before := tell(handed)
	scribble(reflect.ValueOf(answer))
	return tell(handed) != before
}

func TestOfSharesNothing(t *testing.T) {
	for seed := range 12 {
		w, _ := play(t, 3, dice(300+seed).steps(3, 150))
		for tenant := range 3 {
			if got, _ := Of(w, tenant); changed(got, w) {
				t.Fatalf("to change lane %d that was answered changes the world", tenant)
			}
			first, _ := Of(w, tenant)
			second, _ := Of(w, tenant)
			if changed(first, second) {
				t.Fatalf("two answers share lane %d", tenant)
			}
			if changed(w.Lanes[tenant], second) {
				t.Fatalf("something of lane %d is kept", tenant)
			}
		}
	}
}

// roomy is l with other steps in the spare room behind it, and other bytes behind each one's data.
func roomy(l []api.Step) []api.Step {
	out := make([]api.Step, 0, len(l)+3)
	for _, s := range l {
		s.Msg.Data = append(make([]byte, 0, len(s.Msg.Data)+2), s.Msg.Data...)
		copy(s.Msg.Data[len(s.Msg.Data):cap(s.Msg.Data)], "SS")
		out = append(out, s)
	}
	return append(out, aTick, put(0, 0, "spare"), put(1, 1, "spare"))[:len(l)]
}

// whole is l as a text, the room behind it and behind each one's data told too.
func whole(l []api.Step) string {
	out := ""
	for _, s := range l[:cap(l)] {
		out += tell(s) + tell(s.Msg.Data[:cap(s.Msg.Data)])
	}
	return out
}

// What stands in the room behind steps is no step, and behind errors no error.
func TestStepsAreOnlyReadAndNotShared(t *testing.T) {
	for seed := range 12 {
		one := append(story(), dice(900+seed).steps(2, 60)...)
		_, right := play(t, 2, one)
		right = append(right, api.OK, api.OK, api.OK)
		for _, many := range []int{len(right), len(one), len(one) - 1, 3, 0} {
			es := slices.Clone(right)[:many]
			for tenant := range 3 {
				l := roomy(one)
				before, errors := whole(l), tell(es[:cap(es)])
				only, puts := Only(l, tenant), Puts(l, es, tenant)
				onlyText, putsText := tell(only), tell(puts)
				if onlyText != tell(Only(slices.Clip(one), tenant)) || putsText != tell(Puts(slices.Clip(one), slices.Clip(es), tenant)) {
					t.Fatalf("the room behind lists was looked at: %v, %v", only, puts)
				}
				if whole(l) != before || tell(es[:cap(es)]) != errors {
					t.Fatalf("what was handed in was changed: %s, not %s", whole(l), before)
				}
				scribble(reflect.ValueOf(l))
				if tell(only) != onlyText || tell(puts) != putsText {
					t.Fatalf("something that was handed in is kept: %v, %v", only, puts)
				}
				l = roomy(one)
				before = whole(l)
				scribble(reflect.ValueOf(Only(l, tenant)))
				scribble(reflect.ValueOf(Puts(l, es, tenant)))
				if whole(l) != before {
					t.Fatalf("to change what was answered changes what was handed in: %s", whole(l))
				}
			}
		}
	}
}

// Where one message's data is handed in twice, what is answered has it twice.
func TestEachAnsweredIsApart(t *testing.T) {
	s := put(1, 0, "abcdef")
	l := []api.Step{s, s, aTick, s}
	l[2].Msg = s.Msg
	only := Only(l, 1)
	for i := range only {
		scribble(reflect.ValueOf(only[i]))
		for _, x := range only[i+1:] {
			if string(x.Msg.Data) != "abcdef" {
				t.Fatalf("steps share data: %v", only)
			}
		}
	}
	puts := Puts(l, make([]api.Errno, 4), 1)
	for i := range puts {
		scribble(reflect.ValueOf(puts[i]))
		for _, x := range puts[i+1:] {
			if string(x.Data) != "abcdef" {
				t.Fatalf("messages share data: %v", puts)
			}
		}
	}
	if len(only) != 4 || len(puts) != 3 {
		t.Errorf("there are %d steps, and %d messages", len(only), len(puts))
	}
}
