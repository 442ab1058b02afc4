package send

import (
	"fmt"
	"math"
	"slices"
	"strings"
	"testing"

	"lanekeeper/api"
	"lanekeeper/chunk"
	"lanekeeper/text"
)

// tell is x as a text: nil and empty lists are one in it.
func tell(x any) string { return fmt.Sprintf("%v", x) }

func msg(stream int, data string) api.Msg {
	return api.Msg{Stream: stream, Data: []byte(data)}
}

func data(number, stream, place int, text string) api.Chunk {
	return api.Chunk{Kind: 1, Number: number, Stream: stream, Place: place, Data: []byte(text)}
}

func ack(number int, early ...int) api.Chunk {
	return api.Chunk{Kind: 2, Number: number, Early: early}
}

// put is s behind the messages whose texts stand in l, with a blank between.
func put(t *testing.T, s api.Sender, l string) api.Sender {
	t.Helper()
	for _, one := range strings.Fields(l) {
		m, err := text.Parse(one)
		if err != api.OK {
			t.Fatalf("%q is no message: %d", one, err)
		}
		if s, err = Put(s, m); err != api.OK {
			t.Fatalf("Put of %q: %d", one, err)
		}
	}
	return s
}

// say is s behind what it says n times, and what that was.
func say(t *testing.T, s api.Sender, n int) (api.Sender, []api.Chunk) {
	t.Helper()
	var out []api.Chunk
	for range n {
		x, c, ok := Say(s)
		if !ok {
			t.Fatalf("%v says nothing", s)
		}
		s, out = x, append(out, c)
	}
	return s, out
}

// numbers are those of l, in turn.
func numbers(l []api.Chunk) []int {
	var out []int
	for _, c := range l {
		out = append(out, c.Number)
	}
	return out
}

func queued(s api.Sender) string {
	var out []string
	for _, m := range s.Queue {
		out = append(out, text.Print(m))
	}
	return strings.Join(out, " ")
}

// after is a sender that has used n numbers, all of them heard of, and has so many messages waiting.
func after(t *testing.T, n, waiting int) api.Sender {
	t.Helper()
	var s api.Sender
	for range n {
		s, _ = say(t, put(t, s, "1:61"), 1)
		s = Hear(s, ack(s.Next))
	}
	return put(t, s, strings.Repeat("2:62 ", waiting))
}

func TestPutIsLast(t *testing.T) {
	var s api.Sender
	all := []string{"0:61", "2:", "0:616263646566", "1:00ff", "0:61", "2:7a"}
	for n, one := range all {
		s = put(t, s, one)
		if got, want := queued(s), strings.Join(all[:n+1], " "); got != want {
			t.Errorf("queue: %s, not %s", got, want)
		}
		if s.Next != 0 || s.Places != [3]int{} || len(s.Flight) != 0 || s.Turn != 0 {
			t.Errorf("a put changed more than the queue: %v", s)
		}
	}
}

func TestPutRefuses(t *testing.T) {
	for _, c := range []struct {
		what          string
		used, waiting int
		m             api.Msg
		want          api.Errno
	}{
		{"the empty message", 0, 0, api.Msg{}, api.OK},
		{"the longest data", 0, 0, msg(2, "123456"), api.OK},
		{"data that are too long", 0, 0, msg(2, "1234567"), api.ErrMuch},
		{"no such stream", 0, 0, msg(3, "a"), api.ErrRange},
		{"a stream below nought", 0, 0, msg(-1, "a"), api.ErrRange},
		{"the greatest stream", 0, 0, msg(math.MaxInt, ""), api.ErrRange},
		{"the least stream", 0, 0, msg(math.MinInt, ""), api.ErrRange},
		{"both wrong", 0, 0, msg(3, "1234567"), api.ErrRange},
		{"room for one", 0, 5, msg(0, "a"), api.OK},
		{"no room", 0, 6, msg(0, "a"), api.ErrFull},
		{"no room, a wrong stream", 0, 6, msg(3, "a"), api.ErrRange},
		{"no room, data that are too long", 0, 6, msg(0, "1234567"), api.ErrMuch},
		{"one number left", 39, 0, msg(0, "a"), api.OK},
		{"one number left, one waits", 39, 1, msg(0, "a"), api.ErrMuch},
		{"no number left", 40, 0, msg(0, "a"), api.ErrMuch},
		{"no number left, a wrong stream", 40, 0, msg(-1, "a"), api.ErrRange},
		{"five numbers left, four wait", 35, 4, msg(0, "a"), api.OK},
		{"five numbers left, five wait", 35, 5, msg(0, "a"), api.ErrMuch},
		{"six numbers left, five wait", 34, 5, msg(0, "a"), api.OK},
		{"six numbers left, six wait", 34, 6, msg(0, "a"), api.ErrFull}, // ErrMuch fits too
		{"seven numbers left, six wait", 33, 6, msg(0, "a"), api.ErrFull},
	} {
		s := after(t, c.used, c.waiting)
		before := tell(s)
		got, err := Put(s, c.m)
		if err != c.want {
			t.Errorf("%s: %d, not %d", c.what, err, c.want)
		}
		if err != api.OK && tell(got) != before {
			t.Errorf("%s: beside the error %s, not as it was, %s", c.what, tell(got), before)
		}
		if err == api.OK && len(got.Queue) != c.waiting+1 {
			t.Errorf("%s: %d wait", c.what, len(got.Queue))
		}
	}
}

// What is in flight takes no room in the queue.
func TestPutBesideAFullFlight(t *testing.T) {
	s, _ := say(t, put(t, api.Sender{}, "0: 0: 0: 0:"), 4)
	s = put(t, s, "0: 1: 2: 0: 1: 2:")
	if _, err := Put(s, msg(0, "")); err != api.ErrFull {
		t.Errorf("the seventh that waits: %d", err)
	}
}

func TestSayNothing(t *testing.T) {
	heard, _ := say(t, put(t, api.Sender{}, "0:61 1:62"), 2)
	again, _ := say(t, heard, 2)
	for _, s := range []api.Sender{
		{},
		{Queue: []api.Msg{}, Flight: []api.Chunk{}},
		Hear(heard, ack(2)),
		Hear(again, ack(2)),
		after(t, 40, 0),
	} {
		got, c, ok := Say(s)
		if ok || tell(c) != tell(api.Chunk{}) || tell(got) != tell(s) {
			t.Errorf("of %v it says %v, %v, and is %v", s, c, ok, got)
		}
	}
}

func TestSayNewOnes(t *testing.T) {
	s := put(t, api.Sender{}, "2:61 0:62 2: 2:63646566")
	s, said := say(t, s, 4)
	want := []api.Chunk{data(0, 2, 0, "a"), data(1, 0, 0, "b"), data(2, 2, 1, ""), data(3, 2, 2, "cdef")}
	if tell(said) != tell(want) {
		t.Errorf("it said %v, not %v", said, want)
	}
	if tell(s) != tell(api.Sender{Next: 4, Places: [3]int{1, 0, 3}, Flight: want}) {
		t.Errorf("then it is %v", s)
	}
	for _, c := range said {
		if err := chunk.Wrong(c); err != api.OK {
			t.Errorf("%v is wrong: %d", c, err)
		}
	}
}

// New ones go first, while there is room in flight; then old ones go round.
func TestSayNewAheadOfOld(t *testing.T) {
	s, said := say(t, put(t, api.Sender{}, "0:61 0:62 0:63 0:64 1:65 1:66"), 10)
	if got, want := numbers(said), []int{0, 1, 2, 3, 0, 1, 2, 3, 0, 1}; !slices.Equal(got, want) {
		t.Errorf("it said %v, not %v", got, want)
	}
	if queued(s) != "1:65 1:66" || s.Next != 4 || s.Places != [3]int{4, 0, 0} || s.Turn != 2 {
		t.Errorf("then it is %v", s)
	}
	s = Hear(s, ack(0, 2))
	s, said = say(t, s, 3)
	if got, want := numbers(said), []int{4, 3, 4}; !slices.Equal(got, want) {
		t.Errorf("behind the ack it said %v, not %v", got, want)
	}
	if queued(s) != "1:66" || s.Places != [3]int{4, 1, 0} {
		t.Errorf("then it is %v", s)
	}
}

func TestSayAgain(t *testing.T) {
	first, _ := say(t, put(t, api.Sender{}, "0:61"), 1)
	s, said := say(t, first, 3)
	want := data(0, 0, 0, "a")
	if tell(said) != tell([]api.Chunk{want, want, want}) {
		t.Errorf("of one in flight it said %v", said)
	}
	if s.Turn != 1 || s.Next != 1 || s.Places != [3]int{1, 0, 0} || tell(s.Flight) != tell(first.Flight) {
		t.Errorf("then it is %v", s)
	}
}

// Turn stays where it was when the flight is shorter, and the rest of it counts.
func TestTurnBeyondTheFlight(t *testing.T) {
	full, _ := say(t, put(t, api.Sender{}, "0: 1: 2: 0:"), 4)
	for turn := range 5 {
		s, _ := say(t, full, turn)
		for _, c := range []struct {
			ack  api.Chunk
			left []int
		}{
			{ack(0), []int{0, 1, 2, 3}},
			{ack(1), []int{1, 2, 3}},
			{ack(1, 2), []int{1, 3}},
			{ack(0, 1, 2, 3), []int{0}},
		} {
			heard := Hear(s, c.ack)
			if heard.Turn != turn {
				t.Errorf("turn %d is %d behind %v", turn, heard.Turn, c.ack)
			}
			at := turn % len(c.left)
			got, said := say(t, heard, 1)
			if said[0].Number != c.left[at] || got.Turn != at+1 {
				t.Errorf("turn %d of %v: it said %d, and its turn is %d", turn, c.left, said[0].Number, got.Turn)
			}
		}
	}
}

func TestHear(t *testing.T) {
	full, _ := say(t, put(t, api.Sender{}, "0:61 1:62 0:63 2:64 2:65 2:66"), 4)
	for _, c := range []struct {
		c    api.Chunk
		left []int
	}{
		{ack(0), []int{0, 1, 2, 3}},
		{ack(1), []int{1, 2, 3}},
		{ack(2), []int{2, 3}},
		{ack(3), []int{3}},
		{ack(4), nil},
		{ack(40), nil},
		{ack(0, 1), []int{0, 2, 3}},
		{ack(0, 3), []int{0, 1, 2}},
		{ack(0, 1, 2, 3), []int{0}},
		{ack(1, 3), []int{1, 2}},
		{ack(2, 3), []int{2}},
		{ack(0, 4, 20, 39), []int{0, 1, 2, 3}}, // of numbers that nobody said
		{ack(1, 2, 39), []int{1, 3}},
		{data(0, 0, 0, "a"), []int{0, 1, 2, 3}},
		{data(3, 2, 0, "d"), []int{0, 1, 2, 3}},
		{data(39, 1, 5, ""), []int{0, 1, 2, 3}},
	} {
		got := Hear(full, c.c)
		if !slices.Equal(numbers(got.Flight), c.left) {
			t.Errorf("behind %v in flight: %v, not %v", c.c, numbers(got.Flight), c.left)
		}
		for _, f := range got.Flight {
			if tell(f) != tell(full.Flight[f.Number]) {
				t.Errorf("behind %v in flight: %v", c.c, f)
			}
		}
		got.Flight = full.Flight
		if tell(got) != tell(full) {
			t.Errorf("%v changed more than the flight: %v", c.c, got)
		}
	}
}

func TestHearOfTheEmptyOne(t *testing.T) {
	for _, c := range []api.Chunk{ack(0), ack(40), ack(0, 1, 2), data(0, 0, 0, ""), {Kind: 2, Early: []int{}}} {
		if got := Hear(api.Sender{}, c); tell(got) != tell(api.Sender{}) {
			t.Errorf("behind %v: %v", c, got)
		}
	}
}

// book is a sender by its whole story: all that was put, how many have a number, which ones were heard of.
type book struct {
	put   []api.Msg
	next  int
	heard [40]bool
	turn  int
}

func (b *book) chunk(n int) api.Chunk {
	place := 0
	for _, m := range b.put[:n] {
		if m.Stream == b.put[n].Stream {
			place++
		}
	}
	return data(n, b.put[n].Stream, place, string(b.put[n].Data))
}

func (b *book) flight() []api.Chunk {
	var out []api.Chunk
	for n := range b.next {
		if !b.heard[n] {
			out = append(out, b.chunk(n))
		}
	}
	return out
}

func (b *book) sender() api.Sender {
	s := api.Sender{Queue: b.put[b.next:], Next: b.next, Flight: b.flight(), Turn: b.turn}
	for _, m := range b.put[:b.next] {
		s.Places[m.Stream]++
	}
	return s
}

func (b *book) add(m api.Msg) api.Errno {
	switch {
	case m.Stream < 0 || m.Stream > 2:
		return api.ErrRange
	case len(m.Data) > 6:
		return api.ErrMuch
	case len(b.put)-b.next > 5:
		return api.ErrFull
	case len(b.put) > 39:
		return api.ErrMuch
	}
	b.put = append(b.put, m)
	return api.OK
}

func (b *book) say() (api.Chunk, bool) {
	flight := b.flight()
	if len(b.put) > b.next && len(flight) <= 3 {
		b.next++
		return b.chunk(b.next - 1), true
	}
	if len(flight) == 0 {
		return api.Chunk{}, false
	}
	for b.turn >= len(flight) {
		b.turn -= len(flight)
	}
	b.turn++
	return flight[b.turn-1], true
}

func (b *book) hear(c api.Chunk) {
	if c.Kind == 1 {
		return
	}
	for n := range c.Number {
		b.heard[n] = true
	}
	for _, n := range c.Early {
		b.heard[n] = true
	}
	// What is not said yet can't be in flight, and is when it is said.
	for n := b.next; n < 40; n++ {
		b.heard[n] = false
	}
}

// walk does one thing to s and to b, and holds them against each other.
func walk(t *testing.T, s api.Sender, b *book, one any) api.Sender {
	t.Helper()
	before := tell(s)
	switch x := one.(type) {
	case api.Msg:
		got, err := Put(s, x)
		if want := b.add(x); err != want {
			t.Fatalf("%s: Put of %v: %d, not %d", before, x, err, want)
		}
		s = got
	case api.Chunk:
		if wrong := chunk.Wrong(x); wrong != api.OK {
			t.Fatalf("%v is no right chunk", x)
		}
		s = Hear(s, x)
		b.hear(x)
	default:
		got, c, ok := Say(s)
		if want, wantOK := b.say(); tell(c) != tell(want) || ok != wantOK {
			t.Fatalf("%s: it said %v, %v, not %v, %v", before, c, ok, want, wantOK)
		}
		s = got
	}
	if tell(s) != tell(b.sender()) {
		t.Fatalf("%s, behind %v: %v, not %v", before, one, s, b.sender())
	}
	return s
}

// All short stories.
func TestShortStories(t *testing.T) {
	things := []any{nil, msg(0, "a"), msg(2, "bc"), msg(3, ""), ack(0, 1), ack(1), ack(2, 3), data(2, 1, 0, "x")}
	var tellAll func(s api.Sender, b book, left int)
	tellAll = func(s api.Sender, b book, left int) {
		if left == 0 {
			return
		}
		for _, one := range things {
			then := b
			then.put = slices.Clip(b.put)
			tellAll(walk(t, s, &then, one), then, left-1)
		}
	}
	tellAll(api.Sender{}, book{}, 5)
}

// dice is a story's own, the same each time.
type dice uint32

func (d *dice) roll(n int) int {
	*d = *d*1664525 + 1013904223
	return int(uint32(*d)>>8) % n
}

// thing is what comes next in a story: acks mostly speak of what is near, as a receiver's would.
func (d *dice) thing(next int) any {
	switch d.roll(8) {
	case 0, 1, 2:
		return msg(d.roll(3), "abcdef"[:d.roll(7)])
	case 3, 4, 5:
		return nil
	case 6:
		return d.ack(next)
	}
	switch d.roll(4) {
	case 0:
		return msg(d.roll(9)-4, "abcdefgh"[:d.roll(9)])
	case 1:
		return data(d.roll(40), d.roll(3), 0, "x")
	case 2:
		return ack(d.roll(41))
	}
	return d.ack(next)
}

func (d *dice) ack(next int) api.Chunk {
	c := ack(max(0, next-d.roll(6)))
	n := c.Number
	for range d.roll(4) {
		if n += 1 + d.roll(2); n < 40 {
			c.Early = append(c.Early, n)
		}
	}
	return c
}

func TestLongStories(t *testing.T) {
	ends := 0
	for seed := range 400 {
		d := dice(seed)
		var s api.Sender
		b := &book{}
		for range 250 {
			s = walk(t, s, b, d.thing(s.Next))
		}
		if s.Next == 40 {
			ends++
		}
	}
	if ends < 100 {
		t.Errorf("only %d stories used up all numbers", ends)
	}
}

// Each has a number of its own, and a place of its own in its stream; and what was heard is said no more.
func TestEachHasANumberOfItsOwn(t *testing.T) {
	for seed := range 50 {
		d := dice(seed)
		var s api.Sender
		known := map[int]string{}
		gone := map[int]bool{}
		for range 300 {
			switch x := d.thing(s.Next).(type) {
			case api.Msg:
				s, _ = Put(s, x)
			case api.Chunk:
				flight := s.Flight
				s = Hear(s, x)
				for _, n := range numbers(flight) {
					gone[n] = gone[n] || !slices.Contains(numbers(s.Flight), n)
				}
			default:
				x1, c, ok := Say(s)
				if before, is := known[c.Number]; ok && is && before != tell(c) {
					t.Fatalf("number %d is %v, and was %s", c.Number, c, before)
				}
				if ok && gone[c.Number] {
					t.Fatalf("%v was heard of, and is said again", c)
				}
				if ok {
					known[c.Number] = tell(c)
				}
				s = x1
			}
			if len(s.Queue) > 6 || len(s.Flight) > 4 || s.Next > 40 {
				t.Fatalf("too much: %v", s)
			}
		}
		if len(known) != s.Next {
			t.Errorf("%d numbers are used, and %d were said", s.Next, len(known))
		}
	}
}

// roomy is a copy of s with spare room behind each list, and something in it.
func roomy(s api.Sender) api.Sender {
	spare := func(b []byte) []byte { return append(append([]byte{}, b...), "SPARE"...)[:len(b)] }
	var queue []api.Msg
	for _, m := range s.Queue {
		queue = append(queue, api.Msg{Stream: m.Stream, Data: spare(m.Data)})
	}
	var flight []api.Chunk
	for _, c := range s.Flight {
		c.Data = spare(c.Data)
		c.Early = append([]int{}, 77, 78)[:0]
		flight = append(flight, c)
	}
	s.Queue = append(queue, msg(1, "SPARE"), msg(2, "ROOM"))[:len(queue)]
	s.Flight = append(flight, data(9, 1, 1, "SPARE"), data(8, 1, 1, "ROOM"))[:len(flight)]
	return s
}

// whole is s as a text, the room behind its lists told too.
func whole(s api.Sender) string {
	s.Queue, s.Flight = slices.Clone(s.Queue[:cap(s.Queue)]), slices.Clone(s.Flight[:cap(s.Flight)])
	for i := range s.Queue {
		d := &s.Queue[i].Data
		*d = (*d)[:cap(*d)]
	}
	for i := range s.Flight {
		s.Flight[i] = wholeChunk(s.Flight[i])
	}
	return tell(s)
}

func wholeChunk(c api.Chunk) api.Chunk {
	c.Data, c.Early = c.Data[:cap(c.Data)], c.Early[:cap(c.Early)]
	return c
}

// scribble changes all that s has memory of, the room behind its lists too.
func scribble(s api.Sender) {
	for i := range s.Queue[:cap(s.Queue)] {
		m := &s.Queue[:cap(s.Queue)][i]
		scribbleBytes(m.Data)
		*m = msg(-7, "?")
	}
	for i := range s.Flight[:cap(s.Flight)] {
		c := &s.Flight[:cap(s.Flight)][i]
		scribbleChunk(*c)
		*c = data(-7, -7, -7, "?")
	}
}

func scribbleBytes(b []byte) {
	for i := range b[:cap(b)] {
		b[:cap(b)][i] = '#'
	}
}

func scribbleChunk(c api.Chunk) {
	scribbleBytes(c.Data)
	for i := range c.Early[:cap(c.Early)] {
		c.Early[:cap(c.Early)][i] = -9
	}
}

// someSenders are of every part of some stories.
func someSenders() []api.Sender {
	var out []api.Sender
	for seed := range 20 {
		d := dice(1000 + seed)
		var s api.Sender
		for range 120 {
			switch x := d.thing(s.Next).(type) {
			case api.Msg:
				s, _ = Put(s, x)
			case api.Chunk:
				s = Hear(s, x)
			default:
				s, _, _ = Say(s)
			}
			out = append(out, Own(s))
		}
	}
	return out
}

func TestOwn(t *testing.T) {
	for _, s := range append(someSenders(), api.Sender{}, api.Sender{Queue: []api.Msg{}, Flight: []api.Chunk{}}) {
		if got := Own(s); tell(got) != tell(s) {
			t.Fatalf("Own of %v is %v", s, got)
		}
	}
}

// calls are all calls of the package on s; each answers its sender and its chunk.
func calls(s api.Sender) map[string]func() (api.Sender, api.Chunk) {
	room := []byte("dataSPARE")
	early := []int{max(1, s.Next-1), 88, 99}
	return map[string]func() (api.Sender, api.Chunk){
		"Own": func() (api.Sender, api.Chunk) { return Own(s), api.Chunk{} },
		"Put": func() (api.Sender, api.Chunk) {
			x, _ := Put(s, api.Msg{Stream: 1, Data: room[:4]})
			return x, api.Chunk{}
		},
		"Put wrong": func() (api.Sender, api.Chunk) {
			x, _ := Put(s, api.Msg{Stream: 9, Data: room[:4]})
			return x, api.Chunk{}
		},
		"Say":       func() (api.Sender, api.Chunk) { x, c, _ := Say(s); return x, c },
		"Hear all":  func() (api.Sender, api.Chunk) { return Hear(s, ack(40)), api.Chunk{} },
		"Hear some": func() (api.Sender, api.Chunk) { return Hear(s, ack(max(0, s.Next-2), early[:1]...)), api.Chunk{} },
		"Hear none": func() (api.Sender, api.Chunk) { return Hear(s, data(3, 1, 1, "x")), api.Chunk{} },
	}
}

func TestSendersAreOnlyReadAndNotShared(t *testing.T) {
	for _, one := range someSenders() {
		for name := range calls(one) {
			s := roomy(one)
			before := whole(s)
			got, c := calls(s)[name]()
			if whole(s) != before {
				t.Fatalf("%s changed what it was handed: %s, not %s", name, whole(s), before)
			}
			answer, said := tell(got), tell(c)
			scribble(s)
			if tell(got) != answer || tell(c) != said {
				t.Fatalf("%s kept something of %s", name, before)
			}
			s = roomy(one)
			got, c = calls(s)[name]()
			scribble(got)
			if whole(s) != before || tell(c) != said {
				t.Fatalf("%s: the answer shares memory: %s, not %s; said: %v, not %s", name, whole(s), before, c, said)
			}
			got, c = calls(s)[name]()
			scribbleChunk(c)
			if whole(s) != before || tell(got) != answer {
				t.Fatalf("%s: what is said shares memory: %s, not %s; sender: %v, not %s", name, whole(s), before, got, answer)
			}
		}
	}
}

func TestMessagesAndChunksAreOnlyReadAndNotKept(t *testing.T) {
	room := []byte("dataSPARE")
	m := api.Msg{Stream: 1, Data: room[:4]}
	s, _ := Put(api.Sender{}, m)
	if string(room) != "dataSPARE" {
		t.Errorf("Put changed the message: %q", room)
	}
	scribbleBytes(room)
	if queued(s) != "1:64617461" {
		t.Errorf("Put kept the message: %v", s)
	}
	scribble(s)
	if string(room) != "#########" {
		t.Errorf("the queue has the message's memory: %q", room)
	}
	full, _ := say(t, put(t, api.Sender{}, "0: 1: 2: 0:"), 4)
	early := []int{2, 3, 1, 0}
	got := Hear(full, api.Chunk{Kind: 2, Number: 1, Early: early[:1]})
	if !slices.Equal(numbers(got.Flight), []int{1, 3}) {
		t.Errorf("spare room behind Early was heard: %v", got)
	}
	if !slices.Equal(early, []int{2, 3, 1, 0}) {
		t.Errorf("Hear changed the chunk: %v", early)
	}
}

// One sender may go on in several ways, and none of them tells of another.
func TestWaysApart(t *testing.T) {
	s := put(t, api.Sender{}, "0:61 1:62 2:63")
	s, _ = say(t, s, 1)
	a, b := put(t, s, "0:78"), put(t, s, "1:79")
	x, _ := say(t, a, 2)
	y, _ := say(t, b, 2)
	if queued(a) != "1:62 2:63 0:78" || queued(b) != "1:62 2:63 1:79" || queued(x) != "0:78" || queued(y) != "1:79" {
		t.Errorf("they wait: %s; %s; %s; %s", queued(a), queued(b), queued(x), queued(y))
	}
	if queued(s) != "1:62 2:63" || len(s.Flight) != 1 || len(x.Flight) != 3 {
		t.Errorf("the first one is %v", s)
	}
}
