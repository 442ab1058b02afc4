package recv

import (
	"fmt"
	"slices"
	"testing"

	"lanekeeper/api"
	"lanekeeper/chunk"
	"lanekeeper/plain"
	"lanekeeper/send"
)

// tell is x as a text: nil and empty lists are one in it.
func tell(x any) string { return fmt.Sprintf("%v", x) }

func msg(stream int, data string) api.Msg {
	return api.Msg{Stream: stream, Data: []byte(data)}
}

func data(number, stream, place int, text string) api.Chunk {
	return api.Chunk{Kind: 1, Number: number, Stream: stream, Place: place, Data: []byte(text)}
}

func ack(number int, early ...int) api.Chunk {
	return api.Chunk{Kind: 2, Number: number, Early: early}
}

// one is the chunk of a number that is alone in the lane's one stream.
func one(number int) api.Chunk {
	return data(number, 0, number, string(rune('a'+number)))
}

// hear is r behind all of l, each of them a right chunk.
func hear(t *testing.T, r api.Receiver, l ...api.Chunk) api.Receiver {
	t.Helper()
	for _, c := range l {
		if err := chunk.Wrong(c); err != api.OK {
			t.Fatalf("%v is no right chunk: %d", c, err)
		}
		r = Hear(r, c)
	}
	return r
}

// behind is the receiver to which the chunks of these numbers came, of one stream.
func behind(t *testing.T, numbers ...int) api.Receiver {
	t.Helper()
	var r api.Receiver
	for _, n := range numbers {
		r = hear(t, r, one(n))
	}
	return r
}

// told is what r told, in one text: each its stream, and its data.
func told(r api.Receiver) string {
	out := ""
	for _, m := range r.Told {
		out += fmt.Sprintf("%d%s ", m.Stream, m.Data)
	}
	return out
}

// held are the numbers of what waits, in turn.
func held(r api.Receiver) []int {
	var out []int
	for _, c := range r.Hold {
		out = append(out, c.Number)
	}
	return out
}

func TestHearWhatIsNoData(t *testing.T) {
	owing := behind(t, 0, 2, 3)
	quiet, _, _ := Say(owing)
	for _, r := range []api.Receiver{{}, {Early: []int{}, Hold: []api.Chunk{}, Told: []api.Msg{}}, owing, quiet} {
		for _, c := range []api.Chunk{ack(0), ack(1), ack(40), ack(0, 1, 2), ack(1, 4), {Kind: 2, Number: 1, Data: []byte{}, Early: []int{}}} {
			if got := hear(t, r, c); tell(got) != tell(r) {
				t.Errorf("%v is %v behind %v", r, got, c)
			}
		}
	}
}

func TestHearInTurn(t *testing.T) {
	r := hear(t, api.Receiver{}, data(0, 2, 0, "a"), data(1, 0, 0, ""), data(2, 2, 1, "bcdefg"), data(3, 2, 2, "a"))
	want := api.Receiver{
		Next:   4,
		Places: [3]int{1, 0, 3},
		Told:   []api.Msg{msg(2, "a"), msg(0, ""), msg(2, "bcdefg"), msg(2, "a")},
		Owes:   true,
	}
	if tell(r) != tell(want) {
		t.Errorf("it is %v, not %v", r, want)
	}
}

// Chunk 1 comes ahead of chunk 0: both are told when that has come.
func TestHearAheadOfAnother(t *testing.T) {
	r := behind(t, 1)
	if r.Next != 0 || !slices.Equal(r.Early, []int{1}) || told(r) != "" || tell(r.Hold) != tell([]api.Chunk{one(1)}) || r.Places != [3]int{} || !r.Owes {
		t.Errorf("behind 1: %v", r)
	}
	r = hear(t, r, one(0))
	if r.Next != 2 || len(r.Early) != 0 || told(r) != "0a 0b " || len(r.Hold) != 0 || r.Places != [3]int{2, 0, 0} || !r.Owes {
		t.Errorf("behind 1 and 0: %v", r)
	}
}

func TestWhichNumbersCame(t *testing.T) {
	for _, c := range []struct {
		came  []int
		next  int
		early []int
	}{
		{nil, 0, nil},
		{[]int{0}, 1, nil},
		{[]int{1}, 0, []int{1}},
		{[]int{39}, 0, []int{39}},
		{[]int{3, 1}, 0, []int{1, 3}},
		{[]int{1, 3, 2}, 0, []int{1, 2, 3}},
		{[]int{3, 2, 1}, 0, []int{1, 2, 3}},
		{[]int{3, 2, 1, 0}, 4, nil},
		{[]int{5, 1, 2, 0}, 3, []int{5}},
		{[]int{5, 2, 7, 0}, 1, []int{2, 5, 7}},
		{[]int{5, 2, 7, 0, 1}, 3, []int{5, 7}},
		{[]int{2, 4, 0}, 1, []int{2, 4}},
		// Twice is once.
		{[]int{0, 0}, 1, nil},
		{[]int{2, 2, 2, 2, 3}, 0, []int{2, 3}},
		{[]int{0, 1, 2, 1, 0}, 3, nil},
		// Three are early, and a fourth has no room: but the next one needs none.
		{[]int{1, 2, 3, 4}, 0, []int{1, 2, 3}},
		{[]int{4, 3, 2, 1}, 0, []int{2, 3, 4}},
		{[]int{4, 3, 2, 1, 0}, 1, []int{2, 3, 4}},
		{[]int{4, 3, 2, 1, 0, 1}, 5, nil},
		{[]int{2, 4, 6, 8, 0}, 1, []int{2, 4, 6}},
		{[]int{2, 4, 6, 0, 1, 8}, 3, []int{4, 6, 8}},
		{[]int{2, 4, 6, 4, 2, 6}, 0, []int{2, 4, 6}},
	} {
		r := behind(t, c.came...)
		if r.Next != c.next || !slices.Equal(r.Early, c.early) {
			t.Errorf("%v came: next is %d, early %v, not %d, %v", c.came, r.Next, r.Early, c.next, c.early)
		}
		if r.Owes != (len(c.came) > 0) {
			t.Errorf("%v came: it owes: %v", c.came, r.Owes)
		}
		if r.Places[0] != c.next || len(r.Told) != c.next || len(r.Hold) != len(c.early) {
			t.Errorf("%v came: %v", c.came, r)
		}
	}
}

// What is not taken is answered, too, and leaves no more behind than that.
func TestHearInVain(t *testing.T) {
	for _, c := range []struct {
		what string
		came []int
		c    api.Chunk
	}{
		{"it came", []int{0, 1, 2}, one(2)},
		{"it came long ago", []int{0, 1, 2}, one(0)},
		{"it is early", []int{0, 2, 4}, one(2)},
		{"it is the last early one", []int{0, 2, 4}, one(4)},
		{"no room", []int{2, 3, 5}, one(4)},
		{"no room, above all", []int{2, 3, 5}, one(39)},
		{"it is early, and no room", []int{2, 3, 5}, one(5)},
		{"its number came, with other data", []int{0, 1}, data(1, 0, 0, "x")},
		{"its number came, and its place would fit", []int{0, 1}, data(1, 2, 0, "x")},
		{"its number is early, and its place would fit", []int{0, 2}, data(2, 1, 0, "x")},
		{"no room, and its place would fit", []int{2, 3, 5}, data(4, 1, 0, "x")},
	} {
		for _, owes := range []bool{true, false} {
			r := behind(t, c.came...)
			if !owes {
				r, _, _ = Say(r)
			}
			got := hear(t, r, c.c)
			if !got.Owes {
				t.Errorf("%s: it owes nothing", c.what)
			}
			got.Owes = r.Owes
			if tell(got) != tell(r) {
				t.Errorf("%s: %v, not as it was, %v", c.what, got, r)
			}
		}
	}
}

// A stream waits for its own alone: a gap in the numbers of the lane holds no other one up.
func TestStreamsWaitForTheirOwn(t *testing.T) {
	r := hear(t, api.Receiver{}, data(2, 1, 0, "c"), data(1, 0, 1, "b"), data(3, 1, 1, "d"))
	if told(r) != "1c 1d " || !slices.Equal(held(r), []int{1}) || r.Places != [3]int{0, 2, 0} || r.Next != 0 || !slices.Equal(r.Early, []int{1, 2, 3}) {
		t.Errorf("ahead of 0: %v", r)
	}
	r = hear(t, r, data(0, 0, 0, "a"))
	if told(r) != "1c 1d 0a 0b " || len(r.Hold) != 0 || r.Places != [3]int{2, 2, 0} || r.Next != 4 || len(r.Early) != 0 {
		t.Errorf("behind 0: %v", r)
	}
}

// Those that wait are told by their places, however they came.
func TestHeldAreToldByTheirPlaces(t *testing.T) {
	r := behind(t, 3, 1, 2)
	if !slices.Equal(held(r), []int{3, 1, 2}) {
		t.Errorf("they wait: %v", held(r))
	}
	r = hear(t, r, one(0))
	if told(r) != "0a 0b 0c 0d " || len(r.Hold) != 0 {
		t.Errorf("it told %s, and holds %v", told(r), held(r))
	}
	r = behind(t, 3, 1, 5, 0)
	if told(r) != "0a 0b " || !slices.Equal(held(r), []int{3, 5}) {
		t.Errorf("it told %s, and holds %v", told(r), held(r))
	}
}

// Right chunks that no sender says: several of one place, and places that the numbers do not bear out. The first one that fits is told.
func TestChunksThatNoSenderSays(t *testing.T) {
	for _, c := range []struct {
		l      []api.Chunk
		told   string
		held   []int
		places [3]int
	}{
		{[]api.Chunk{data(0, 0, 0, "a"), data(1, 0, 0, "b")}, "0a ", []int{1}, [3]int{1, 0, 0}},
		{[]api.Chunk{data(0, 0, 0, "a"), data(1, 0, 0, "b"), data(2, 0, 1, "c")}, "0a 0c ", []int{1}, [3]int{2, 0, 0}},
		{[]api.Chunk{data(1, 0, 1, "x"), data(2, 0, 1, "y"), data(0, 0, 0, "a")}, "0a 0x ", []int{2}, [3]int{2, 0, 0}},
		{[]api.Chunk{data(2, 0, 1, "y"), data(1, 0, 1, "x"), data(0, 0, 0, "a")}, "0a 0y ", []int{1}, [3]int{2, 0, 0}},
		{[]api.Chunk{data(3, 1, 2, "c"), data(2, 1, 1, "b"), data(1, 1, 1, "x"), data(0, 1, 0, "a")}, "1a 1b 1c ", []int{1}, [3]int{0, 3, 0}},
		{[]api.Chunk{data(0, 2, 0, "a"), data(1, 2, 1, "b"), data(3, 2, 3, "d"), data(2, 0, 2, "z")}, "2a 2b ", []int{3, 2}, [3]int{0, 0, 2}},
		{[]api.Chunk{data(39, 2, 0, "a"), data(38, 2, 1, "b")}, "2a 2b ", nil, [3]int{0, 0, 2}},
	} {
		r := hear(t, api.Receiver{}, c.l...)
		if told(r) != c.told || !slices.Equal(held(r), c.held) || r.Places != c.places {
			t.Errorf("%v: it told %s, holds %v, and its places are %v, not %s, %v, %v", c.l, told(r), held(r), r.Places, c.told, c.held, c.places)
		}
	}
}

func TestAllNumbers(t *testing.T) {
	var r api.Receiver
	for n := range api.MaxNumbers {
		r = hear(t, r, data(n, n%3, n/3, "x"))
	}
	if r.Next != 40 || len(r.Early) != 0 || len(r.Hold) != 0 || len(r.Told) != 40 || r.Places != [3]int{14, 13, 13} {
		t.Errorf("all came: %v", r)
	}
	got := hear(t, r, data(39, 0, 13, "x"))
	if tell(got) != tell(r) {
		t.Errorf("the last one came twice: %v, not %v", got, r)
	}
	_, c, ok := Say(r)
	if !ok || tell(c) != tell(ack(40)) || chunk.Wrong(c) != api.OK {
		t.Errorf("it says %v, %v", c, ok)
	}
}

func TestSay(t *testing.T) {
	for _, c := range []struct {
		came []int
		want api.Chunk
	}{
		{[]int{0}, ack(1)},
		{[]int{2}, ack(0, 2)},
		{[]int{0, 1, 5, 4, 3}, ack(2, 3, 4, 5)},
		{[]int{0, 0}, ack(1)},
		{[]int{1, 2, 3, 9}, ack(0, 1, 2, 3)},
	} {
		r := behind(t, c.came...)
		said, got, ok := Say(r)
		if !ok || tell(got) != tell(c.want) {
			t.Errorf("%v came: it says %v, %v, not %v", c.came, got, ok, c.want)
		}
		if err := chunk.Wrong(got); err != api.OK {
			t.Errorf("%v came: %v is wrong: %d", c.came, got, err)
		}
		if said.Owes {
			t.Errorf("%v came: it owes what it said", c.came)
		}
		again, none, ok := Say(said)
		if ok || tell(none) != tell(api.Chunk{}) || tell(again) != tell(said) {
			t.Errorf("%v came: it says again %v, %v, and is %v", c.came, none, ok, again)
		}
		said.Owes = true
		if tell(said) != tell(r) {
			t.Errorf("%v came: saying changed more than what it owes: %v, not %v", c.came, said, r)
		}
	}
}

func TestSayNothing(t *testing.T) {
	for _, r := range []api.Receiver{{}, {Early: []int{}, Hold: []api.Chunk{}, Told: []api.Msg{}}, hear(t, api.Receiver{}, ack(3, 4))} {
		got, c, ok := Say(r)
		if ok || tell(c) != tell(api.Chunk{}) || tell(got) != tell(r) {
			t.Errorf("of %v it says %v, %v, and is %v", r, c, ok, got)
		}
	}
}

// book is a receiver by its whole story: all that it took, in turn, and in which order it told them.
type book struct {
	took  []api.Chunk
	order []int // which of took, in turn, were told
	owes  bool
}

func (b *book) came(n int) bool {
	return slices.ContainsFunc(b.took, func(c api.Chunk) bool { return c.Number == n })
}

// nextAndEarly goes through all numbers that there are.
func (b *book) nextAndEarly() (int, []int) {
	next := 0
	for b.came(next) {
		next++
	}
	var early []int
	for n := next; n < 40; n++ {
		if b.came(n) {
			early = append(early, n)
		}
	}
	return next, early
}

func (b *book) places() [3]int {
	var out [3]int
	for _, i := range b.order {
		out[b.took[i].Stream]++
	}
	return out
}

// tellOne tells the first one that is not told and fits, if there is one.
func (b *book) tellOne() bool {
	places := b.places()
	for i, c := range b.took {
		if !slices.Contains(b.order, i) && c.Place == places[c.Stream] {
			b.order = append(b.order, i)
			return true
		}
	}
	return false
}

func (b *book) hear(c api.Chunk) {
	if c.Kind == 2 {
		return
	}
	b.owes = true
	next, early := b.nextAndEarly()
	if b.came(c.Number) || c.Number != next && len(early) == 3 {
		return
	}
	b.took = append(b.took, c)
	for b.tellOne() {
	}
}

func (b *book) say() (api.Chunk, bool) {
	if !b.owes {
		return api.Chunk{}, false
	}
	b.owes = false
	next, early := b.nextAndEarly()
	return ack(next, early...), true
}

func (b *book) receiver() api.Receiver {
	r := api.Receiver{Places: b.places(), Owes: b.owes}
	r.Next, r.Early = b.nextAndEarly()
	for i, c := range b.took {
		if !slices.Contains(b.order, i) {
			r.Hold = append(r.Hold, c)
		}
	}
	for _, i := range b.order {
		r.Told = append(r.Told, api.Msg{Stream: b.took[i].Stream, Data: b.took[i].Data})
	}
	return r
}

// walk does one thing to r and to b, a chunk that comes or (Kind 0) a saying, and holds them against each other.
func walk(t *testing.T, r api.Receiver, b *book, c api.Chunk) api.Receiver {
	t.Helper()
	before := tell(r)
	if c.Kind == 0 {
		got, said, ok := Say(r)
		if want, wantOK := b.say(); tell(said) != tell(want) || ok != wantOK {
			t.Fatalf("%s: it said %v, %v, not %v, %v", before, said, ok, want, wantOK)
		}
		if err := chunk.Wrong(said); ok && err != api.OK {
			t.Fatalf("%s: it said %v, which is wrong: %d", before, said, err)
		}
		r = got
	} else {
		r = hear(t, r, c)
		b.hear(c)
	}
	if want := b.receiver(); tell(r) != tell(want) {
		t.Fatalf("%s, behind %v: %v, not %v", before, c, r, want)
	}
	return r
}

// All short stories.
func TestShortStories(t *testing.T) {
	things := []api.Chunk{
		{}, ack(1, 2),
		data(0, 0, 0, "a"), data(1, 0, 1, "b"), data(2, 1, 0, "c"), data(3, 0, 2, "d"), data(4, 1, 1, "e"), data(5, 0, 3, "f"),
		data(1, 0, 0, "x"), data(2, 0, 1, "y"),
	}
	var tellAll func(r api.Receiver, b book, left int)
	tellAll = func(r api.Receiver, b book, left int) {
		if left == 0 {
			return
		}
		for _, c := range things {
			then := book{slices.Clone(b.took), slices.Clone(b.order), b.owes}
			tellAll(walk(t, r, &then, c), then, left-1)
		}
	}
	tellAll(api.Receiver{}, book{}, 5)
}

// dice is a story's own, the same each time.
type dice uint32

func (d *dice) roll(n int) int {
	*d = *d*1664525 + 1013904223
	return int(uint32(*d)>>8) % n
}

// thing is what comes next in a story: mostly data that are near, and as a sender would say them.
func (d *dice) thing(said []api.Chunk, next int) api.Chunk {
	switch d.roll(8) {
	case 0:
		return api.Chunk{}
	case 1:
		return d.strange(next)
	}
	return said[min(39, max(0, next-2+d.roll(8)))]
}

func (d *dice) strange(next int) api.Chunk {
	switch d.roll(4) {
	case 0:
		return ack(d.roll(41))
	case 1:
		return ack(next/2, next/2+1)
	}
	n := min(39, max(0, next+d.roll(9)-3))
	return data(n, d.roll(3), d.roll(n+1), "STRANG"[:d.roll(7)])
}

// said are all chunks of a lane, as its sender says them.
func (d *dice) said() []api.Chunk {
	var out []api.Chunk
	var places [3]int
	for n := range 40 {
		stream := d.roll(3)
		out = append(out, data(n, stream, places[stream], fmt.Sprint(n, "abcd"[:d.roll(4)])))
		places[stream]++
	}
	return out
}

func TestLongStories(t *testing.T) {
	ends := 0
	for seed := range 200 {
		d := dice(seed)
		said := d.said()
		var r api.Receiver
		b := &book{}
		for range 250 {
			r = walk(t, r, b, d.thing(said, r.Next))
		}
		if r.Next == 40 {
			ends++
		}
	}
	if ends < 50 {
		t.Errorf("in only %d stories all numbers came", ends)
	}
}

// In whatever order they come: what a receiver has told behind all of them is, stream by stream, the same.
func TestInWhateverOrderTheyCome(t *testing.T) {
	l := []api.Chunk{data(0, 0, 0, "a"), data(1, 1, 0, "b"), data(2, 0, 1, "c"), data(3, 1, 1, "d")}
	put := []api.Msg{msg(0, "a"), msg(1, "b"), msg(0, "c"), msg(1, "d")}
	orders := 0
	var each func(r api.Receiver, left []api.Chunk)
	each = func(r api.Receiver, left []api.Chunk) {
		if !plain.Fits(r.Told, put) {
			t.Errorf("it told %s", told(r))
		}
		if len(left) == 0 {
			orders++
			if !plain.All(r.Told, put) || r.Next != 4 || len(r.Early) != 0 || len(r.Hold) != 0 {
				t.Errorf("all came: %v", r)
			}
		}
		for i, c := range left {
			each(hear(t, r, c, c), slices.Delete(slices.Clone(left), i, i+1))
		}
	}
	each(api.Receiver{}, l)
	if orders != 24 {
		t.Errorf("%d orders", orders)
	}
}

// deliver takes packets on their way at random: some are lost, some stay and come once more.
func (d *dice) deliver(l []api.Chunk) ([]api.Chunk, api.Chunk, bool) {
	if len(l) == 0 {
		return l, api.Chunk{}, false
	}
	i := d.roll(len(l))
	c := l[i]
	if d.roll(4) > 0 {
		l = slices.Delete(l, i, i+1)
	}
	return l, c, d.roll(4) > 0
}

// A sender and a receiver, and a line that loses, doubles and mixes up: all is told at last, each once, stream by stream as it was put; and at every time what was told fits.
func TestWithASender(t *testing.T) {
	for seed := range 40 {
		d := dice(seed)
		var s api.Sender
		var r api.Receiver
		var put []api.Msg
		var there, back []api.Chunk
		for range 3000 {
			m := msg(d.roll(3), "abcdef"[:d.roll(7)])
			if x, err := send.Put(s, m); err == api.OK {
				s, put = x, append(put, m)
			}
			var c api.Chunk
			var ok bool
			if s, c, ok = send.Say(s); ok && len(there) < 6 {
				there = append(there, c)
			}
			if r, c, ok = Say(r); ok && len(back) < 6 {
				back = append(back, c)
			}
			if there, c, ok = d.deliver(there); ok {
				r = hear(t, r, c)
			}
			if back, c, ok = d.deliver(back); ok {
				s = send.Hear(s, c)
			}
			if !plain.Fits(r.Told, put) {
				t.Fatalf("%v was put, and it told %v", put, r.Told)
			}
		}
		if len(put) != 40 || !plain.All(r.Told, put) || len(s.Flight) != 0 || r.Next != 40 {
			t.Errorf("%d were put: %v, and %v", len(put), s, r)
		}
	}
}

// roomy is a copy of r with spare room behind each list, and something in it.
func roomy(r api.Receiver) api.Receiver {
	spare := func(b []byte) []byte { return append(append([]byte{}, b...), "SPARE"...)[:len(b)] }
	var hold []api.Chunk
	for _, c := range r.Hold {
		c.Data = spare(c.Data)
		c.Early = append([]int{}, 77, 78)[:0]
		hold = append(hold, c)
	}
	var told []api.Msg
	for _, m := range r.Told {
		told = append(told, api.Msg{Stream: m.Stream, Data: spare(m.Data)})
	}
	// In the room stand what would be told, and what came, if it were looked at.
	next := data(39, 0, r.Places[0], "SPARE")
	r.Early = append(slices.Clone(r.Early), r.Next, r.Next+1, r.Next+2, r.Next+3)[:len(r.Early)]
	r.Hold = append(hold, next, next)[:len(hold)]
	r.Told = append(told, msg(1, "SPARE"), msg(2, "ROOM"))[:len(told)]
	return r
}

// whole is r as a text, the room behind its lists told too.
func whole(r api.Receiver) string {
	r.Early = r.Early[:cap(r.Early)]
	r.Hold, r.Told = slices.Clone(r.Hold[:cap(r.Hold)]), slices.Clone(r.Told[:cap(r.Told)])
	for i := range r.Hold {
		c := &r.Hold[i]
		c.Data, c.Early = c.Data[:cap(c.Data)], c.Early[:cap(c.Early)]
	}
	for i := range r.Told {
		d := &r.Told[i].Data
		*d = (*d)[:cap(*d)]
	}
	return tell(r)
}

func scribbleBytes(b []byte) {
	for i := range b[:cap(b)] {
		b[:cap(b)][i] = '#'
	}
}

func scribbleInts(l []int) {
	for i := range l[:cap(l)] {
		l[:cap(l)][i] = -9
	}
}

func scribbleChunk(c api.Chunk) {
	scribbleBytes(c.Data)
	scribbleInts(c.Early)
}

func scribbleHold(r api.Receiver) {
	for i := range r.Hold[:cap(r.Hold)] {
		c := &r.Hold[:cap(r.Hold)][i]
		scribbleChunk(*c)
		*c = data(-7, -7, -7, "?")
	}
}

func scribbleTold(r api.Receiver) {
	for i := range r.Told[:cap(r.Told)] {
		m := &r.Told[:cap(r.Told)][i]
		scribbleBytes(m.Data)
		*m = msg(-7, "?")
	}
}

// scribble changes all that r has memory of, the room behind its lists too.
func scribble(r api.Receiver) {
	scribbleInts(r.Early)
	scribbleHold(r)
	scribbleTold(r)
}

// someReceivers are of every part of some stories.
func someReceivers() []api.Receiver {
	var out []api.Receiver
	for seed := range 12 {
		d := dice(1000 + seed)
		said := d.said()
		var r api.Receiver
		for range 100 {
			if c := d.thing(said, r.Next); c.Kind == 0 {
				r, _, _ = Say(r)
			} else {
				r = Hear(r, c)
			}
			out = append(out, Own(r))
		}
	}
	return out
}

func TestOwn(t *testing.T) {
	for _, r := range append(someReceivers(), api.Receiver{}, api.Receiver{Early: []int{}, Hold: []api.Chunk{}, Told: []api.Msg{}}) {
		if got := Own(r); tell(got) != tell(r) {
			t.Fatalf("Own of %v is %v", r, got)
		}
	}
}

// calls are all calls of the package on r; each answers its receiver and its chunk.
func calls(r api.Receiver) map[string]func() (api.Receiver, api.Chunk) {
	behind := func(c api.Chunk) func() (api.Receiver, api.Chunk) {
		if chunk.Wrong(c) != api.OK { // the numbers of r are used up, say
			c = ack(40)
		}
		return func() (api.Receiver, api.Chunk) { return Hear(r, c), api.Chunk{} }
	}
	return map[string]func() (api.Receiver, api.Chunk){
		"Own":        func() (api.Receiver, api.Chunk) { return Own(r), api.Chunk{} },
		"Say":        func() (api.Receiver, api.Chunk) { x, c, _ := Say(r); return x, c },
		"Hear next":  behind(data(r.Next, 1, r.Places[1], "next")),
		"Hear wait":  behind(data(r.Next, 2, r.Places[2]+1, "wait")),
		"Hear early": behind(data(r.Next+2, 0, r.Places[0], "early")),
		"Hear twice": behind(data(max(0, r.Next-1), 0, 0, "twice")),
		"Hear ack":   behind(ack(r.Next)),
	}
}

func TestReceiversAreOnlyReadAndNotShared(t *testing.T) {
	for _, one := range someReceivers() {
		for name := range calls(one) {
			plainly, plainSaid := calls(one)[name]()
			answer, said := tell(plainly), tell(plainSaid)
			r := roomy(one)
			before := whole(r)
			got, c := calls(r)[name]()
			if tell(got) != answer || tell(c) != said {
				t.Fatalf("%s looked at the room behind the lists of %s", name, before)
			}
			if whole(r) != before {
				t.Fatalf("%s changed what it was handed: %s, not %s", name, whole(r), before)
			}
			scribble(r)
			if tell(got) != answer || tell(c) != said {
				t.Fatalf("%s kept something of %s", name, before)
			}
			r = roomy(one)
			got, c = calls(r)[name]()
			scribble(got)
			if whole(r) != before || tell(c) != said {
				t.Fatalf("%s: the answer shares memory: %s, not %s; said: %v, not %s", name, whole(r), before, c, said)
			}
			got, c = calls(r)[name]()
			scribbleChunk(c)
			if whole(r) != before || tell(got) != answer {
				t.Fatalf("%s: what is said shares memory: %s, not %s; receiver: %v, not %s", name, whole(r), before, got, answer)
			}
		}
	}
}

// What was held and is told now is no longer in the room behind those that are held.
func TestListsOfOneAnswerAreApart(t *testing.T) {
	for _, one := range someReceivers() {
		for name := range calls(one) {
			got, _ := calls(one)[name]()
			told, early := tell(got.Told), tell(got.Early)
			scribbleHold(got)
			if tell(got.Told) != told || tell(got.Early) != early {
				t.Fatalf("%s: what is held shares memory with what is told: %v, not %s", name, got.Told, told)
			}
			got, _ = calls(one)[name]()
			hold := tell(got.Hold)
			scribbleTold(got)
			if tell(got.Hold) != hold {
				t.Fatalf("%s: what is told shares memory with what is held: %v, not %s", name, got.Hold, hold)
			}
		}
	}
}

func TestChunksAreOnlyReadAndNotKept(t *testing.T) {
	for _, place := range []int{0, 1} { // one is told, one is held
		room := []byte("dataSPARE")
		early := []int{5, 6}
		c := api.Chunk{Kind: 1, Number: 2, Stream: 1, Place: place, Data: room[:4], Early: early[:0]}
		r := Hear(api.Receiver{}, c)
		before := tell(r)
		if string(room) != "dataSPARE" || !slices.Equal(early, []int{5, 6}) {
			t.Errorf("Hear changed the chunk: %q, %v", room, early)
		}
		scribbleChunk(c)
		if tell(r) != before {
			t.Errorf("Hear kept the chunk: %v, not %s", r, before)
		}
		room = []byte("dataSPARE")
		c.Data = room[:4]
		scribble(Hear(api.Receiver{}, c))
		if string(room) != "dataSPARE" {
			t.Errorf("the receiver has the chunk's memory: %q", room)
		}
	}
}

// One receiver may go on in several ways, and none of them tells of another.
func TestWaysApart(t *testing.T) {
	r := behind(t, 0, 2, 4)
	a, b := hear(t, r, one(1)), hear(t, r, one(3))
	x, y := hear(t, a, one(3)), hear(t, b, one(1))
	if told(r) != "0a " || told(a) != "0a 0b 0c " || told(b) != "0a " || told(x) != "0a 0b 0c 0d 0e " || told(y) != told(x) {
		t.Errorf("they told: %s; %s; %s; %s; %s", told(r), told(a), told(b), told(x), told(y))
	}
	if !slices.Equal(r.Early, []int{2, 4}) || !slices.Equal(a.Early, []int{4}) || !slices.Equal(b.Early, []int{2, 3, 4}) || len(x.Early)+len(y.Early) != 0 {
		t.Errorf("early are: %v; %v; %v; %v; %v", r.Early, a.Early, b.Early, x.Early, y.Early)
	}
}
