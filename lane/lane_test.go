package lane

import (
	"fmt"
	"math"
	"reflect"
	"slices"
	"testing"

	"lanekeeper/api"
	"lanekeeper/chunk"
	"lanekeeper/plain"
	"lanekeeper/recv"
	"lanekeeper/send"
	"lanekeeper/sum"
)

// tell is x as a text: nil and empty lists are one in it.
func tell(x any) string { return fmt.Sprintf("%v", x) }

func msg(stream int, data string) api.Msg {
	return api.Msg{Stream: stream, Data: []byte(data)}
}

func data(number, stream, place int, text string) api.Chunk {
	return api.Chunk{Kind: 1, Number: number, Stream: stream, Place: place, Data: []byte(text)}
}

func ack(number int, early ...int) api.Chunk {
	return api.Chunk{Kind: 2, Number: number, Early: early}
}

// put is l with all of these messages put to its sender.
func put(t *testing.T, l api.Lane, ms ...api.Msg) api.Lane {
	t.Helper()
	for _, m := range ms {
		s, err := send.Put(l.Sender, m)
		if err != api.OK {
			t.Fatalf("%v is not put: %d", m, err)
		}
		l.Sender = s
	}
	return l
}

// ways are There, then Back.
var ways = []bool{false, true}

// on are the packets of l on their way there, or (back) back.
func on(l *api.Lane, back bool) *[][]byte {
	if back {
		return &l.Back
	}
	return &l.There
}

// with is a copy of l with these packets alone on one way.
func with(l api.Lane, back bool, packets ...[]byte) api.Lane {
	l = Own(l)
	*on(&l, back) = packets
	return l
}

// junk are many packets that are no chunks, each another one.
func junk(many int) [][]byte {
	var out [][]byte
	for i := range many {
		out = append(out, []byte{byte(i), 7, byte(many)})
	}
	return out
}

// busy is a lane of which every part has something: two wait, four are in flight, two are early and held, one is told, an answer is owed, and three packets are on each way.
func busy(t *testing.T) api.Lane {
	t.Helper()
	l := put(t, api.Lane{}, msg(0, "a"), msg(1, "b"), msg(0, "cde"), msg(2, ""), msg(1, "f"), msg(0, "ghijkl"))
	for range 5 {
		l.Sender, _, _ = send.Say(l.Sender)
	}
	for _, c := range []api.Chunk{data(0, 0, 0, "a"), data(2, 1, 1, "x"), data(3, 2, 1, "y")} {
		l.Receiver = recv.Hear(l.Receiver, c)
	}
	l.There = [][]byte{chunk.Bytes(data(1, 1, 0, "b")), chunk.Bytes(data(2, 0, 1, "cde")), {9, 9}}
	l.Back = [][]byte{chunk.Bytes(ack(0, 2)), {}, chunk.Bytes(ack(1))}
	return l
}

func TestOwn(t *testing.T) {
	for _, l := range []api.Lane{
		{},
		{There: [][]byte{}, Back: [][]byte{}},
		{There: [][]byte{{}, nil, {1}}},
		busy(t),
		with(busy(t), true, junk(9)...),
	} {
		if got := Own(l); tell(got) != tell(l) {
			t.Errorf("Own of %v is %v", l, got)
		}
	}
}

func TestSpeakNothing(t *testing.T) {
	for _, l := range []api.Lane{
		{},
		{There: [][]byte{}, Back: [][]byte{}},
		{There: junk(2), Back: junk(7)},
		{Receiver: api.Receiver{Next: 1, Places: [3]int{1, 0, 0}, Told: []api.Msg{msg(0, "a")}}},
		{Sender: api.Sender{Next: 1, Places: [3]int{1, 0, 0}}},
	} {
		if got := Speak(l); tell(got) != tell(l) {
			t.Errorf("%v spoke, and is %v", l, got)
		}
	}
}

func TestSpeak(t *testing.T) {
	l := put(t, api.Lane{}, msg(0, "a"), msg(1, "b"))
	for i, want := range []string{
		"[[1 0 0 0 97 132 209]]",
		"[[1 0 0 0 97 132 209] [1 1 1 0 98 205 101]]",
		"[[1 0 0 0 97 132 209] [1 1 1 0 98 205 101] [1 0 0 0 97 132 209]]",
	} {
		l = Speak(l)
		if tell(l.There) != want || len(l.Back) != 0 {
			t.Errorf("it spoke %d times: there are %v, and back %v", i+1, l.There, l.Back)
		}
	}
	if l.Sender.Next != 2 || len(l.Sender.Flight) != 2 || len(l.Sender.Queue) != 0 || l.Sender.Turn != 1 {
		t.Errorf("the sender is %v", l.Sender)
	}
	l = Speak(api.Lane{Receiver: recv.Hear(api.Receiver{}, data(2, 0, 0, "a"))})
	if len(l.There) != 0 || tell(l.Back) != "[[2 0 2 206 175]]" || l.Receiver.Owes {
		t.Errorf("there are %v, and back %v; the receiver is %v", l.There, l.Back, l.Receiver)
	}
	if got := Speak(l); tell(got) != tell(l) {
		t.Errorf("it owed nothing, and is %v, not %v", got, l)
	}
}

// Both ends speak, each behind what is on its way, and neither is in the other one's.
func TestSpeakBoth(t *testing.T) {
	l := busy(t)
	s, said, _ := send.Say(l.Sender)
	r, answer, _ := recv.Say(l.Receiver)
	want := api.Lane{
		Sender:   s,
		Receiver: r,
		There:    append(slices.Clone(l.There), chunk.Bytes(said)),
		Back:     append(slices.Clone(l.Back), chunk.Bytes(answer)),
	}
	if got := Speak(l); tell(got) != tell(want) {
		t.Errorf("it spoke: %v, not %v", got, want)
	}
}

// What has no room is lost, and said all the same; how full one way is does not matter to the other one.
func TestSpeakWithoutRoom(t *testing.T) {
	for there := range 9 {
		for back := range 9 {
			l := with(with(busy(t), false, junk(there)...), true, junk(back)...)
			got := Speak(l)
			s, said, _ := send.Say(l.Sender)
			r, answer, _ := recv.Say(l.Receiver)
			if tell(got.Sender) != tell(s) || tell(got.Receiver) != tell(r) {
				t.Errorf("%d there, %d back: the ends are %v and %v, not %v and %v", there, back, got.Sender, got.Receiver, s, r)
			}
			wantThere, wantBack := junk(there), junk(back)
			if there < 6 {
				wantThere = append(wantThere, chunk.Bytes(said))
			}
			if back < 6 {
				wantBack = append(wantBack, chunk.Bytes(answer))
			}
			if tell(got.There) != tell(wantThere) || tell(got.Back) != tell(wantBack) {
				t.Errorf("%d there, %d back: there are %v, and back %v", there, back, got.There, got.Back)
			}
		}
	}
}

// act is one of those calls that are of a packet.
type act struct {
	name string
	do   func(l api.Lane, n int, back bool) (api.Lane, api.Errno)
}

func acts() []act {
	spoil := func(at int) func(api.Lane, int, bool) (api.Lane, api.Errno) {
		return func(l api.Lane, n int, back bool) (api.Lane, api.Errno) { return Spoil(l, n, at, back) }
	}
	return []act{
		{"Come", Come}, {"Lose", Lose}, {"Twice", Twice}, {"Spoil 0", spoil(0)}, {"Spoil 1", spoil(1)},
		// There being no packet is told ahead of there being no byte.
		{"Spoil -1", spoil(-1)}, {"Spoil 99", spoil(99)},
	}
}

func TestNoSuchPacket(t *testing.T) {
	full := busy(t)
	lanes := []api.Lane{{}, full, with(full, false), with(full, true), with(full, false, junk(7)...), with(full, true, junk(7)...)}
	for _, l := range lanes {
		for _, back := range ways {
			many := len(*on(&l, back))
			for _, n := range []int{-1, -2, math.MinInt, many, many + 1, 99, math.MaxInt} {
				for _, a := range acts() {
					got, err := a.do(l, n, back)
					if err != api.ErrNone || tell(got) != tell(l) {
						t.Errorf("%s of packet %d of %d (back: %v): %d, and %v, not as it was, %v", a.name, n, many, back, err, got, l)
					}
				}
			}
		}
	}
}

func TestCome(t *testing.T) {
	for n := range 3 {
		for _, back := range ways {
			l := with(busy(t), back, chunk.Bytes(data(1, 1, 0, "b")), chunk.Bytes(ack(1, 3)), chunk.Bytes(data(5, 0, 3, "")))
			c, _ := chunk.Read((*on(&l, back))[n])
			want := Own(l)
			*on(&want, back) = slices.Delete(*on(&want, back), n, n+1)
			if back {
				want.Sender = send.Hear(l.Sender, c)
			} else {
				want.Receiver = recv.Hear(l.Receiver, c)
			}
			got, err := Come(l, n, back)
			if err != api.OK || tell(got) != tell(want) {
				t.Errorf("%d came (back: %v): %d, and %v, not %v", n, back, err, got, want)
			}
		}
	}
}

// Each end hears what is for it, and has no ears for what it says itself.
func TestComeToWhomItIsFor(t *testing.T) {
	l := put(t, api.Lane{}, msg(2, "hi"))
	l = Speak(l)
	packet := l.There[0]
	l, err := Come(l, 0, false)
	if err != api.OK || tell(l.Receiver.Told) != tell([]api.Msg{msg(2, "hi")}) || !l.Receiver.Owes || len(l.There) != 0 || len(l.Sender.Flight) != 1 {
		t.Errorf("data came there: %d, %v", err, l)
	}
	got, err := Come(with(l, true, packet), 0, true)
	if err != api.OK || tell(got) != tell(l) {
		t.Errorf("data came back: %d, %v, not %v", err, got, l)
	}
	l = Speak(l)
	answer := l.Back[0]
	got, err = Come(with(l, false, answer), 0, false)
	if err != api.OK || tell(got) != tell(with(l, false)) {
		t.Errorf("an ack came there: %d, %v, not %v", err, got, l)
	}
	l, err = Come(l, 0, true)
	if err != api.OK || len(l.Sender.Flight) != 0 || len(l.Back) != 0 || len(l.Receiver.Told) != 1 {
		t.Errorf("an ack came back: %d, %v", err, l)
	}
}

// What can't be read is gone when it comes, nobody hears of it, and that is no error.
func TestComeSpoilt(t *testing.T) {
	for _, c := range []struct {
		packet []byte
		wrong  api.Errno
	}{
		{nil, api.ErrSum},
		{[]byte{}, api.ErrSum},
		{[]byte{7}, api.ErrSum},
		{[]byte{1, 1, 1, 0, 98, 205, 100}, api.ErrSum},
		{[]byte{1, 1, 1, 0, 98, 205}, api.ErrSum},
		{sum.Seal(nil), api.ErrEnd},
		{sum.Seal([]byte{1}), api.ErrEnd},
		{sum.Seal([]byte{1, 1, 1}), api.ErrEnd},
		{sum.Seal([]byte{2}), api.ErrEnd},
		{sum.Seal([]byte{0, 1, 1, 0}), api.ErrKind},
		{sum.Seal([]byte{3, 1, 1, 0}), api.ErrKind},
		{sum.Seal([]byte{1, 40, 0, 0}), api.ErrRange},
		{sum.Seal([]byte{1, 1, 3, 0}), api.ErrRange},
		{sum.Seal([]byte{1, 1, 0, 2}), api.ErrRange},
		{sum.Seal([]byte("\x01\x01\x01\x00seven!!")), api.ErrMuch},
		{sum.Seal([]byte{2, 41}), api.ErrRange},
		{sum.Seal([]byte{2, 9, 9}), api.ErrRange},
		{sum.Seal([]byte{2, 1, 2, 3, 4, 5}), api.ErrMany},
	} {
		if _, err := chunk.Read(c.packet); err != c.wrong {
			t.Errorf("%v is read: %d, not %d", c.packet, err, c.wrong)
		}
		for _, back := range ways {
			l := with(busy(t), back, junk(1)[0], c.packet, junk(1)[0])
			got, err := Come(l, 1, back)
			if want := with(l, back, junk(1)[0], junk(1)[0]); err != api.OK || tell(got) != tell(want) {
				t.Errorf("%v came (back: %v): %d, and %v, not %v", c.packet, back, err, got, want)
			}
		}
	}
}

func TestLose(t *testing.T) {
	for _, many := range []int{1, 2, 6, 8} {
		for n := range many {
			for _, back := range ways {
				l := with(busy(t), back, junk(many)...)
				want := with(l, back, slices.Delete(junk(many), n, n+1)...)
				if got, err := Lose(l, n, back); err != api.OK || tell(got) != tell(want) {
					t.Errorf("%d of %d is lost (back: %v): %d, and %v, not %v", n, many, back, err, got, want)
				}
			}
		}
	}
}

func TestTwice(t *testing.T) {
	for many := 1; many < 9; many++ {
		for n := range many {
			for _, back := range ways {
				l := with(busy(t), back, junk(many)...)
				packets := junk(many)
				if many < 6 {
					packets = append(packets, packets[n])
				}
				want := with(l, back, packets...)
				if got, err := Twice(l, n, back); err != api.OK || tell(got) != tell(want) {
					t.Errorf("%d of %d is there twice (back: %v): %d, and %v, not %v", n, many, back, err, got, want)
				}
			}
		}
	}
}

// Of two that were one each may be spoilt alone.
func TestTwiceAndSpoil(t *testing.T) {
	for n, want := range []string{"[[4 7 1] [5 7 1]]", "[[5 7 1] [4 7 1]]"} {
		for _, back := range ways {
			l, err := Twice(with(api.Lane{}, back, []byte{5, 7, 1}), 0, back)
			if err != api.OK {
				t.Errorf("there is no room: %d", err)
			}
			l, err = Spoil(l, n, 0, back)
			if err != api.OK || tell(*on(&l, back)) != want {
				t.Errorf("%d is spoilt: %d, %v, not %s", n, err, l, want)
			}
		}
	}
}

func TestSpoil(t *testing.T) {
	packets := func() [][]byte {
		return [][]byte{{0, 1, 2, 254, 255}, {}, {128}, chunk.Bytes(data(1, 2, 0, "abcdef"))}
	}
	for n, packet := range packets() {
		for at := range packet {
			for _, back := range ways {
				l := with(busy(t), back, packets()...)
				spoilt := packets()
				if packet[at]%2 == 0 {
					spoilt[n][at]++
				} else {
					spoilt[n][at]--
				}
				want := with(l, back, spoilt...)
				got, err := Spoil(l, n, at, back)
				if err != api.OK || tell(got) != tell(want) {
					t.Errorf("byte %d of %d is spoilt (back: %v): %d, and %v, not %v", at, n, back, err, got, want)
				}
				if again, err := Spoil(got, n, at, back); err != api.OK || tell(again) != tell(l) {
					t.Errorf("byte %d of %d is spoilt twice (back: %v): %d, and %v, not %v", at, n, back, err, again, l)
				}
			}
		}
	}
}

func TestSpoilNoSuchByte(t *testing.T) {
	packets := [][]byte{{0, 1, 2}, {}, nil, chunk.Bytes(data(1, 2, 0, "abcdef"))}
	for n, packet := range packets {
		for _, at := range []int{-1, math.MinInt, len(packet), len(packet) + 1, math.MaxInt} {
			for _, back := range ways {
				l := with(busy(t), back, packets...)
				if got, err := Spoil(l, n, at, back); err != api.ErrRange || tell(got) != tell(l) {
					t.Errorf("byte %d of %v (back: %v): %d, and %v, not as it was, %v", at, packet, back, err, got, l)
				}
			}
		}
	}
}

// A packet whose lowest bit of a byte is turned is gone when it comes; if that is turned again, it is heard.
func TestComeWithOneBitTurned(t *testing.T) {
	for _, back := range ways {
		for _, c := range []api.Chunk{data(1, 1, 0, "b"), data(5, 0, 3, "ghijkl"), data(1, 0, 1, ""), ack(1), ack(0, 1, 2, 3), ack(40)} {
			packet := chunk.Bytes(c)
			for at := range packet {
				l := with(busy(t), back, packet)
				spoilt, _ := Spoil(l, 0, at, back)
				if got, err := Come(spoilt, 0, back); err != api.OK || tell(got) != tell(with(l, back)) {
					t.Errorf("%v with byte %d turned came (back: %v): %d, and %v", c, at, back, err, got)
				}
				mended, _ := Spoil(spoilt, 0, at, back)
				want, _ := Come(l, 0, back)
				if got, err := Come(mended, 0, back); err != api.OK || tell(got) != tell(want) {
					t.Errorf("%v with byte %d turned twice came (back: %v): %d, and %v, not %v", c, at, back, err, got, want)
				}
			}
		}
	}
}

// Two bytes turned may be right again: what is read is heard, whatever it was.
func TestComeWithTwoBitsTurned(t *testing.T) {
	c := data(0, 0, 0, "b")
	packet := chunk.Bytes(c)
	last := len(packet) - 1
	if packet[last]%2 != 0 {
		t.Fatalf("the sum of %v does not end in an even byte", packet)
	}
	l := with(api.Lane{}, false, packet)
	l, _ = Spoil(l, 0, last-2, false)
	l, _ = Spoil(l, 0, last, false)
	l, err := Come(l, 0, false)
	if err != api.OK || tell(l.Receiver.Told) != tell([]api.Msg{msg(0, "c")}) {
		t.Errorf("it came: %d, %v", err, l)
	}
}

// line is a lane told otherwise: its packets are texts, by the way they are on.
type line struct {
	sender   api.Sender
	receiver api.Receiver
	packets  map[bool][]string
}

func lineOf(l api.Lane) *line {
	m := &line{l.Sender, l.Receiver, map[bool][]string{}}
	for _, back := range ways {
		for _, p := range *on(&l, back) {
			m.packets[back] = append(m.packets[back], string(p))
		}
	}
	return m
}

func (m *line) lane() api.Lane {
	l := api.Lane{Sender: m.sender, Receiver: m.receiver}
	for _, back := range ways {
		for _, p := range m.packets[back] {
			*on(&l, back) = append(*on(&l, back), []byte(p))
		}
	}
	return l
}

func (m *line) add(packet string, back bool) {
	if len(m.packets[back]) < 6 {
		m.packets[back] = append(m.packets[back], packet)
	}
}

func (m *line) speak() {
	s, c, ok := send.Say(m.sender)
	if m.sender = s; ok {
		m.add(string(chunk.Bytes(c)), false)
	}
	r, c, ok := recv.Say(m.receiver)
	if m.receiver = r; ok {
		m.add(string(chunk.Bytes(c)), true)
	}
}

func (m *line) take(n int, back bool) string {
	var left []string
	for i, p := range m.packets[back] {
		if i != n {
			left = append(left, p)
		}
	}
	packet := m.packets[back][n]
	m.packets[back] = left
	return packet
}

func (m *line) come(n int, back bool) {
	c, err := chunk.Read([]byte(m.take(n, back)))
	if err == api.OK && back {
		m.sender = send.Hear(m.sender, c)
	} else if err == api.OK {
		m.receiver = recv.Hear(m.receiver, c)
	}
}

func (m *line) spoil(n, at int, back bool) {
	b := []byte(m.packets[back][n])
	if b[at]%2 == 0 {
		b[at]++
	} else {
		b[at]--
	}
	m.packets[back][n] = string(b)
}

// thing is what is done to a lane: "speak", or what is done to packet n, byte at.
type thing struct {
	what  string
	n, at int
	back  bool
}

// do does x, and tells its error.
func (m *line) do(x thing) api.Errno {
	switch {
	case x.what == "speak":
		m.speak()
	case x.n < 0 || x.n >= len(m.packets[x.back]):
		return api.ErrNone
	case x.what == "come":
		m.come(x.n, x.back)
	case x.what == "lose":
		m.take(x.n, x.back)
	case x.what == "twice":
		m.add(m.packets[x.back][x.n], x.back)
	case x.at < 0 || x.at >= len(m.packets[x.back][x.n]):
		return api.ErrRange
	default:
		m.spoil(x.n, x.at, x.back)
	}
	return api.OK
}

func call(l api.Lane, x thing) (api.Lane, api.Errno) {
	switch x.what {
	case "speak":
		return Speak(l), api.OK
	case "come":
		return Come(l, x.n, x.back)
	case "lose":
		return Lose(l, x.n, x.back)
	case "twice":
		return Twice(l, x.n, x.back)
	}
	return Spoil(l, x.n, x.at, x.back)
}

// walk does x to l and to m, and holds them against each other.
func walk(t *testing.T, l api.Lane, m *line, x thing) api.Lane {
	t.Helper()
	before := tell(l)
	got, err := call(l, x)
	if want := m.do(x); err != want {
		t.Fatalf("%s, behind %v: error %d, not %d", before, x, err, want)
	}
	if want := m.lane(); tell(got) != tell(want) {
		t.Fatalf("%s, behind %v: %v, not %v", before, x, got, want)
	}
	return got
}

// All short stories.
func TestShortStories(t *testing.T) {
	things := []thing{
		{"speak", 0, 0, false},
		{"come", 0, 0, false}, {"come", 1, 0, false}, {"come", 0, 0, true},
		{"lose", 0, 0, false}, {"lose", 1, 0, true},
		{"twice", 0, 0, false}, {"twice", 0, 0, true},
		{"spoil", 0, 2, false}, {"spoil", 0, 4, true},
	}
	var tellAll func(l api.Lane, left int)
	tellAll = func(l api.Lane, left int) {
		if left == 0 {
			return
		}
		for _, x := range things {
			tellAll(walk(t, l, lineOf(l), x), left-1)
		}
	}
	begun := Speak(put(t, api.Lane{}, msg(0, "a"), msg(1, "b"), msg(0, "c")))
	begun, _ = Come(Speak(begun), 1, false)
	tellAll(begun, 4)
}

// dice is a story's own, the same each time.
type dice uint32

func (d *dice) roll(n int) int {
	*d = *d*1664525 + 1013904223
	return int(uint32(*d)>>8) % n
}

func (d *dice) thing() thing {
	x := thing{"speak", d.roll(8) - 1, d.roll(14) - 1, d.roll(2) == 0}
	// Most that speak are heard: else no story would come to its end.
	switch d.roll(9) {
	case 0, 1, 2:
		x.what, x.n = "come", max(0, x.n/2)
	case 3:
		x.what = "lose"
	case 4:
		x.what = "twice"
	case 5:
		x.what = "spoil"
	}
	return x
}

// A line that loses, doubles, spoils and mixes up: whatever it does, no more than there is room for is on its way, and in many stories all is told.
func TestLongStories(t *testing.T) {
	ends := 0
	for seed := range 30 {
		d := dice(seed)
		var l api.Lane
		var all []api.Msg
		m := lineOf(l)
		for range 900 {
			one := msg(d.roll(3), "abcdef"[:d.roll(7)])
			if s, err := send.Put(l.Sender, one); err == api.OK {
				l.Sender, m.sender, all = s, s, append(all, one)
			}
			l = walk(t, l, m, d.thing())
			if len(l.There) > 6 || len(l.Back) > 6 {
				t.Fatalf("%d are there, %d back", len(l.There), len(l.Back))
			}
		}
		if len(l.Receiver.Told) > 0 && plain.All(l.Receiver.Told, all) {
			ends++
		}
	}
	if ends < 20 {
		t.Errorf("in only %d stories all is told", ends)
	}
}

// A line that spoils one byte of a packet at most, and loses, doubles and mixes up: what was told fits at every time, and all is told at last.
func TestWhatIsToldFits(t *testing.T) {
	for seed := range 20 {
		d := dice(7000 + seed)
		var l api.Lane
		var all []api.Msg
		for range 2500 {
			one := msg(d.roll(3), "abcdef"[:d.roll(7)])
			if s, err := send.Put(l.Sender, one); err == api.OK {
				l.Sender, all = s, append(all, one)
			}
			l = Speak(l)
			x := d.thing()
			if l, _ = call(l, x); x.what == "spoil" {
				l, _ = Come(l, x.n, x.back)
			}
			if !plain.Fits(l.Receiver.Told, all) {
				t.Fatalf("%v was put, and %v told", all, l.Receiver.Told)
			}
		}
		if len(all) != 40 || !plain.All(l.Receiver.Told, all) {
			t.Errorf("%d were put, and %d told", len(all), len(l.Receiver.Told))
		}
	}
}

// lists visits each list of v, with the room behind it, those within it first.
func lists(v reflect.Value, visit func(reflect.Value)) {
	switch v.Kind() {
	case reflect.Struct:
		for i := range v.NumField() {
			lists(v.Field(i), visit)
		}
	case reflect.Slice:
		all := v.Slice(0, v.Cap())
		for i := range all.Len() {
			lists(all.Index(i), visit)
		}
		visit(all)
	}
}

// scribble changes all that l has memory of, the room behind its lists too.
func scribble(l api.Lane) {
	lists(reflect.ValueOf(l), func(v reflect.Value) {
		for i := range v.Len() {
			switch x := v.Index(i); x.Kind() {
			case reflect.Uint8:
				x.SetUint('#')
			case reflect.Int:
				x.SetInt(-9)
			default:
				x.SetZero()
			}
		}
	})
}

// whole is l as a text, the room behind its lists told too.
func whole(l api.Lane) string {
	out := ""
	lists(reflect.ValueOf(l), func(v reflect.Value) { out += tell(v.Interface()) + "\n" })
	return out
}

// roomy is a copy of v with spare room behind each list, in which stands something like what the list has.
func roomy(v reflect.Value) reflect.Value {
	switch v.Kind() {
	case reflect.Struct:
		out := reflect.New(v.Type()).Elem()
		for i := range v.NumField() {
			out.Field(i).Set(roomy(v.Field(i)))
		}
		return out
	case reflect.Slice:
		out := reflect.MakeSlice(v.Type(), 0, v.Len()+3)
		for i := range v.Len() {
			out = reflect.Append(out, roomy(v.Index(i)))
		}
		for i := range 3 {
			out = reflect.Append(out, spare(v, i))
		}
		return out.Slice(0, v.Len())
	}
	return v
}

func spare(v reflect.Value, i int) reflect.Value {
	switch kind := v.Type().Elem().Kind(); {
	case kind == reflect.Uint8:
		return reflect.ValueOf(byte('S'))
	case kind == reflect.Int:
		return reflect.ValueOf(1 + i)
	case v.Len() > 0:
		return roomy(v.Index(0))
	}
	return reflect.Zero(v.Type().Elem())
}

func roomyLane(l api.Lane) api.Lane { return roomy(reflect.ValueOf(l)).Interface().(api.Lane) }

// memory is where the lists of l are, each with the room behind it.
func memory(l api.Lane) [][2]uintptr {
	var out [][2]uintptr
	lists(reflect.ValueOf(l), func(v reflect.Value) {
		if v.Len() > 0 {
			out = append(out, [2]uintptr{v.Pointer(), v.Pointer() + uintptr(v.Len())*v.Type().Elem().Size()})
		}
	})
	return out
}

// apart: whether no two of l have a byte of memory in common.
func apart(l [][2]uintptr) bool {
	slices.SortFunc(l, func(a, b [2]uintptr) int { return int(a[0]) - int(b[0]) })
	for i := 1; i < len(l); i++ {
		if l[i][0] < l[i-1][1] {
			return false
		}
	}
	return true
}

// calls are all calls of the package on a lane, those that answer an error too.
func calls() map[string]func(api.Lane) api.Lane {
	out := map[string]func(api.Lane) api.Lane{"Own": Own, "Speak": Speak}
	for _, a := range acts() {
		for _, back := range ways {
			for n := -1; n < 4; n++ {
				out[fmt.Sprint(a.name, " ", n, " ", back)] = func(l api.Lane) api.Lane {
					l, _ = a.do(l, n, back)
					return l
				}
			}
		}
	}
	return out
}

func someLanes(t *testing.T) []api.Lane {
	full := busy(t)
	out := []api.Lane{{}, full, Speak(full), with(full, false, junk(6)...), with(full, true, junk(7)...)}
	for seed := range 6 {
		d := dice(500 + seed)
		var l api.Lane
		for i := range 120 {
			if s, err := send.Put(l.Sender, msg(d.roll(3), "abcdef"[:d.roll(7)])); err == api.OK {
				l.Sender = s
			}
			if l, _ = call(l, d.thing()); i%6 == 0 {
				out = append(out, l)
			}
		}
	}
	return out
}

func TestLanesAreOnlyReadAndNotShared(t *testing.T) {
	for _, one := range someLanes(t) {
		for name, do := range calls() {
			answer := tell(do(Own(one)))
			l := roomyLane(one)
			before := whole(l)
			got := do(l)
			if tell(got) != answer {
				t.Fatalf("%s looked at the room behind the lists of %s: %v, not %s", name, before, got, answer)
			}
			if whole(l) != before {
				t.Fatalf("%s changed what it was handed: %s, not %s", name, whole(l), before)
			}
			if !apart(append(memory(got), memory(l)...)) {
				t.Fatalf("%s of %s: lists share memory: %v", name, before, got)
			}
			scribble(l)
			if tell(got) != answer {
				t.Fatalf("%s kept something of %s", name, before)
			}
		}
	}
}

// One lane may go on in several ways, and none of them tells of another.
func TestWaysApart(t *testing.T) {
	l := Speak(Speak(put(t, api.Lane{}, msg(0, "a"), msg(0, "b"))))
	before := tell(l)
	spoilt, _ := Spoil(l, 0, 4, false)
	lost, _ := Lose(l, 0, false)
	came, _ := Come(l, 0, false)
	twice, _ := Twice(l, 1, false)
	spoken := Speak(l)
	scribble(spoken)
	scribble(twice)
	if tell(l) != before {
		t.Errorf("it is %v, not %s", l, before)
	}
	if len(spoilt.There) != 2 || spoilt.There[0][4] != '`' || tell(lost.There) != tell(l.There[1:]) || tell(came.There) != tell(l.There[1:]) || tell(came.Receiver.Told) != tell([]api.Msg{msg(0, "a")}) {
		t.Errorf("they are %v, %v, %v", spoilt, lost, came)
	}
}
