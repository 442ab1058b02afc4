package chunk

import (
	"bytes"
	"math"
	"reflect"
	"slices"
	"strings"
	"testing"

	"lanekeeper/api"
	"lanekeeper/sum"
)

// farNumbers are outside of every range that a chunk has.
var farNumbers = []int{-1, -2, -256, 41, 256, 257, 1 << 32, math.MinInt, math.MaxInt}

func data(number, stream, place int, text string) api.Chunk {
	return api.Chunk{Kind: 1, Number: number, Stream: stream, Place: place, Data: []byte(text)}
}

func ack(number int, early ...int) api.Chunk {
	return api.Chunk{Kind: 2, Number: number, Early: early}
}

// same: whether all fields are, nil and empty being one.
func same(a, b api.Chunk) bool {
	return a.Kind == b.Kind && a.Number == b.Number && a.Stream == b.Stream && a.Place == b.Place &&
		bytes.Equal(a.Data, b.Data) && slices.Equal(a.Early, b.Early)
}

// rightData are chunks of every number, stream, place, and length of data.
func rightData() []api.Chunk {
	var out []api.Chunk
	for number := range 40 {
		for place := range number + 1 {
			for stream := range 3 {
				n := (number + place) % 7
				out = append(out, data(number, stream, place, "\x00\xff\x01\x02ab"[:n]))
			}
		}
	}
	for n := range 7 {
		out = append(out, data(9, 1, 4, "\x01\x00\xff zz"[:n]))
	}
	return out
}

// rightAcks are all that there are.
func rightAcks() []api.Chunk {
	var out []api.Chunk
	for number := range 41 {
		out = append(out, ack(number))
		for a := number + 1; a < 40; a++ {
			out = append(out, ack(number, a))
			for b := a + 1; b < 40; b++ {
				out = append(out, ack(number, a, b))
				for c := b + 1; c < 40; c++ {
					out = append(out, ack(number, a, b, c))
				}
			}
		}
	}
	return out
}

func TestWrongMsg(t *testing.T) {
	for _, c := range []struct {
		stream int
		data   string
		want   api.Errno
	}{
		{0, "", api.OK},
		{1, "a", api.OK},
		{2, "123456", api.OK},
		{0, "1234567", api.ErrMuch},
		{2, strings.Repeat("x", 1000), api.ErrMuch},
		{3, "", api.ErrRange},
		{-1, "", api.ErrRange},
		{3, "1234567", api.ErrRange}, // both fit, and the first one is told
		{-1, "1234567", api.ErrRange},
		{math.MinInt, "", api.ErrRange},
		{math.MaxInt, "", api.ErrRange},
	} {
		if got := WrongMsg(api.Msg{Stream: c.stream, Data: []byte(c.data)}); got != c.want {
			t.Errorf("stream %d, %d bytes: %d, not %d", c.stream, len(c.data), got, c.want)
		}
	}
	if got := WrongMsg(api.Msg{}); got != api.OK {
		t.Errorf("the empty message: %d", got)
	}
}

func TestRightOnesAreNotWrong(t *testing.T) {
	for _, c := range append(rightData(), rightAcks()...) {
		if got := Wrong(c); got != api.OK {
			t.Fatalf("Wrong(%v) is %d", c, got)
		}
	}
}

func TestWrongKind(t *testing.T) {
	for _, kind := range append([]int{0, 3, 4}, farNumbers...) {
		for _, c := range []api.Chunk{
			{},
			{Number: -1},
			{Number: 41, Stream: 3, Place: 50, Data: make([]byte, 7), Early: []int{0, 0, 0, 0}},
		} {
			c.Kind = kind
			if got := Wrong(c); got != api.ErrKind {
				t.Errorf("Wrong(%v) is %d", c, got)
			}
		}
	}
}

func TestWrongNumber(t *testing.T) {
	for _, kind := range []int{1, 2} {
		for _, number := range farNumbers {
			for _, c := range []api.Chunk{{}, {Early: []int{50, 1, 1, 1}}, {Data: make([]byte, 7)}} {
				c.Kind, c.Number = kind, number
				if got := Wrong(c); got != api.ErrRange {
					t.Errorf("Wrong(%v) is %d", c, got)
				}
			}
		}
	}
	if got := Wrong(data(40, 0, 0, "")); got != api.ErrRange {
		t.Errorf("data of number 40: %d", got)
	}
	if got := Wrong(ack(40)); got != api.OK {
		t.Errorf("an ack of number 40: %d", got)
	}
}

func TestWrongData(t *testing.T) {
	with := func(c api.Chunk, early ...int) api.Chunk {
		c.Early = early
		return c
	}
	for _, c := range []struct {
		c    api.Chunk
		want api.Errno
	}{
		{data(5, 0, 5, ""), api.OK},
		{data(5, 0, 6, ""), api.ErrRange},
		{data(5, 0, -1, ""), api.ErrRange},
		{data(0, 0, 1, ""), api.ErrRange},
		{data(5, 0, math.MaxInt, ""), api.ErrRange},
		{data(5, 0, math.MinInt, ""), api.ErrRange},
		{with(data(5, 0, 0, "")), api.OK},
		{with(data(5, 0, 0, ""), 6), api.ErrMany},
		{data(5, 3, 0, ""), api.ErrRange},
		{data(5, -1, 0, ""), api.ErrRange},
		{data(5, 2, 0, "1234567"), api.ErrMuch},
		// Several fit: the first one named is told.
		{with(data(40, 0, 0, ""), 6), api.ErrRange},
		{with(data(5, 0, 6, ""), 7), api.ErrRange},
		{with(data(5, 3, 0, "1234567"), 7), api.ErrMany},
		{with(data(5, 0, 0, "1234567"), 7), api.ErrMany},
		{data(5, 3, 0, "1234567"), api.ErrRange},
		{data(5, 0, 6, "1234567"), api.ErrRange},
	} {
		if got := Wrong(c.c); got != c.want {
			t.Errorf("Wrong(%v) is %d, not %d", c.c, got, c.want)
		}
	}
}

func TestWrongAck(t *testing.T) {
	for _, c := range []struct {
		c    api.Chunk
		want api.Errno
	}{
		{ack(0, 1, 2, 3), api.OK},
		{ack(3, 37, 38, 39), api.OK},
		{ack(3, 4), api.OK},
		{ack(3, 3), api.ErrRange},
		{ack(3, 2), api.ErrRange},
		{ack(3, 40), api.ErrRange},
		{ack(3, 4, 5, 40), api.ErrRange},
		{ack(39, 40), api.ErrRange},
		{ack(40, 41), api.ErrRange},
		{ack(3, 5, 5), api.ErrRange},
		{ack(3, 6, 5), api.ErrRange},
		{ack(3, 6, 7, 4), api.ErrRange},
		{ack(3, math.MaxInt), api.ErrRange},
		{ack(3, math.MinInt), api.ErrRange},
		{ack(3, 4, math.MinInt), api.ErrRange},
		{ack(3, 4, 5, 6, 7), api.ErrMany},
		{ack(3, make([]int, 1000)...), api.ErrMany},
		{api.Chunk{Kind: 2, Stream: 1}, api.ErrRange},
		{api.Chunk{Kind: 2, Stream: -1}, api.ErrRange},
		{api.Chunk{Kind: 2, Number: 5, Place: 1}, api.ErrRange},
		{api.Chunk{Kind: 2, Number: 5, Place: -1}, api.ErrRange},
		{api.Chunk{Kind: 2, Data: []byte{0}}, api.ErrMany},
		{api.Chunk{Kind: 2, Data: []byte{}, Early: []int{}}, api.OK},
		{api.Chunk{Kind: 2, Data: make([]byte, 7)}, api.ErrMany},
		// Several fit: the first one named is told.
		{api.Chunk{Kind: 2, Stream: 1, Data: []byte{1}}, api.ErrRange},
		{api.Chunk{Kind: 2, Place: 1, Early: []int{1, 2, 3, 4}}, api.ErrRange},
		{api.Chunk{Kind: 2, Data: []byte{1}, Early: []int{0}}, api.ErrMany},
		{ack(3, 0, 0, 0, 0), api.ErrMany},
	} {
		if got := Wrong(c.c); got != c.want {
			t.Errorf("Wrong(%v) is %d, not %d", c.c, got, c.want)
		}
	}
}

func TestBytesOfKnownChunks(t *testing.T) {
	for _, c := range []struct {
		c    api.Chunk
		want []byte
	}{
		{data(5, 2, 1, "ab"), []byte{1, 5, 2, 1, 'a', 'b', 136, 225}},
		{data(0, 0, 0, ""), []byte{1, 0, 0, 0, 65, 102}},
		{data(39, 0, 39, ""), []byte{1, 39, 0, 39, 193, 161}},
		{ack(0), []byte{2, 0, 18, 15}},
		{ack(40), []byte{2, 40, 18, 55}},
		{ack(3, 4, 7, 39), []byte{2, 3, 4, 7, 39, 26, 180}},
	} {
		if got := Bytes(c.c); !bytes.Equal(got, c.want) {
			t.Errorf("Bytes(%v) is %v, not %v", c.c, got, c.want)
		}
	}
}

func TestThereAndBack(t *testing.T) {
	for _, c := range append(rightData(), rightAcks()...) {
		if got, err := Read(Bytes(c)); err != api.OK || !same(got, c) {
			t.Fatalf("Read(Bytes(%v)) is %v, %d", c, got, err)
		}
	}
}

func TestWhatIsUnlikeLooksUnlike(t *testing.T) {
	seen := map[string]int{}
	all := append(rightData(), rightAcks()...)
	for i, c := range all {
		b := string(Bytes(c))
		if k, ok := seen[b]; ok && !same(all[k], c) {
			t.Fatalf("%v and %v look alike", all[k], c)
		}
		seen[b] = i
	}
}

// refuse: that error comes of b, and the zero chunk beside it.
func refuse(t *testing.T, b []byte, want api.Errno) {
	t.Helper()
	got, err := Read(b)
	if err != want || !same(got, api.Chunk{}) {
		t.Errorf("Read(%v) is %v, %d, not %d", b, got, err, want)
	}
}

func TestReadRefusesWhatIsSpoilt(t *testing.T) {
	for _, c := range []api.Chunk{data(5, 2, 1, "ab"), data(0, 0, 0, ""), ack(0), ack(3, 4, 7, 39)} {
		b := Bytes(c)
		for k := range b {
			for turn := 1; turn < 256; turn++ {
				d := bytes.Clone(b)
				d[k] ^= byte(turn)
				refuse(t, d, api.ErrSum)
			}
			refuse(t, b[:k], api.ErrSum)
		}
	}
	for _, b := range [][]byte{nil, {}, {0}, {7}, {1, 5, 2, 1}, {3, 0}} {
		refuse(t, b, api.ErrSum)
	}
}

func TestReadRefusesWhatEndsTooSoon(t *testing.T) {
	refuse(t, sum.Seal(nil), api.ErrEnd)
	for x := range 256 {
		refuse(t, sum.Seal([]byte{byte(x)}), api.ErrEnd)
		refuse(t, sum.Seal([]byte{1, byte(x)}), api.ErrEnd)
		refuse(t, sum.Seal([]byte{1, 5, byte(x)}), api.ErrEnd)
	}
}

func TestReadRefusesWhatIsWrong(t *testing.T) {
	for _, c := range []struct {
		b    []byte
		want api.Errno
	}{
		{[]byte{0, 0}, api.ErrKind},
		{[]byte{3, 0}, api.ErrKind},
		{[]byte{3, 0, 9}, api.ErrKind},
		{[]byte{3, 41, 9, 9, 9, 9, 9, 9, 9, 9, 9, 9, 9}, api.ErrKind},
		{[]byte{255, 255}, api.ErrKind},
		{[]byte{1, 40, 0, 0}, api.ErrRange},
		{[]byte{1, 255, 0, 0}, api.ErrRange},
		{[]byte{1, 5, 2, 6}, api.ErrRange},
		{[]byte{1, 5, 3, 1}, api.ErrRange},
		{[]byte{1, 5, 7, 1, 1}, api.ErrRange},
		{[]byte{1, 5, 2, 5, 1, 2, 3, 4, 5, 6, 7}, api.ErrMuch},
		{[]byte{1, 5, 3, 5, 1, 2, 3, 4, 5, 6, 7}, api.ErrRange},
		{[]byte{2, 41}, api.ErrRange},
		{[]byte{2, 50}, api.ErrRange},
		{[]byte{2, 41, 1, 1, 1, 1}, api.ErrRange},
		{[]byte{2, 3, 3}, api.ErrRange},
		{[]byte{2, 3, 40}, api.ErrRange},
		{[]byte{2, 3, 5, 4}, api.ErrRange},
		{[]byte{2, 3, 5, 5}, api.ErrRange},
		{[]byte{2, 3, 4, 5, 6, 7}, api.ErrMany},
		{append([]byte{2, 3}, make([]byte, 5000)...), api.ErrMany},
		{append([]byte{1, 3, 0, 0}, make([]byte, 5000)...), api.ErrMuch},
	} {
		refuse(t, sum.Seal(c.b), c.want)
	}
}

// What is read without an error is right, and its bytes are those that were read.
func TestReadAndWrittenAgain(t *testing.T) {
	values := []byte{0, 1, 2, 3, 4, 39, 40, 41, 255}
	lists := [][]byte{{}}
	for range 5 {
		var longer [][]byte
		for _, l := range lists {
			sealed := sum.Seal(l)
			c, err := Read(sealed)
			if err == api.OK && (Wrong(c) != api.OK || !bytes.Equal(Bytes(c), sealed)) {
				t.Fatalf("Read(%v) is %v", sealed, c)
			}
			for _, x := range values {
				longer = append(longer, append(bytes.Clone(l), x))
			}
		}
		lists = longer
	}
}

func TestOwnIsACopy(t *testing.T) {
	for _, c := range []api.Chunk{
		{},
		data(5, 2, 1, "ab"),
		ack(3, 4, 7, 39),
		{Kind: 9, Number: -1, Stream: 7, Place: math.MaxInt, Data: make([]byte, 20), Early: []int{5, 5, -5, 5}},
		{Data: []byte{}, Early: []int{}},
	} {
		if got := Own(c); !same(got, c) {
			t.Errorf("Own(%v) is %v", c, got)
		}
	}
}

// roomy is a chunk with spare room behind its lists, and that room.
func roomy() (api.Chunk, []byte, []int) {
	bs, ns := []byte("ab1234"), []int{4, 7, 8, 9}
	return api.Chunk{Kind: 1, Number: 5, Data: bs[:2], Early: ns[:2]}, bs, ns
}

func TestOwnSharesNothing(t *testing.T) {
	c, bs, ns := roomy()
	got := Own(c)
	scribble(got)
	if string(bs) != "ab1234" || !reflect.DeepEqual(ns, []int{4, 7, 8, 9}) {
		t.Errorf("what was handed in became %q and %v", bs, ns)
	}
	got = Own(c)
	scribble(c)
	if string(got.Data) != "ab" || !reflect.DeepEqual(got.Early, []int{4, 7}) {
		t.Errorf("what was answered became %q and %v", got.Data, got.Early)
	}
}

func TestBytesOnlyReads(t *testing.T) {
	c, bs, _ := roomy()
	c.Early = nil
	b := Bytes(c)
	if string(bs) != "ab1234" {
		t.Errorf("what was handed in became %q", bs)
	}
	scribble(c)
	if got, err := Read(b); err != api.OK || string(got.Data) != "ab" {
		t.Errorf("what was answered became %v, %d", got, err)
	}
	c, _, ns := roomy()
	c.Kind, c.Number, c.Data = 2, 3, nil
	b = Bytes(c)
	if !reflect.DeepEqual(ns, []int{4, 7, 8, 9}) {
		t.Errorf("what was handed in became %v", ns)
	}
	if got, err := Read(b); err != api.OK || !same(got, ack(3, 4, 7)) {
		t.Errorf("spare room was looked at: %v, %d", got, err)
	}
}

func TestReadSharesNothing(t *testing.T) {
	for _, c := range []api.Chunk{data(5, 2, 1, "ab"), ack(3, 4, 7)} {
		b := append(make([]byte, 0, 32), Bytes(c)...)
		before := bytes.Clone(b[:32])
		got, _ := Read(b)
		scribble(got)
		if !bytes.Equal(b[:32], before) {
			t.Errorf("what was handed in became %v", b[:32])
		}
		got, _ = Read(b)
		clear(b[:32])
		if !same(got, c) {
			t.Errorf("what was answered became %v", got)
		}
	}
}

func TestWrongOnesAreOnlyRead(t *testing.T) {
	c, bs, ns := roomy()
	WrongMsg(api.Msg{Data: c.Data})
	for _, kind := range []int{0, 1, 2} {
		c.Kind = kind
		Wrong(c)
	}
	if string(bs) != "ab1234" || !reflect.DeepEqual(ns, []int{4, 7, 8, 9}) {
		t.Errorf("what was handed in became %q and %v", bs, ns)
	}
}

// scribble fills the lists of c, and the spare room behind them.
func scribble(c api.Chunk) {
	for i := range c.Data[:cap(c.Data)] {
		c.Data[:cap(c.Data)][i] = 0xee
	}
	for i := range c.Early[:cap(c.Early)] {
		c.Early[:cap(c.Early)][i] = -77
	}
}

func TestOwnMsg(t *testing.T) {
	for _, m := range []api.Msg{
		{},
		{Stream: 2, Data: []byte{}},
		{Stream: 1, Data: []byte("ab")},
		{Stream: -5, Data: []byte("1234567")}, // wrong ones too
	} {
		got := OwnMsg(m)
		if got.Stream != m.Stream || !bytes.Equal(got.Data, m.Data) {
			t.Errorf("OwnMsg(%v) is %v", m, got)
		}
	}
	room := []byte("abSPARE")
	got := OwnMsg(api.Msg{Data: room[:2]})
	got.Data[0] = 'X'
	got.Data = append(got.Data, 'Y')
	if string(room) != "abSPARE" {
		t.Errorf("the message is %q behind a change of its copy", room)
	}
}
