package plain

import (
	"slices"
	"strings"
	"testing"

	"lanekeeper/api"
	"lanekeeper/text"
)

func msg(stream int, data string) api.Msg {
	return api.Msg{Stream: stream, Data: []byte(data)}
}

// msgs are the messages whose texts stand in s, with a blank between.
func msgs(t *testing.T, s string) []api.Msg {
	t.Helper()
	var out []api.Msg
	for _, one := range strings.Fields(s) {
		m, err := text.Parse(one)
		if err != api.OK {
			t.Fatalf("%q is no message: %d", one, err)
		}
		out = append(out, m)
	}
	return out
}

// told is l as the texts of its messages, with a blank between.
func told(l []api.Msg) string {
	var out []string
	for _, m := range l {
		out = append(out, text.Print(m))
	}
	return strings.Join(out, " ")
}

func TestSame(t *testing.T) {
	for _, c := range []struct {
		a, b api.Msg
		want bool
	}{
		{msg(0, "a"), msg(0, "a"), true},
		{msg(2, "abcdef"), msg(2, "abcdef"), true},
		{msg(1, ""), msg(1, ""), true},
		{api.Msg{Stream: 1}, msg(1, ""), true}, // nil and empty are one
		{msg(1, ""), api.Msg{Stream: 1}, true},
		{api.Msg{}, api.Msg{}, true},
		{msg(0, "a"), msg(1, "a"), false},
		{msg(0, ""), msg(2, ""), false},
		{msg(0, "a"), msg(0, "b"), false},
		{msg(0, "a"), msg(0, ""), false},
		{msg(0, ""), msg(0, "\x00"), false},
		{msg(0, "ab"), msg(0, "a"), false},
		{msg(0, "a"), msg(0, "ab"), false},
		{msg(0, "ab"), msg(0, "ba"), false},
		{msg(0, "abcdef"), msg(0, "abcdeg"), false},
		{msg(0, "a"), msg(0, "A"), false},
		{msg(0, "\xff"), msg(0, "\xfe"), false}, // bytes, not runes
	} {
		if Same(c.a, c.b) != c.want || Same(c.b, c.a) != c.want {
			t.Errorf("Same(%v, %v) is not %v", c.a, c.b, c.want)
		}
	}
}

// Each byte at each place counts.
func TestSameSeesOneByteTurned(t *testing.T) {
	for place := range api.MaxData {
		for x := range 256 {
			a, b := msg(1, "abcdef"), msg(1, "abcdef")
			b.Data[place] = byte(x)
			if Same(a, b) != (a.Data[place] == byte(x)) {
				t.Errorf("Same(%v, %v) is %v", a, b, Same(a, b))
			}
		}
	}
}

func TestOf(t *testing.T) {
	const mixed = "0:61 1:61 0:62 2: 0:61 1:6161"
	for _, c := range []struct {
		l      string
		stream int
		want   string
	}{
		{mixed, 0, "0:61 0:62 0:61"},
		{mixed, 1, "1:61 1:6161"},
		{mixed, 2, "2:"},
		{mixed, 3, ""},
		{mixed, -1, ""},
		{mixed, 1<<63 - 1, ""},
		{mixed, -1 << 63, ""},
		{"1:62 1:61 1:62", 1, "1:62 1:61 1:62"},
		{"1:62 1:61", 0, ""},
		{"", 0, ""},
	} {
		if got := told(Of(msgs(t, c.l), c.stream)); got != c.want {
			t.Errorf("Of(%s, %d) is %s, not %s", c.l, c.stream, got, c.want)
		}
	}
	if got := Of([]api.Msg{}, 0); len(got) != 0 {
		t.Errorf("Of the empty list is %v", got)
	}
}

func TestFitsAndAll(t *testing.T) {
	const put = "0:61 1:61 0:62 2: 0:61"
	for _, c := range []struct {
		told, put string
		fits, all bool
	}{
		{"", "", true, true},
		{"", put, true, false},
		{put, put, true, true},
		{"0:61 1:61 0:62", put, true, false},
		{"0:61", put, true, false},
		{"2:", put, true, false},
		// Other streams may go first.
		{"1:61 0:61", put, true, false},
		{"2: 1:61 0:61 0:62 0:61", put, true, true},
		{"0:61 0:62 0:61 1:61 2:", put, true, true},
		// One is left out, or goes ahead of its turn.
		{"0:62", put, false, false},
		{"0:61 0:61", put, false, false},
		{"0:62 0:61", put, false, false},
		{"0:62 1:61 0:61 2: 0:61", put, false, false},
		// More than were put.
		{"0:61 0:62 0:61 0:61", put, false, false},
		{"1:61 1:61", put, false, false},
		{"2: 2:", put, false, false},
		{"0:61", "", false, false},
		{"0:", "", false, false},
		// As many, but others.
		{"0:61 1:61 0:62 2: 0:62", put, false, false},
		{"0:61 1:61 0:62 2: 1:61", put, false, false},
		{"1:61", "0:61", false, false},
		{"0:61 0:61 1:", "0:61 1: 1:", false, false},
		// Other data.
		{"1:62", put, false, false},
		{"1:", put, false, false},
		{"1:6161", put, false, false},
		{"2:00", put, false, false},
		{"2:", "2: 2:", true, false},
		{"2: 2:", "2: 2:", true, true},
	} {
		a, b := msgs(t, c.told), msgs(t, c.put)
		if got := Fits(a, b); got != c.fits {
			t.Errorf("Fits(%s; %s) is %v", c.told, c.put, got)
		}
		if got := All(a, b); got != c.all {
			t.Errorf("All(%s; %s) is %v", c.told, c.put, got)
		}
	}
}

func TestNoEntriesAreNil(t *testing.T) {
	some := []api.Msg{msg(0, "a")}
	for _, none := range [][]api.Msg{nil, {}, some[:0]} {
		for _, other := range [][]api.Msg{nil, {}, some[:0]} {
			if !Fits(none, other) || !All(none, other) {
				t.Errorf("nothing does not fit nothing: %v, %v", none, other)
			}
		}
		if !Fits(none, some) || All(none, some) || Fits(some, none) || All(some, none) {
			t.Errorf("%v is not as nothing is", none)
		}
	}
}

// byStream is each stream's messages as a text of its own, so that first ones are the beginning of a text.
func byStream(l []api.Msg) [api.MaxStreams]string {
	var out [api.MaxStreams]string
	for _, m := range l {
		out[m.Stream] += text.Print(m) + " "
	}
	return out
}

// lists are all lists of at most n messages of those of few.
func lists(few []api.Msg, n int) [][]api.Msg {
	out := [][]api.Msg{nil}
	from := 0
	for range n {
		to := len(out)
		for _, l := range out[from:to] {
			for _, m := range few {
				out = append(out, append(slices.Clone(l), m))
			}
		}
		from = to
	}
	return out
}

// All short lists, held against what texts say of them.
func TestFitsAndAllOfAllShortLists(t *testing.T) {
	all := lists([]api.Msg{msg(0, ""), msg(0, "a"), msg(1, "a"), msg(2, "a")}, 4)
	for _, a := range all {
		for _, b := range all {
			x, y := byStream(a), byStream(b)
			fits := true
			for s := range x {
				fits = fits && strings.HasPrefix(y[s], x[s])
			}
			if Fits(a, b) != fits || All(a, b) != (x == y) {
				t.Fatalf("told %s, put %s: %v, %v", told(a), told(b), Fits(a, b), All(a, b))
			}
		}
	}
}

func TestOfOfAllShortLists(t *testing.T) {
	for _, l := range lists([]api.Msg{msg(0, ""), msg(0, "a"), msg(1, "a"), msg(2, "a")}, 5) {
		for s, want := range byStream(l) {
			if got := told(Of(l, s)); got != strings.TrimSuffix(want, " ") {
				t.Fatalf("Of(%s, %d) is %s", told(l), s, got)
			}
		}
	}
}

func TestLongLists(t *testing.T) {
	var put []api.Msg
	for i := range 60000 {
		put = append(put, msg(i%3, string([]byte{byte(i), byte(i >> 8)})))
	}
	last := slices.Concat(Of(put, 2), Of(put, 1), Of(put, 0))
	if !Fits(last, put) || !All(last, put) || !Fits(last[:50000], put) || All(last[:50000], put) {
		t.Error("a long list does not fit itself, stream by stream")
	}
	last[59999].Data[0]++
	if Fits(last, put) || All(last, put) || !Fits(last[:59999], put) {
		t.Error("the last one of a long list does not count")
	}
}

// What is handed in, and the spare room behind it, is only read.
func TestCallsOnlyRead(t *testing.T) {
	const before = "0:6162 1:63 0:64 2:65"
	room := msgs(t, before)
	bytes := []byte("ab12")
	room[0].Data = bytes[:2]
	l := room[:2]
	Same(l[0], l[1])
	Of(l, 0)
	Fits(l, l)
	All(l, l)
	Fits(l[:1], l)
	if told(room) != before || string(bytes) != "ab12" {
		t.Errorf("what was handed in became %s, %q", told(room), bytes)
	}
	if got := told(Of(l, 0)); got != "0:6162" {
		t.Errorf("Of looks at the spare room: %s", got)
	}
	if Fits(msgs(t, "2:65"), l) || Fits(msgs(t, "0:616231"), l) {
		t.Error("Fits looks at the spare room")
	}
}

// What Of answers is new memory, its spare room too, and no two of its lists share any.
func TestOfAnswersNewMemory(t *testing.T) {
	const before = "0:61 0:62 1:63 0:64"
	l := msgs(t, before)
	l = append(l, l[0]) // one that shares its data
	got := Of(l, 0)
	got[0].Data[0] = 'x'
	if s := told(l); s != before+" 0:61" {
		t.Errorf("what was handed in became %s", s)
	}
	if s := told(got); s != "0:78 0:62 0:64 0:61" {
		t.Errorf("lists of one answer share memory: %s", s)
	}
	clear(l[0].Data)
	clear(l)
	if s := told(got); s != "0:78 0:62 0:64 0:61" {
		t.Errorf("what was answered became %s", s)
	}
	for i, m := range got {
		spare := m.Data[len(m.Data):cap(m.Data)]
		for j := range spare {
			spare[j] = byte(i + 1)
		}
	}
	if s := told(got); s != "0:78 0:62 0:64 0:61" {
		t.Errorf("spare room of one is another's: %s", s)
	}
}

// Of wrong messages nothing is promised, but that the calls end.
func TestWrongMessagesDoNotPanic(t *testing.T) {
	wrong := []api.Msg{msg(-1, "a"), msg(3, ""), msg(-1<<63, "1234567"), msg(1<<63-1, "a"), msg(0, "12345678")}
	for _, m := range wrong {
		Same(m, wrong[0])
		Of(wrong, m.Stream)
		Fits([]api.Msg{m}, wrong)
		Fits([]api.Msg{m}, nil)
		All(wrong, []api.Msg{m})
	}
}
