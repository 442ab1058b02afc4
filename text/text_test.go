package text

import (
	"bytes"
	"strings"
	"testing"

	"lanekeeper/api"
	"lanekeeper/chunk"
)

func msg(stream int, data string) api.Msg {
	return api.Msg{Stream: stream, Data: []byte(data)}
}

// same: whether both fields are, nil and empty being one.
func same(a, b api.Msg) bool {
	return a.Stream == b.Stream && bytes.Equal(a.Data, b.Data)
}

// rightMsgs are messages of every stream and length, with every byte at every place.
func rightMsgs() []api.Msg {
	var out []api.Msg
	for stream := range 3 {
		out = append(out, api.Msg{Stream: stream}, msg(stream, ""))
		for n := 1; n <= 6; n++ {
			for place := range n {
				for x := range 256 {
					m := msg(stream, "\x10\x02\xff\x00az"[:n])
					m.Data[place] = byte(x)
					out = append(out, m)
				}
			}
		}
	}
	return out
}

var known = []struct {
	m api.Msg
	s string
}{
	{msg(0, ""), "0:"},
	{msg(1, ""), "1:"},
	{msg(2, ""), "2:"},
	{msg(2, "ab"), "2:6162"},
	{msg(0, "\x00"), "0:00"},
	{msg(0, "\x09\x90"), "0:0990"},
	{msg(1, "\x0a\xa0\x0f\xf0"), "1:0aa00ff0"},
	{msg(0, "\xff\xff\xff\xff\xff\xff"), "0:ffffffffffff"},
	{msg(1, "\x12\x34\x56\x78\x9a\xbc"), "1:123456789abc"},
	{msg(2, "\xde\xf0:2:"), "2:def03a323a"},
	{msg(1, "é€"), "1:c3a9e282ac"}, // bytes, not runes
}

func TestPrintOfKnownMessages(t *testing.T) {
	for _, c := range known {
		if got := Print(c.m); got != c.s {
			t.Errorf("Print(%v) is %q, not %q", c.m, got, c.s)
		}
	}
	if got := Print(api.Msg{}); got != "0:" {
		t.Errorf("Print of the empty message is %q", got)
	}
}

func TestParseOfKnownTexts(t *testing.T) {
	for _, c := range known {
		if got, err := Parse(c.s); err != api.OK || !same(got, c.m) {
			t.Errorf("Parse(%q) is %v, %d, not %v", c.s, got, err, c.m)
		}
	}
}

func TestThereAndBack(t *testing.T) {
	for _, m := range rightMsgs() {
		if got, err := Parse(Print(m)); err != api.OK || !same(got, m) {
			t.Fatalf("Parse(Print(%v)) is %v, %d", m, got, err)
		}
	}
}

func TestWhatIsUnlikeLooksUnlike(t *testing.T) {
	seen := map[string]api.Msg{}
	for _, m := range rightMsgs() {
		s := Print(m)
		if other, ok := seen[s]; ok && !same(other, m) {
			t.Fatalf("%v and %v look alike: %q", other, m, s)
		}
		seen[s] = m
	}
}

// refuse: that error comes of s, and the zero message beside it.
func refuse(t *testing.T, s string, want api.Errno) {
	t.Helper()
	got, err := Parse(s)
	if err != want || !same(got, api.Msg{}) {
		t.Errorf("Parse(%q) is %v, %d, not %d", s, got, err, want)
	}
}

func TestParseRefusesWhatIsNotSoWritten(t *testing.T) {
	for _, s := range []string{
		"", "0", ":", "::", "61", ":61", "0 61", "0;61", "0::", "0:61:62", "0:61:",
		"00:61", "10:61", "-1:61", "+1:61", "x:61", "a:61", "f:", "A:61", " :61", "/:61", "\x00:61", "é:61", "٣:61",
		" 0:61", "0:61 ", "0 :61", "0: 61", "0:61\n", "\n0:61", "0:61\x00", "0:6 1",
		"0:6", "0:616", "0:6g", "0:g6", "0:6A", "0:A6", "0:6F", "0:0x61", "0:-1", "0:+1", "0:6.", "0:/0", "0:0/", "0:`0", "0:0@", "0:é",
		"0:61\xff", "\xff:61", "0:\xff\xff",
	} {
		refuse(t, s, api.ErrForm)
	}
}

// Each byte but the right ones, at each place of a text.
func TestParseRefusesEachWrongByte(t *testing.T) {
	const right = "1:0f9a"
	const ten = "0123456789"
	for place := range len(right) {
		fitting := ten + "abcdef"
		switch place {
		case 0:
			fitting = ten
		case 1:
			fitting = ":"
		}
		for x := range 256 {
			s := right[:place] + string([]byte{byte(x)}) + right[place+1:]
			if strings.IndexByte(fitting, byte(x)) < 0 {
				refuse(t, s, api.ErrForm)
			} else if _, err := Parse(s); err == api.ErrForm {
				t.Errorf("Parse(%q) is refused by its form", s)
			}
		}
	}
}

func TestParseRefusesWrongMessages(t *testing.T) {
	for _, c := range []struct {
		s    string
		want api.Errno
	}{
		{"3:", api.ErrRange},
		{"3:61", api.ErrRange},
		{"4:61", api.ErrRange},
		{"9:", api.ErrRange},
		{"9:616263646566", api.ErrRange},
		{"0:01020304050607", api.ErrMuch},
		{"2:" + strings.Repeat("00", 5000), api.ErrMuch},
		// Several fit: the form goes first, then the stream.
		{"3:01020304050607", api.ErrRange},
		{"3:6", api.ErrForm},
		{"9:6G", api.ErrForm},
		{"0:0102030405060", api.ErrForm},
		{"0:010203040506070", api.ErrForm},
		{"0:0102030405060G", api.ErrForm},
		{"3:010203040506070G", api.ErrForm},
		{"0:" + strings.Repeat("00", 5000) + "0", api.ErrForm},
		{"0:" + strings.Repeat("00", 5000) + "0x", api.ErrForm},
	} {
		refuse(t, c.s, c.want)
	}
}

// What is parsed without an error is right, and is printed as it was written.
func TestReadAndWrittenAgain(t *testing.T) {
	texts := []string{""}
	for range 7 {
		var longer []string
		for _, s := range texts {
			m, err := Parse(s)
			if err == api.OK && (chunk.WrongMsg(m) != api.OK || Print(m) != s) {
				t.Fatalf("Parse(%q) is %v", s, m)
			}
			for _, x := range ":02a9F" {
				longer = append(longer, s+string(x))
			}
		}
		texts = longer
	}
}

func TestPrintOnlyReads(t *testing.T) {
	room := []byte("ab1234")
	m := api.Msg{Stream: 2, Data: room[:2]}
	if got := Print(m); got != "2:6162" {
		t.Errorf("Print is %q with spare room", got)
	}
	if string(room) != "ab1234" {
		t.Errorf("what was handed in became %q", room)
	}
	s := Print(m)
	clear(room)
	if s != "2:6162" {
		t.Errorf("what was answered became %q", s)
	}
}

func TestParseAnswersNewMemory(t *testing.T) {
	a, _ := Parse("2:6162")
	b, _ := Parse("2:6162")
	clear(a.Data[:cap(a.Data)])
	if again, err := Parse("2:6162"); err != api.OK || !same(again, msg(2, "ab")) || !same(b, again) {
		t.Errorf("answers share memory: %v, %v", b, again)
	}
}

// Nothing is promised of what a wrong message looks like, but that it is told.
func TestPrintOfWrongMessagesDoesNotPanic(t *testing.T) {
	for _, stream := range []int{-1, 3, 10, -1 << 63, 1<<63 - 1} {
		Print(msg(stream, "1234567"))
	}
}
