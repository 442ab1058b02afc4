package sum

import (
	"bytes"
	"math/big"
	"strings"
	"testing"
)

// samples are lists of many lengths, with bytes of all values among them.
func samples() [][]byte {
	all := make([]byte, 256)
	for i := range all {
		all[i] = byte(i)
	}
	out := [][]byte{nil, {}, {0}, {255}, {0, 0}, {0, 7}, []byte("ab"), []byte("hello"), all}
	for n := range 40 {
		l := make([]byte, n)
		for i := range l {
			l[i] = byte(i*i*31 + n*17)
		}
		out = append(out, l)
	}
	return out
}

// wholeSum works with numbers of any size, and takes the rest once, at the end.
func wholeSum(b []byte) int {
	s := big.NewInt(7)
	for _, x := range b {
		s.Mul(s, big.NewInt(139))
		s.Add(s, big.NewInt(int64(x)+1))
	}
	return int(s.Mod(s, big.NewInt(65521)).Int64())
}

func TestOfKnownSums(t *testing.T) {
	for _, c := range []struct {
		in   string
		want int
	}{
		{"", 7},
		{"\x00", 974},
		{"\xff", 1229},
		{"a", 1071},
		{"ab", 17926},
		{"hello", 20790},
		{strings.Repeat("\xff", 30), 48441},
	} {
		if got := Of([]byte(c.in)); got != c.want {
			t.Errorf("Of(%q) is %d, not %d", c.in, got, c.want)
		}
	}
	if got := Of(nil); got != 7 {
		t.Errorf("Of(nil) is %d, not 7", got)
	}
}

func TestOfIsTheWholeSumsRest(t *testing.T) {
	for _, b := range append(samples(), bytes.Repeat([]byte{255, 0, 128}, 2000)) {
		if got, want := Of(b), wholeSum(b); got != want {
			t.Errorf("Of(%d bytes) is %d, not %d", len(b), got, want)
		}
	}
}

func TestOfManyBytesStaysBelowTheModulus(t *testing.T) {
	if s := Of(bytes.Repeat([]byte{255}, 1<<20)); s < 0 || s >= 65521 {
		t.Errorf("the sum is %d", s)
	}
}

func TestSealPutsTheUpperByteFirst(t *testing.T) {
	for _, c := range []struct{ in, want []byte }{
		{nil, []byte{0, 7}},
		{[]byte{}, []byte{0, 7}},
		{[]byte("a"), []byte{'a', 4, 47}},
		{[]byte("ab"), []byte{'a', 'b', 70, 6}},
	} {
		if got := Seal(c.in); !bytes.Equal(got, c.want) {
			t.Errorf("Seal(%v) is %v, not %v", c.in, got, c.want)
		}
	}
}

func TestThereAndBack(t *testing.T) {
	for _, b := range samples() {
		got, ok := Open(Seal(b))
		if !ok || !bytes.Equal(got, b) {
			t.Errorf("Open(Seal(%v)) is %v, %v", b, got, ok)
		}
	}
}

func TestOpenFindsEachTurnedByte(t *testing.T) {
	for _, b := range samples()[:12] {
		sealed := Seal(b)
		for k := range sealed {
			for turn := 1; turn < 256; turn++ {
				c := bytes.Clone(sealed)
				c[k] ^= byte(turn)
				refuse(t, c)
			}
		}
	}
}

func TestOpenRefusesTooFewBytes(t *testing.T) {
	refuse(t, nil)
	refuse(t, []byte{})
	for x := range 256 {
		refuse(t, []byte{byte(x)})
	}
}

func TestOpenRefusesWhatIsCutOrSwapped(t *testing.T) {
	sealed := Seal([]byte("hello"))
	for k := range sealed {
		refuse(t, sealed[:k])
	}
	n := len(sealed)
	sealed[n-1], sealed[n-2] = sealed[n-2], sealed[n-1]
	refuse(t, sealed)
}

// Two bytes have room for numbers from the modulus on; none of them is a sum.
func TestOpenRefusesASumWithTheModulusMore(t *testing.T) {
	found := 0
	for x := range 256 {
		for y := range 256 {
			b := []byte{byte(x), byte(y), 0}
			if s := Of(b) + 65521; s < 1<<16 {
				found++
				refuse(t, append(b, byte(s>>8), byte(s)))
			}
		}
	}
	if found == 0 {
		t.Error("no list has so small a sum")
	}
	refuse(t, []byte{255, 248}) // 65521 and 7, where nothing is ahead
}

// refuse: b does not open, and nothing comes of it.
func refuse(t *testing.T, b []byte) {
	t.Helper()
	if got, ok := Open(b); ok || len(got) != 0 {
		t.Errorf("Open(%v) is %v, %v", b, got, ok)
	}
}

func TestWhatIsHandedInIsOnlyRead(t *testing.T) {
	room := append([]byte("ab"), Seal([]byte("ab"))...)
	room = append(room, 9, 9, 9, 9)
	before := bytes.Clone(room)
	Of(room[:2])
	Seal(room[:2])
	Seal(room[:0])
	Open(room[2:6])
	Open(room[:4])
	if !bytes.Equal(room, before) {
		t.Errorf("%v became %v", before, room)
	}
}

func TestSpareRoomIsNotLookedAt(t *testing.T) {
	room := Seal([]byte("ab"))
	if got := Of(room[:2]); got != 17926 {
		t.Errorf("Of is %d with spare room", got)
	}
	if got := Seal(room[:1]); !bytes.Equal(got, []byte{'a', 4, 47}) {
		t.Errorf("Seal is %v with spare room", got)
	}
	refuse(t, room[:3])
	refuse(t, room[:1])
}

func TestAnswersAreNewMemory(t *testing.T) {
	in := make([]byte, 2, 16)
	copy(in, "ab")
	sealed := Seal(in)
	opened, _ := Open(sealed)
	scribble(in)
	if want := []byte{'a', 'b', 70, 6}; !bytes.Equal(sealed, want) {
		t.Errorf("what Seal answered became %v", sealed)
	}
	scribble(sealed)
	if !bytes.Equal(opened, []byte("ab")) {
		t.Errorf("what Open answered became %v", opened)
	}
	sealed = Seal([]byte("ab"))
	opened, _ = Open(sealed)
	scribble(opened)
	if want := []byte{'a', 'b', 70, 6}; !bytes.Equal(sealed, want) {
		t.Errorf("what Open was given became %v", sealed)
	}
}

// scribble fills b, and the spare room behind it.
func scribble(b []byte) {
	b = b[:cap(b)]
	for i := range b {
		b[i] = 0xee
	}
}
