package list

import (
	"bytes"
	"slices"
	"testing"
)

func TestOwnCopiesEachInTurn(t *testing.T) {
	double := func(n int) int { return 2 * n }
	for _, c := range []struct{ l, want []int }{
		{nil, nil},
		{[]int{}, nil},
		{[]int{3}, []int{6}},
		{[]int{1, 0, -4, 1}, []int{2, 0, -8, 2}},
	} {
		if got := Own(c.l, double); !slices.Equal(got, c.want) {
			t.Errorf("Own(%v) is %v, not %v", c.l, got, c.want)
		}
	}
}

func TestOwnSharesNothing(t *testing.T) {
	room := [][]byte{[]byte("ab"), []byte("c"), []byte("spare")}
	l := room[:2]
	got := Own(l, bytes.Clone)
	got[0][0] = 'X'
	got[1] = nil
	got = append(got, []byte("Y"))
	if string(l[0]) != "ab" || string(l[1]) != "c" || string(room[2]) != "spare" {
		t.Errorf("the list is %q behind a change of its copy", room)
	}
	l[0][1] = 'Z'
	if string(got[0]) != "Xb" {
		t.Errorf("the copy is %q behind a change of the list", got)
	}
}
