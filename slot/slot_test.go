package slot

import (
	"math"
	"slices"
	"testing"

	"lanekeeper/api"
)

func TestWhose(t *testing.T) {
	for _, c := range []struct {
		tick, tenants, want int
		err                 api.Errno
	}{
		{0, 1, 0, api.OK},
		{5, 1, 0, api.OK},
		{0, 2, 0, api.OK},
		{1, 2, 1, api.OK},
		{6, 2, 0, api.OK},
		{0, 3, 0, api.OK},
		{2, 3, 2, api.OK},
		{3, 3, 0, api.OK},
		{7, 3, 1, api.OK},
		{math.MaxInt, 1, 0, api.OK},
		{math.MaxInt, 2, 1, api.OK},
		{math.MaxInt, 3, math.MaxInt % 3, api.OK},
		{-1, 2, 0, api.ErrRange},
		{-1, 1, 0, api.ErrRange},
		{math.MinInt, 3, 0, api.ErrRange},
		{7, 0, 0, api.ErrRange},
		{7, -1, 0, api.ErrRange},
		{7, -3, 0, api.ErrRange},
		{7, math.MinInt, 0, api.ErrRange},
		{7, api.MaxTenants + 1, 0, api.ErrRange},
		{7, math.MaxInt, 0, api.ErrRange},
		{-1, 0, 0, api.ErrRange},
		{-5, 4, 0, api.ErrRange},
	} {
		who, err := Whose(c.tick, c.tenants)
		if who != c.want || err != c.err {
			t.Errorf("Whose(%d, %d) is %d, %d, not %d, %d", c.tick, c.tenants, who, err, c.want, c.err)
		}
	}
}

// Any ticks in turn, as many as there are tenants, are one of each.
func TestWhoseIsEachOnesOnce(t *testing.T) {
	for tenants := 1; tenants <= api.MaxTenants; tenants++ {
		for from := range 20 {
			had := make([]int, tenants)
			for tick := from; tick < from+tenants; tick++ {
				who, err := Whose(tick, tenants)
				if err != api.OK || who < 0 || who >= tenants {
					t.Fatalf("Whose(%d, %d) is %d, %d", tick, tenants, who, err)
				}
				had[who]++
			}
			if slices.Min(had) != 1 || slices.Max(had) != 1 {
				t.Errorf("of %d ticks from %d on the tenants have %v", tenants, from, had)
			}
		}
	}
}

func TestMine(t *testing.T) {
	for _, c := range []struct {
		from, many, tenants, tenant int
		want                        []int
	}{
		{0, 7, 3, 0, []int{0, 3, 6}},
		{0, 7, 3, 1, []int{1, 4}},
		{0, 7, 3, 2, []int{2, 5}},
		{4, 7, 3, 0, []int{6, 9}},
		{4, 1, 3, 1, []int{4}},
		{4, 1, 3, 0, nil},
		{4, 2, 3, 0, nil},
		{4, 3, 3, 0, []int{6}},
		{5, 4, 2, 1, []int{5, 7}},
		{5, 3, 1, 0, []int{5, 6, 7}},
		{0, 0, 2, 0, nil},
		{0, -1, 2, 0, nil},
		{3, -7, 2, 1, nil},
		{-3, 3, 1, 0, nil},
		{-3, 4, 1, 0, []int{0}},
		{-3, 6, 2, 1, []int{1}},
		{-3, 8, 3, 1, []int{1, 4}},
		{0, 7, 3, 3, nil},
		{0, 7, 3, -1, nil},
		{0, 7, 1, 1, nil},
		{0, 7, 0, 0, nil},
		{0, 7, -2, 0, nil},
		{0, 7, -2, -1, nil},
		{0, 7, 4, 0, nil},
		{0, 7, math.MaxInt, 0, nil},
	} {
		if got := Mine(c.from, c.many, c.tenants, c.tenant); !slices.Equal(got, c.want) {
			t.Errorf("Mine(%d, %d, %d, %d) is %v, not %v", c.from, c.many, c.tenants, c.tenant, got, c.want)
		}
	}
}

// walked is Mine, tick by tick.
func walked(from, many, tenants, tenant int) []int {
	var out []int
	for i := 0; i < many; i++ {
		if who, err := Whose(from+i, tenants); err == api.OK && who == tenant {
			out = append(out, from+i)
		}
	}
	return out
}

func TestMineTickByTick(t *testing.T) {
	for from := -8; from < 8; from++ {
		for many := -2; many < 14; many++ {
			for tenants := -1; tenants <= api.MaxTenants+1; tenants++ {
				for tenant := -2; tenant <= api.MaxTenants+1; tenant++ {
					got, want := Mine(from, many, tenants, tenant), walked(from, many, tenants, tenant)
					if !slices.Equal(got, want) {
						t.Errorf("Mine(%d, %d, %d, %d) is %v, not %v", from, many, tenants, tenant, got, want)
					}
				}
			}
		}
	}
}

// At the ends of the numbers no tick is told that is not one of the many, and no call takes long.
func TestMineFarOut(t *testing.T) {
	const last = math.MaxInt
	for _, c := range []struct {
		from, many, tenants, tenant int
		want                        []int
	}{
		{last, 1, 1, 0, []int{last}},
		{last, 2, 1, 0, []int{last}},
		{last, math.MaxInt, 1, 0, []int{last}},
		{last, math.MaxInt, 2, 0, nil},
		{last, math.MaxInt, 3, last % 3, []int{last}},
		{last, math.MaxInt, 3, (last - 1) % 3, nil},
		{last - 3, 3, 2, 1, []int{last - 2}},
		{last - 3, 4, 2, 1, []int{last - 2, last}},
		{last - 3, 5, 2, 1, []int{last - 2, last}},
		{last - 3, math.MaxInt, 2, 0, []int{last - 3, last - 1}},
		{last - 3, math.MaxInt, 3, last % 3, []int{last - 3, last}},
		{last - 3, math.MinInt, 3, 0, nil},
		{math.MinInt, math.MaxInt, 1, 0, nil},
		{math.MinInt, math.MinInt, 1, 0, nil},
		{math.MinInt, 1, 1, 0, nil},
		{-math.MaxInt, math.MaxInt, 1, 0, nil},
		{1 - math.MaxInt, math.MaxInt, 1, 0, []int{0}},
		{5 - math.MaxInt, math.MaxInt, 2, 1, []int{1, 3}},
		{0, math.MaxInt, 3, 3, nil},
		{0, math.MaxInt, 3, -1, nil},
		{0, math.MaxInt, 4, 0, nil},
		{0, math.MaxInt, 0, 0, nil},
		{0, math.MinInt, 1, 0, nil},
	} {
		if got := Mine(c.from, c.many, c.tenants, c.tenant); !slices.Equal(got, c.want) {
			t.Errorf("Mine(%d, %d, %d, %d) is %v, not %v", c.from, c.many, c.tenants, c.tenant, got, c.want)
		}
	}
}

// Of lists beyond the document's limits nothing is promised, but the call ends.
func TestMineBeyondLimits(t *testing.T) {
	for _, from := range []int{math.MinInt / 2, 0, 1} {
		for tenants := 1; tenants <= api.MaxTenants; tenants++ {
			if got := Mine(from, math.MaxInt, tenants, 0); len(got) != 0 {
				t.Errorf("Mine(%d, %d, %d, 0) has %d ticks", from, math.MaxInt, tenants, len(got))
			}
		}
	}
}

// The tenants share out the ticks: each is of one of them, and of one only.
func TestMineSharesOut(t *testing.T) {
	for tenants := 1; tenants <= api.MaxTenants; tenants++ {
		for from := range 7 {
			for many := range 12 {
				var all, want []int
				for tenant := range tenants {
					all = append(all, Mine(from, many, tenants, tenant)...)
				}
				for i := range many {
					want = append(want, from+i)
				}
				slices.Sort(all)
				if !slices.Equal(all, want) {
					t.Errorf("of %d ticks from %d on %d tenants have %v", many, from, tenants, all)
				}
			}
		}
	}
}

// What is answered is the caller's, its spare room too.
func TestMineIsTheCallers(t *testing.T) {
	a, b := Mine(0, 9, 3, 1), Mine(0, 9, 3, 1)
	a[0] = -1
	a = append(a, -2)
	_ = a
	if want := []int{1, 4, 7}; !slices.Equal(b, want) || !slices.Equal(Mine(0, 9, 3, 1), want) {
		t.Errorf("behind a change of what another call answered it is %v, then %v", b, Mine(0, 9, 3, 1))
	}
}
