package amount

import (
	"math"
	"testing"

	"tollhouse/api"
)

const most = api.MaxMsat

func want(t *testing.T, name string, got int, e api.Errno, value int, errno api.Errno) {
	t.Helper()
	if got != value || e != errno {
		t.Errorf("%s = %d, %d, want %d, %d", name, got, e, value, errno)
	}
}

// P2.1: Add and Sub, their edges, and what they refuse; ErrArg goes ahead of ErrOver.
func TestAddSub(t *testing.T) {
	for _, c := range []struct {
		a, b   int
		sum    int
		sumErr api.Errno
		dif    int
		difErr api.Errno
	}{
		{0, 0, 0, api.OK, 0, api.OK},
		{5, 3, 8, api.OK, 2, api.OK},
		{3, 5, 8, api.OK, 0, api.ErrOver},
		{most, 0, most, api.OK, most, api.OK},
		{0, most, most, api.OK, 0, api.ErrOver},
		{most - 1, 1, most, api.OK, most - 2, api.OK},
		{most, 1, 0, api.ErrOver, most - 1, api.OK},
		{1, most, 0, api.ErrOver, 0, api.ErrOver},
		{most, most, 0, api.ErrOver, 0, api.OK},
		{-1, 0, 0, api.ErrArg, 0, api.ErrArg},
		{0, -1, 0, api.ErrArg, 0, api.ErrArg},
		{most, -1, 0, api.ErrArg, 0, api.ErrArg},
		{-1, most, 0, api.ErrArg, 0, api.ErrArg},
		{math.MinInt, math.MinInt, 0, api.ErrArg, 0, api.ErrArg},
		{math.MinInt, 1, 0, api.ErrArg, 0, api.ErrArg},
	} {
		sum, e := Add(c.a, c.b)
		want(t, "Add", sum, e, c.sum, c.sumErr)
		dif, e := Sub(c.a, c.b)
		want(t, "Sub", dif, e, c.dif, c.difErr)
	}
}

// P2.1: Sum, of none too; ErrArg goes ahead of ErrOver wherever it stands.
func TestSum(t *testing.T) {
	for _, c := range []struct {
		l    []int
		sum  int
		want api.Errno
	}{
		{nil, 0, api.OK},
		{[]int{}, 0, api.OK},
		{[]int{7}, 7, api.OK},
		{[]int{most}, most, api.OK},
		{[]int{1, 2, 3, 4}, 10, api.OK},
		{[]int{most - 3, 1, 0, 2}, most, api.OK},
		{[]int{most - 3, 1, 1, 2}, 0, api.ErrOver},
		{[]int{most, most, most}, 0, api.ErrOver},
		{[]int{-1}, 0, api.ErrArg},
		{[]int{-1, most, most}, 0, api.ErrArg},
		{[]int{most, 1, -1}, 0, api.ErrArg},
		{[]int{5, math.MinInt, 5}, 0, api.ErrArg},
	} {
		got, e := Sum(c.l...)
		want(t, "Sum", got, e, c.sum, c.want)
	}
}

// P2.3: the greater parts come first; what may not be is 0.
func TestShare(t *testing.T) {
	for _, c := range []struct{ x, n, i, want int }{
		{10, 3, 0, 4},
		{10, 3, 1, 3},
		{10, 3, 2, 3},
		{11, 3, 1, 4},
		{2, 4, 1, 1},
		{2, 4, 2, 0},
		{0, 5, 0, 0},
		{most, 1, 0, most},
		{most, 2, 0, most/2 + 1},
		{most, 2, 1, most / 2},
		{131072, 65536, 65535, 2},
		{131073, 65536, 0, 3},
		{131073, 65537, 0, 0},
		{10, 3, 3, 0},
		{10, 3, -1, 0},
		{10, 0, 0, 0},
		{10, -3, 0, 0},
		{10, -3, -4, 0},
		{-10, 3, 0, 0},
		{math.MinInt, -1, -2, 0},
		{most, math.MaxInt, math.MaxInt, 0},
		{most, math.MinInt, math.MinInt, 0},
	} {
		if got := Share(c.x, c.n, c.i); got != c.want {
			t.Errorf("Share(%d, %d, %d) = %d, want %d", c.x, c.n, c.i, got, c.want)
		}
	}
}

// P2.5: shares sum up to the whole, do not rise, and differ by 1 at most.
func TestSharesAreLike(t *testing.T) {
	for _, n := range []int{1, 2, 3, 7, 16, 255, 65535, 65536} {
		for _, x := range []int{0, 1, n - 1, n, n + 1, 1000003, 1 << 40, most - 1, most} {
			first, last, sum := Share(x, n, 0), Share(x, n, n-1), 0
			ahead := first
			for i := range n {
				part := Share(x, n, i)
				if part > ahead {
					t.Fatalf("Share(%d, %d, %d) = %d rises", x, n, i, part)
				}
				ahead = part
				sum += part
			}
			if sum != x || first-last > 1 {
				t.Errorf("%d in %d parts: from %d to %d, in all %d", x, n, first, last, sum)
			}
		}
	}
}
