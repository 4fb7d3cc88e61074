package seq

import (
	"math"
	"math/big"
	"math/rand"
	"testing"
)

const (
	half32 = 1 << 31
	half64 = 1 << 63
	top32  = 1<<32 - 1
	top64  = 1<<64 - 1
)

// edges32 are the numbers of 32 bits at which something may turn, and ordinary ones.
var edges32 = []uint32{0, 1, 2, 5, 6, 7, 1000, 123456789, half32 - 2, half32 - 1, half32, half32 + 1, half32 + 2, 3000000000, top32 - 5, top32 - 1, top32}

// edges64 are those of 64 bits, and those around multiples of 2^31 and 2^32.
var edges64 = []uint64{0, 1, 2, 5, 7, half32 - 1, half32, half32 + 1, top32 - 1, top32, top32 + 1, top32 + 6, 3 * half32, 1<<33 - 1, 1 << 33, 0x1234_5678_9abc_def0, half64 - 1<<32, half64 - half32, half64 - 2, half64 - 1, half64, half64 + 1, half64 + half32, half64 + 1<<32, top64 - top32, top64 - half32, top64 - half32 + 1, top64 - 1, top64}

// counts are what Plus and In may be asked with.
var counts = []int{math.MinInt64, math.MinInt64 + 1, -1 << 33, -1<<32 - 1, -1 << 32, -1<<32 + 1, -half32 - 1, -half32, -1000, -2, -1, 0, 1, 2, 5, 6, 1000, half32 - 1, half32, half32 + 1, top32 - 1, top32, top32 + 1, top32 + 2, 1 << 33, math.MaxInt64 - 1, math.MaxInt64}

// pairs32 calls f with each two edges, and with two of many others, always the same.
func pairs32(f func(a, b uint32)) {
	for _, a := range edges32 {
		for _, b := range edges32 {
			f(a, b)
		}
	}
	r := rand.New(rand.NewSource(1))
	for range 20000 {
		a := r.Uint32()
		f(a, r.Uint32())
		f(a, a+uint32(r.Intn(9))-4)
		f(a, a+half32+uint32(r.Intn(9))-4)
	}
}

// pairs64 is pairs32, of 64 bits.
func pairs64(f func(a, b uint64)) {
	for _, a := range edges64 {
		for _, b := range edges64 {
			f(a, b)
		}
	}
	r := rand.New(rand.NewSource(2))
	for range 20000 {
		a := r.Uint64()
		f(a, r.Uint64())
		f(a, a+uint64(r.Intn(9))-4)
		f(a, a+half64+uint64(r.Intn(9))-4)
	}
}

// distance is how often 1 must be added to a until it is b, of that many bits: by whole numbers that do not wrap around.
func distance(a, b uint64, bits uint) *big.Int {
	d := new(big.Int).Sub(new(big.Int).SetUint64(b), new(big.Int).SetUint64(a))
	if d.Sign() < 0 {
		d.Add(d, power(bits))
	}
	return d
}

func power(bits uint) *big.Int { return new(big.Int).Lsh(big.NewInt(1), bits) }

// signed is a distance as Gap and Far tell it.
func signed(d *big.Int, bits uint) *big.Int {
	if d.Cmp(power(bits-1)) >= 0 {
		return new(big.Int).Sub(d, power(bits))
	}
	return d
}

// P1.1

func TestBeforeExamples(t *testing.T) {
	for _, x := range []struct {
		a, b uint32
		want bool
	}{
		{5, 6, true}, {6, 5, false}, {5, 5, false}, {top32, 0, true}, {0, half32, false},
		{0, 0, false}, {top32, top32, false}, {0, top32, false}, {0, 1, true},
		{0, half32 - 1, true}, {half32 - 1, 0, false}, {0, half32 + 1, false}, {half32 + 1, 0, true},
		{half32, 0, false}, {half32, top32, true}, {top32, half32 - 2, true}, {top32, half32 - 1, false},
	} {
		if got := Before(x.a, x.b); got != x.want {
			t.Errorf("Before(%d, %d) = %v", x.a, x.b, got)
		}
	}
}

func TestBeforeIsDistance(t *testing.T) {
	pairs32(func(a, b uint32) {
		d := distance(uint64(a), uint64(b), 32).Int64()
		if got := Before(a, b); got != (d >= 1 && d <= half32-1) {
			t.Errorf("Before(%d, %d) = %v, distance %d", a, b, got, d)
		}
	})
}

func TestPlusExamples(t *testing.T) {
	for _, x := range []struct {
		a    uint32
		n    int
		want uint32
	}{
		{top32, 2, 1}, {0, -1, top32},
		{10, 4, 14}, {14, -4, 10}, {7, 0, 7}, {0, 0, 0}, {top32, 0, top32}, {top32, 1, 0}, {top32, -1, top32 - 1},
		{half32 - 1, 1, half32}, {half32, -1, half32 - 1}, {half32, half32, 0}, {half32, -half32, 0},
		{5, 1 << 32, 5}, {5, -1 << 32, 5}, {5, 1<<32 + 3, 8}, {5, -1<<32 - 6, top32},
		{5, math.MaxInt64, 4}, {5, math.MinInt64, 5}, {0, math.MinInt64 + 1, 1},
	} {
		if got := Plus(x.a, x.n); got != x.want {
			t.Errorf("Plus(%d, %d) = %d, not %d", x.a, x.n, got, x.want)
		}
	}
}

func TestPlusIsSum(t *testing.T) {
	for _, a := range edges32 {
		for _, n := range counts {
			want := new(big.Int).Add(new(big.Int).SetUint64(uint64(a)), big.NewInt(int64(n)))
			want.Mod(want, power(32))
			if got := Plus(a, n); uint64(got) != want.Uint64() {
				t.Errorf("Plus(%d, %d) = %d, not %d", a, n, got, want)
			}
		}
	}
}

func TestGapExamples(t *testing.T) {
	for _, x := range []struct {
		a, b uint32
		want int
	}{
		{top32, 1, 2}, {1, top32, -2}, {0, half32, -half32},
		{10, 14, 4}, {14, 10, -4}, {9, 9, 0}, {0, 0, 0}, {top32, top32, 0}, {0, top32, -1}, {top32, 0, 1},
		{0, half32 - 1, half32 - 1}, {half32 - 1, 0, 1 - half32}, {half32, 0, -half32}, {0, half32 + 1, 1 - half32},
		{half32, top32, half32 - 1}, {top32, half32 - 1, -half32},
	} {
		if got := Gap(x.a, x.b); got != x.want {
			t.Errorf("Gap(%d, %d) = %d, not %d", x.a, x.b, got, x.want)
		}
	}
}

func TestGapIsDistance(t *testing.T) {
	pairs32(func(a, b uint32) {
		want := signed(distance(uint64(a), uint64(b), 32), 32).Int64()
		if got := Gap(a, b); int64(got) != want {
			t.Errorf("Gap(%d, %d) = %d, not %d", a, b, got, want)
		}
	})
}

// P1.2

func TestInExamples(t *testing.T) {
	for _, x := range []struct {
		x, from uint32
		n       int
		at      int
		is      bool
	}{
		{3, top32 - 1, 6, 5, true}, {3, top32 - 1, 5, 0, false},
		{12, 10, 3, 2, true}, {12, 10, 2, 0, false}, {9, 10, 3, 0, false},
		{10, 10, 1, 0, true}, {10, 10, 0, 0, false}, {10, 10, -1, 0, false}, {12, 10, -1, 0, false},
		{9, 10, top32, 0, false}, {9, 10, 1 << 32, top32, true}, {9, 10, math.MaxInt64, top32, true},
		{0, 0, 1, 0, true}, {0, top32, 2, 1, true}, {top32, 0, top32, 0, false}, {top32, 0, 1 << 32, top32, true},
		{half32, 0, half32, 0, false}, {half32, 0, half32 + 1, half32, true}, {half32 - 1, 0, half32, half32 - 1, true},
		{5, 5, math.MinInt64, 0, false}, {4, 5, math.MinInt64, 0, false}, {4, 5, -1 << 32, 0, false}, {6, 5, -1<<32 + 2, 0, false},
	} {
		if at, is := In(x.x, x.from, x.n); at != x.at || is != x.is {
			t.Errorf("In(%d, %d, %d) = %d, %v", x.x, x.from, x.n, at, is)
		}
	}
}

func TestInIsDistance(t *testing.T) {
	pairs32(func(x, from uint32) {
		d := int(distance(uint64(from), uint64(x), 32).Int64())
		for _, n := range append([]int{d - 1, d, d + 1}, counts...) {
			want, is := 0, d < n
			if is {
				want = d
			}
			if at, got := In(x, from, n); at != want || got != is {
				t.Errorf("In(%d, %d, %d) = %d, %v", x, from, n, at, got)
			}
		}
	})
}

// P1.3

func TestExpandExamples(t *testing.T) {
	for _, x := range []struct {
		low  uint32
		near uint64
		want uint64
	}{
		{5, 1<<32 + top32, 1<<33 + 5}, {top32, 1<<32 + 5, top32}, {0, half32, 1 << 32},
		{7, 7, 7}, {9, 7, 9}, {5, 7, 5}, {5, 0x3_0000_0007, 0x3_0000_0005},
		{2, 0x5_ffff_fff0, 0x6_0000_0002}, {0xffff_fff0, 0x5_0000_0002, 0x4_ffff_fff0},
		// at either end of the 64 bits
		{0, 0, 0}, {top32, 0, top64}, {top32, 5, top64}, {half32 + 1, 0, top64 - half32 + 2}, {half32 - 1, 0, half32 - 1},
		{0, top64, 0}, {5, top64, 5}, {top32, top64, top64}, {half32 - 2, top64, half32 - 2}, {half32, top64, top64 - half32 + 1},
		// two candidates at the same distance
		{half32, 0, half32}, {half32 + 3, 3, half32 + 3}, {0, 3 * half32, 1 << 33}, {half32 - 1, top32, 1<<32 + half32 - 1},
		{half32 - 1, top64, half32 - 1}, {0, half64 + half32, half64 + 1<<32}, {0, top64 - half32 + 1, 0}, {half32, half64, half64 + half32},
		// one beside the same distance, on either side
		{1, half32, 1}, {top32, half32, top32}, {half32 + 1, 1 << 32, half32 + 1}, {half32 - 1, 1 << 32, 1<<32 + half32 - 1},
	} {
		if got := Expand(x.low, x.near); got != x.want {
			t.Errorf("Expand(%#x, %#x) = %#x, not %#x", x.low, x.near, got, x.want)
		}
	}
}

func TestExpandIsNearest(t *testing.T) {
	try := func(low uint32, near uint64) {
		got := Expand(low, near)
		forward, back := distance(near, got, 64), distance(got, near, 64)
		// The candidates are 2^32 apart: one is the nearest if it is at most half of that ahead, or less than that behind.
		if uint32(got) != low || forward.Cmp(power(31)) > 0 && back.Cmp(power(31)) >= 0 {
			t.Errorf("Expand(%#x, %#x) = %#x", low, near, got)
		}
	}
	for _, near := range edges64 {
		for _, low := range edges32 {
			try(low, near)
			try(uint32(near)+low, near)
		}
	}
	pairs64(func(a, b uint64) {
		try(uint32(a), b)
		try(uint32(b)+half32+uint32(a%3)-1, b)
	})
}

func TestFarExamples(t *testing.T) {
	for _, x := range []struct {
		a, b uint64
		want int
	}{
		{7, 5, -2}, {5, 7, 2}, {7, 7, 0}, {0, 0, 0}, {top64, top64, 0}, {top64, 0, 1}, {0, top64, -1}, {top64, 1, 2}, {1, top64, -2},
		{0, 1 << 32, 1 << 32}, {1 << 32, 0, -1 << 32}, {0, half32, half32}, {half32, 0, -half32}, {0, top32, top32},
		{0, half64 - 1, math.MaxInt64}, {half64 - 1, 0, -math.MaxInt64}, {0, half64, math.MinInt64}, {half64, 0, math.MinInt64},
		{0, half64 + 1, math.MinInt64 + 1}, {half64 + 1, 0, math.MaxInt64}, {half64, top64, math.MaxInt64}, {top64, half64 - 1, math.MinInt64},
	} {
		if got := Far(x.a, x.b); got != x.want {
			t.Errorf("Far(%d, %d) = %d, not %d", x.a, x.b, got, x.want)
		}
	}
}

func TestFarIsDistance(t *testing.T) {
	pairs64(func(a, b uint64) {
		want := signed(distance(a, b, 64), 64).Int64()
		if got := Far(a, b); int64(got) != want {
			t.Errorf("Far(%d, %d) = %d, not %d", a, b, got, want)
		}
	})
}

// P1.4

func TestBeforeIsOrderWithinHalf(t *testing.T) {
	steps := []int{0, 1, 2, 500, half32/2 - 1, half32 / 2, half32 - 2, half32 - 1}
	for _, from := range edges32 {
		for _, i := range steps {
			for _, k := range steps {
				if got := Before(Plus(from, i), Plus(from, k)); got != (i < k) {
					t.Errorf("from %d: Before of %d and %d = %v", from, i, k, got)
				}
			}
		}
	}
}

func TestPlusOfGapLeadsOn(t *testing.T) {
	pairs32(func(a, b uint32) {
		if got := Plus(a, Gap(a, b)); got != b {
			t.Errorf("Plus(%d, Gap to %d) = %d", a, b, got)
		}
	})
}

func TestExpandRestores(t *testing.T) {
	for _, near := range edges64 {
		for _, d := range []uint64{0, 1, 2, 1000, half32 - 2, half32 - 1} {
			for _, x := range []uint64{near + d, near - d} {
				if got := Expand(uint32(x), near); got != x {
					t.Errorf("Expand of %#x near %#x = %#x", x, near, got)
				}
			}
		}
	}
}

// The ways

func TestCandidatesMayBeLeft(t *testing.T) {
	var all []uint64
	for c := range candidates(5, 1<<32+7) {
		all = append(all, c)
	}
	if len(all) != 3 || all[0] != 1<<33+5 || all[1] != 1<<32+5 || all[2] != 5 {
		t.Error(all)
	}
	n := 0
	for range candidates(5, 1<<32+7) {
		n++
		break
	}
	if n != 1 {
		t.Error(n)
	}
}
