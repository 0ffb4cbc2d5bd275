package num_test

import (
	"math"
	"testing"

	"dyehouse/num"
)

// wantHash works modulo 2^32 by remainders.
func wantHash(seed uint32, list ...int) uint32 {
	const modulus = 1 << 32
	h := uint64(seed ^ 0x9e3779b9)
	for _, i := range list {
		low := i % modulus
		if low < 0 {
			low += modulus
		}
		h = (h + uint64(low)) % modulus
		h = h * 0x85ebca6b % modulus
		h ^= h / (1 << 13)
		h = h * 0xc2b2ae35 % modulus
		h ^= h / (1 << 16)
	}
	return uint32(h)
}

func TestP11Hash(t *testing.T) {
	m := mixer{}
	list := []int{0, 1, 2, 3, -1, -2, 1 << 20, -1 << 20, math.MaxInt32, math.MinInt32, 1<<32 - 1, 1 << 32, 1<<32 + 5, -1<<32 - 1, math.MaxInt, math.MinInt}
	for range 2000 {
		pick := func() int { return list[int(m.next())%len(list)] }
		seed, x, y, n := m.next(), pick(), pick(), pick()
		if got, want := num.Hash(seed, x, y, n), wantHash(seed, x, y, n); got != want {
			t.Errorf("Hash(%d, %d, %d, %d): %08x, want %08x", seed, x, y, n, got, want)
		}
	}
	for c, want := range map[[4]int]uint32{
		{0, 0, 0, 0}:                           0x2c5aa77d,
		{1, 2, 3, 4}:                           0x47a5a39a,
		{4294967295, -1, -2, -3}:               0x8501e3af,
		{42, 1048576, -1048576, 1099511627776}: 0x4ca07654,
	} {
		if got := num.Hash(uint32(c[0]), c[1], c[2], c[3]); got != want {
			t.Errorf("Hash of %v: %08x, want %08x", c, got, want)
		}
	}
	if num.Hash(7, 1, 2, 3) != num.Hash(7, 1+1<<32, 2-1<<32, 3+5<<32) {
		t.Error("Hash uses more than the lowest 32 bits")
	}
	if num.Hash(7, 1, 2, 3) == num.Hash(7, 3, 2, 1) || num.Hash(7, 1, 2, 3) == num.Hash(8, 1, 2, 3) {
		t.Error("Hash has no order, or no seed")
	}
}

func TestP11Unit(t *testing.T) {
	for h, want := range map[uint32]float32{
		0: 0, 1: 0, 0xff: 0, 0x100: 0x1p-24, 0x1ff: 0x1p-24, 0x80000000: 0.5, 0x7fffffff: 0.5 - 0x1p-24,
		0xffffffff: 1 - 0x1p-24, 0xffffff00: 1 - 0x1p-24, 0xfffffeff: 1 - 0x1p-23, 0x12345678: 0x123456p-24,
	} {
		check(t, num.Unit(h), want, "Unit", h)
	}
}
