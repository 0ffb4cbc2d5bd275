package num

// Hash is described in doc/01-num.md.
func Hash(seed uint32, x, y, n int) uint32 {
	h := seed ^ 0x9e3779b9
	mix := func(i int) {
		h += uint32(i)
		h *= 0x85ebca6b
		h ^= h >> 13
		h *= 0xc2b2ae35
		h ^= h >> 16
	}
	mix(x)
	mix(y)
	mix(n)
	return h
}

// Unit is described in doc/01-num.md.
func Unit(h uint32) float32 { return float32(h>>8) * (1.0 / (1 << 24)) }
