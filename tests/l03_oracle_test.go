package tests

import (
	"math/big"

	"loop.example/g01213/impl"
)

// The oracle of chapter 3 uses the steps of chapter 2's, each of which rounds once.

func oracleParts(d impl.Drops) impl.Parts {
	total := float32(0)
	for _, n := range d {
		total += float32(n)
	}
	var parts impl.Parts
	for i, n := range d {
		parts[i] = over(float32(n), total)
	}
	return parts
}

func oracleMixed(x impl.Shelf, parts impl.Parts) impl.Layer {
	m := impl.Layer{Thick: 1}
	for w := range m.K {
		m.K[w] = times(parts[0], x.Pigments[0].K[w])
		m.S[w] = times(parts[0], x.Pigments[0].S[w])
		for i, p := range x.Pigments[1:] {
			m.K[w] = plus(m.K[w], times(parts[i+1], p.K[w]))
			m.S[w] = plus(m.S[w], times(parts[i+1], p.S[w]))
		}
	}
	return m
}

func oracleThick(k, s impl.Curve) impl.Curve {
	var c impl.Curve
	for w := range c {
		switch {
		case s[w] == 0:
			c[w] = 0
		case k[w] == 0:
			c[w] = 1
		default:
			c[w] = oracleReflected(over(k[w], s[w]))
		}
	}
	return c
}

func oraclePaint(x impl.Shelf, d impl.Drops) impl.Curve {
	m := oracleMixed(x, oracleParts(d))
	return oracleThick(m.K, m.S)
}

func oracleOff(c, d impl.Curve) float32 {
	var sum float32
	for w := range c {
		off := minus(c[w], d[w])
		if w == 0 {
			sum = times(off, off)
		} else {
			sum = plus(sum, times(off, off))
		}
	}
	return sum
}

func oracleNearest(x impl.Shelf, c impl.Curve) int64 {
	nearest := 0
	off := func(p impl.Pigment) float32 { return oracleOff(oracleThick(p.K, p.S), c) }
	for i, p := range x.Pigments {
		if off(p) < off(x.Pigments[nearest]) {
			nearest = i
		}
	}
	return int64(nearest)
}

// waysToPour returns how many lists of count numbers have a total.
func waysToPour(count, total int64) int64 {
	return new(big.Int).Binomial(total+count-1, count-1).Int64()
}
