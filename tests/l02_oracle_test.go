package tests

import (
	"math/big"

	"loop.example/g01213/impl"
)

// The oracle of chapter 2 calculates each step with so many bits that only narrowing it rounds,
// which makes subnormal numbers right as well. It takes no infinite numbers.

func exactly(a float32) number { return new(big.Float).SetPrec(400).SetFloat64(float64(a)) }

func plus(a, b float32) float32  { return narrowed(exactly(a).Add(exactly(a), exactly(b))) }
func minus(a, b float32) float32 { return narrowed(exactly(a).Sub(exactly(a), exactly(b))) }
func times(a, b float32) float32 { return narrowed(exactly(a).Mul(exactly(a), exactly(b))) }
func over(a, b float32) float32  { return narrowed(exactly(a).Quo(exactly(a), exactly(b))) }
func rootOf(a float32) float32   { return narrowed(exactly(a).Sqrt(exactly(a))) }

func atMostOne(a float32) float32 {
	if a > 1 {
		return 1
	}
	return a
}

func oracleReflected(q float32) float32 {
	square := plus(times(q, q), times(2, q))
	return over(1, plus(plus(1, q), rootOf(square)))
}

func oracleRatio(r float32) float32 {
	return over(times(minus(1, r), minus(1, r)), times(2, r))
}

// oracleDoubled tells of a layer that is not too strong.
func oracleDoubled(k, s, thick float32) (float32, float32) {
	x := over(thick, 1024)
	r := times(s, x)
	t := minus(minus(1, times(k, x)), times(s, x))
	for range 10 {
		d, u := minus(1, times(r, r)), times(t, t)
		r, t = plus(r, over(times(u, r), d)), over(u, d)
	}
	return r, t
}

func oracleFilm(x impl.Layer) impl.Film {
	var f impl.Film
	for i := range f.R {
		f.R[i], f.T[i] = oracleDoubled(x.K[i], x.S[i], x.Thick)
	}
	f.B = f.R
	return f
}

// oracleBack is first + ((t * t) * r) / d, or 1 if this is less.
func oracleBack(first, t, r, d float32) float32 {
	return atMostOne(plus(first, over(times(times(t, t), r), d)))
}

func oracleAdded(f, g impl.Film) impl.Film {
	var both impl.Film
	for i := range both.R {
		d := minus(1, times(f.B[i], g.R[i]))
		both.R[i] = oracleBack(f.R[i], f.T[i], g.R[i], d)
		both.B[i] = oracleBack(g.B[i], g.T[i], f.B[i], d)
		both.T[i] = atMostOne(over(times(f.T[i], g.T[i]), d))
	}
	return both
}

func oracleOver(f impl.Film, backing impl.Curve) impl.Curve {
	var c impl.Curve
	for i, b := range backing {
		c[i] = oracleBack(f.R[i], f.T[i], b, minus(1, times(f.B[i], b)))
	}
	return c
}

func oracleLost(f impl.Film) impl.Curve {
	var c impl.Curve
	for i := range c {
		c[i] = max(0, minus(minus(1, f.R[i]), f.T[i]))
	}
	return c
}

// oracleThrough is told for bright greater than black.
func oracleThrough(black, bright, b float32) float32 {
	left := minus(1, times(black, b))
	return rootOf(over(times(minus(bright, black), left), b))
}

func oracleContrast(x impl.Layer) float32 {
	f := oracleFilm(x)
	white, black := oracleOver(f, impl.FlatCurve(1)), oracleOver(f, impl.FlatCurve(0))
	most := minus(white[0], black[0])
	for i := range white {
		most = max(most, minus(white[i], black[i]))
	}
	return most
}
