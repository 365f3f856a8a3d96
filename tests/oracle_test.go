package tests

import (
	"math/big"

	"loop.example/g01213/impl"
)

// The oracle calculates chapter 1 with big numbers of 24 (narrow) or 53 (wide) bits, each step rounded once,
// so that a fused step, a wide step where a narrow one is asked for, or another order of sums is found.
// It has no subnormal or infinite numbers: tests with these write the bits that they want.

type rounding struct{ bits uint }

var (
	narrow = rounding{24}
	wide   = rounding{53}
)

type number = *big.Float

func (r rounding) fresh() number {
	return new(big.Float).SetPrec(r.bits).SetMode(big.ToNearestEven)
}

func (r rounding) of(a float64) number    { return r.fresh().SetFloat64(a) }
func (r rounding) add(a, b number) number { return r.fresh().Add(a, b) }
func (r rounding) sub(a, b number) number { return r.fresh().Sub(a, b) }
func (r rounding) mul(a, b number) number { return r.fresh().Mul(a, b) }
func (r rounding) quo(a, b number) number { return r.fresh().Quo(a, b) }
func (r rounding) root(a number) number   { return r.fresh().Sqrt(a) }

func narrowed(a number) float32 {
	b, _ := a.Float32()
	return b
}

func numbersOf(c impl.Curve) []number {
	var list []number
	for _, a := range c {
		list = append(list, narrow.of(float64(a)))
	}
	return list
}

func curveOf(list []number) impl.Curve {
	var c impl.Curve
	for i, a := range list {
		c[i] = narrowed(a)
	}
	return c
}

func oracleProducts(c, d []number) []number {
	var list []number
	for i := range c {
		list = append(list, narrow.mul(c[i], d[i]))
	}
	return list
}

func oracleSum(list []number) number {
	sum := list[0]
	for _, a := range list[1:] {
		sum = narrow.add(sum, a)
	}
	return sum
}

func oracleDot(c, d []number) number { return oracleSum(oracleProducts(c, d)) }

func oracleMix(c, d []number, share float32) []number {
	b := narrow.of(float64(share))
	a := narrow.sub(narrow.of(1), b)
	var list []number
	for i := range c {
		list = append(list, narrow.add(narrow.mul(c[i], a), narrow.mul(d[i], b)))
	}
	return list
}

func oracleBump(place, width float32) []number {
	var list []number
	for i := range 16 {
		x := narrow.quo(narrow.sub(narrow.of(float64(i)), narrow.of(float64(place))), narrow.of(float64(width)))
		z := narrow.add(narrow.of(1), narrow.mul(x, x))
		list = append(list, narrow.quo(narrow.of(1), narrow.mul(z, z)))
	}
	return list
}

func oracleObservers() [3][]number {
	long, low, short := oracleBump(10.5, 3), oracleBump(2.5, 2), oracleBump(3, 2)
	for i := range long {
		long[i] = narrow.add(long[i], narrow.mul(narrow.of(0.25), low[i]))
		short[i] = narrow.mul(narrow.of(1.5), short[i])
	}
	return [3][]number{long, oracleBump(8, 3), short}
}

func oracleLight(warmth float32) []number {
	var list []number
	for i := range 16 {
		x := narrow.quo(narrow.sub(narrow.of(float64(i)), narrow.of(7.5)), narrow.of(8))
		list = append(list, narrow.add(narrow.of(1), narrow.mul(narrow.of(float64(warmth)), x)))
	}
	return list
}

func oracleSeen(light, c []number) impl.Three {
	observers := oracleObservers()
	lit := oracleProducts(light, c)
	var seen impl.Three
	for i, o := range observers {
		seen[i] = narrowed(narrow.quo(oracleDot(o, lit), oracleDot(observers[1], light)))
	}
	return seen
}

func oracleCubeRoot(a float32) float32 {
	if a == 0 {
		return 0
	}
	b, x := wide.of(float64(a)), wide.of(1)
	b.Abs(b)
	for b.Cmp(wide.of(8)) >= 0 {
		b, x = wide.quo(b, wide.of(8)), wide.mul(x, wide.of(2))
	}
	for b.Cmp(wide.of(1)) < 0 {
		b, x = wide.mul(b, wide.of(8)), wide.quo(x, wide.of(2))
	}
	r := wide.of(1.5)
	for range 6 {
		above := wide.sub(wide.mul(wide.mul(r, r), r), b)
		below := wide.mul(wide.mul(wide.of(3), r), r)
		r = wide.sub(r, wide.quo(above, below))
	}
	if a < 0 {
		return -narrowed(wide.mul(r, x))
	}
	return narrowed(wide.mul(r, x))
}

// oraclePower is told for a greater than 0.
func oraclePower(a, exponent float32) (float32, int64) {
	ln2 := wide.of(0.6931471805599453)
	z, e := wide.of(float64(a)), 0
	for z.Cmp(wide.of(2)) >= 0 {
		z, e = wide.quo(z, wide.of(2)), e+1
	}
	for z.Cmp(wide.of(1)) < 0 {
		z, e = wide.mul(z, wide.of(2)), e-1
	}
	u := wide.quo(wide.sub(z, wide.of(1)), wide.add(z, wide.of(1)))
	v := wide.mul(u, u)
	s := wide.of(0)
	for m := 14; m >= 0; m-- {
		s = wide.add(wide.quo(wide.of(1), wide.of(float64(2*m+1))), wide.mul(v, s))
	}
	logarithm := wide.add(wide.of(float64(e)), wide.quo(wide.mul(wide.mul(wide.of(2), u), s), ln2))
	t := wide.mul(logarithm, wide.of(float64(exponent)))
	if t.Cmp(wide.of(120)) > 0 {
		return 0, impl.ErrRange
	}
	if t.Cmp(wide.of(-120)) < 0 {
		return 0, impl.OK
	}
	k := -121
	for wide.of(float64(k+1)).Cmp(t) <= 0 {
		k++
	}
	y := wide.mul(wide.sub(t, wide.of(float64(k))), ln2)
	p := wide.of(1)
	for m := 14; m >= 1; m-- {
		p = wide.add(wide.of(1), wide.mul(wide.quo(y, wide.of(float64(m))), p))
	}
	return narrowed(p.SetMantExp(p, k)), impl.OK
}

func oracleLook(seen impl.Three) impl.Three {
	var f [3]number
	for i, a := range seen {
		f[i] = narrow.of(float64(oracleCubeRoot(a)))
	}
	return impl.Three{
		narrowed(narrow.sub(narrow.mul(narrow.of(116), f[1]), narrow.of(16))),
		narrowed(narrow.mul(narrow.of(500), narrow.sub(f[0], f[1]))),
		narrowed(narrow.mul(narrow.of(200), narrow.sub(f[1], f[2]))),
	}
}

// oracleSquares has the squares of the differences.
func oracleSquares(u, v impl.Three) [3]number {
	var list [3]number
	for i := range u {
		d := narrow.sub(narrow.of(float64(u[i])), narrow.of(float64(v[i])))
		list[i] = narrow.mul(d, d)
	}
	return list
}

func oracleDistance(u, v impl.Three) float32 {
	d := oracleSquares(u, v)
	return narrowed(narrow.root(narrow.add(narrow.add(d[0], d[1]), d[2])))
}

func oracleDifference(u, v impl.Three) float32 {
	size := oracleSquares(u, impl.Three{})
	colourful := narrow.root(narrow.add(size[1], size[2]))
	a := narrow.add(narrow.of(1), narrow.mul(narrow.of(0.01), colourful))
	d := oracleSquares(u, v)
	colours := narrow.quo(narrow.add(d[1], d[2]), narrow.mul(a, a))
	return narrowed(narrow.root(narrow.add(d[0], colours)))
}
