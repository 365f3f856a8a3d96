package tests

import (
	"math"

	"loop.example/g01213/impl"
)

// The oracle of chapter 5 uses the steps of chapter 2's, each of which rounds once.

// oracleHas reports whether the key with a number has an ink.
func oracleHas(n, ink int) bool { return n/(1<<ink)%2 == 1 }

func oracleOverprint(p impl.Press, n int) impl.Curve {
	c := p.Paper
	for i := range 4 {
		for w := range c {
			if oracleHas(n, i) {
				c[w] = times(c[w], p.Inks[i][w])
			}
		}
	}
	return c
}

func oracleGrown(gain, a float32) float32 {
	return atMostOne(plus(a, times(4, times(times(gain, a), minus(1, a)))))
}

func oracleBefore(gain, a float32) float32 {
	low, high := float32(0), float32(1)
	for range 20 {
		m := times(0.5, plus(low, high))
		if oracleGrown(gain, m) < a {
			low = m
		} else {
			high = m
		}
	}
	return high
}

func oracleGrownCover(gain float32, c impl.Cover) impl.Cover {
	for i, a := range c {
		c[i] = oracleGrown(gain, a)
	}
	return c
}

func oracleAreas(c impl.Cover) [16]float32 {
	var areas [16]float32
	for n := range areas {
		var factors [4]float32
		for i, a := range c {
			factors[i] = minus(1, a)
			if oracleHas(n, i) {
				factors[i] = a
			}
		}
		areas[n] = times(times(times(factors[0], factors[1]), factors[2]), factors[3])
	}
	return areas
}

func oraclePrinted(p impl.Press, c impl.Cover) impl.Curve {
	areas := oracleAreas(oracleGrownCover(p.Gain, c))
	var sum impl.Curve
	for n, area := range areas {
		o := oracleOverprint(p, n)
		for w := range sum {
			lit := times(area, rootOf(o[w]))
			if n == 0 {
				sum[w] = lit
			} else {
				sum[w] = plus(sum[w], lit)
			}
		}
	}
	for w, a := range sum {
		sum[w] = times(a, a)
	}
	return sum
}

func oracleInk(c impl.Cover) float32 { return plus(plus(plus(c[0], c[1]), c[2]), c[3]) }

func oracleLimited(c impl.Cover, limit float32) impl.Cover {
	if oracleInk(c) <= limit {
		return c
	}
	if c[3] >= limit {
		return impl.Cover{0, 0, 0, limit}
	}
	share := over(minus(limit, c[3]), plus(plus(c[0], c[1]), c[2]))
	return impl.Cover{times(c[0], share), times(c[1], share), times(c[2], share), c[3]}
}

func oracleUnder(c impl.Cover, share float32) impl.Cover {
	least := c[0]
	if c[1] < least {
		least = c[1]
	}
	if c[2] < least {
		least = c[2]
	}
	g := times(share, least)
	return impl.Cover{minus(c[0], g), minus(c[1], g), minus(c[2], g), atMostOne(plus(c[3], g))}
}

// oracleGrid has all covers of a grid, in the order of lists.
func oracleGrid(grid int) []impl.Cover {
	side := grid + 1
	var list []impl.Cover
	for n := range side * side * side * side {
		var c impl.Cover
		for i, step := range [4]int{n / (side * side * side), n / (side * side) % side, n / side % side, n % side} {
			c[i] = over(float32(step), float32(grid))
		}
		list = append(list, c)
	}
	return list
}

type lookOfCover func(c impl.Cover) (impl.Three, int64)

// oracleBest returns the first cover that is least off a look, by what covers look like.
func oracleBest(look impl.Three, grid int, limit float32, lookOf lookOfCover) (impl.Cover, float32, int64) {
	var best impl.Cover
	least := float32(math.Inf(1))
	for _, c := range oracleGrid(grid) {
		if !(oracleInk(c) <= limit) {
			continue
		}
		seen, code := lookOf(c)
		if code != impl.OK {
			continue
		}
		if off := impl.DifferenceOf(seen, look); off < least {
			best, least = c, off
		}
	}
	if math.IsInf(float64(least), 1) {
		return impl.Cover{}, 0, impl.ErrNotFound
	}
	return best, least, impl.OK
}

func oracleTotalOf(c impl.Curve) float32 {
	sum := c[0]
	for _, a := range c[1:] {
		sum = plus(sum, a)
	}
	return sum
}

// oracleCoverSeen is told for an ink that takes light away, and for curves that are finite.
func oracleCoverSeen(p impl.Press, ink int, measured impl.Curve) float32 {
	paper := oracleTotalOf(p.Paper)
	most := minus(paper, oracleTotalOf(oracleOverprint(p, 1<<ink)))
	seen := over(minus(paper, oracleTotalOf(measured)), most)
	if seen < 0 {
		return 0
	}
	return atMostOne(seen)
}

// oraclePlaces are the numbers of places, row by row, worked out by hand.
func oraclePlaces() [16]int64 {
	return [16]int64{
		0, 8, 2, 10,
		12, 4, 14, 6,
		3, 11, 1, 9,
		15, 7, 13, 5,
	}
}

func oracleTile(level int64) impl.Tile {
	var tile impl.Tile
	for n, number := range oraclePlaces() {
		tile[n/4][n%4] = number < level
	}
	return tile
}

func oracleTurned(tile impl.Tile) impl.Tile {
	var next impl.Tile
	for r := range 4 {
		for c := range 4 {
			next[c][3-r] = tile[r][c]
		}
	}
	return next
}

func oracleTileCurve(p impl.Press, tiles [4]impl.Tile) impl.Curve {
	var sum impl.Curve
	for n := range 16 {
		key := 0
		for i, tile := range tiles {
			if tile[n/4][n%4] {
				key += 1 << i
			}
		}
		o := oracleOverprint(p, key)
		for w := range sum {
			if n == 0 {
				sum[w] = o[w]
			} else {
				sum[w] = plus(sum[w], o[w])
			}
		}
	}
	for w, a := range sum {
		sum[w] = over(a, 16)
	}
	return sum
}
