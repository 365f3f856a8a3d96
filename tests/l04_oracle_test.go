package tests

import (
	"math"

	"loop.example/g01213/impl"
)

// The oracle of chapter 4 uses the steps of chapter 2's, each of which rounds once.

func oracleCurveOfParts(x impl.Shelf, parts impl.Parts) impl.Curve {
	m := oracleMixed(x, parts)
	return oracleThick(m.K, m.S)
}

func oracleLookUnder(light, c impl.Curve) impl.Three {
	return oracleLook(oracleSeen(numbersOf(light), numbersOf(c)))
}

func oracleUnlike(light, c, d impl.Curve) float32 {
	return oracleDifference(oracleLookUnder(light, c), oracleLookUnder(light, d))
}

func oracleEven(count int) impl.Parts {
	var parts impl.Parts
	for i := range count {
		parts[i] = over(1, float32(count))
	}
	return parts
}

func oracleShift(parts impl.Parts, from, to int, amount float32) impl.Parts {
	taken := amount
	if parts[from] < amount {
		taken = parts[from]
	}
	parts[from] = minus(parts[from], taken)
	parts[to] = plus(parts[to], taken)
	return parts
}

type oracleOffOf func(parts impl.Parts) (float32, bool)

// oracleMatch asks how far parts are off, which is false for those that do not count.
func oracleMatch(count int, sweeps int64, offOf oracleOffOf) (impl.Parts, float32, int64) {
	parts, made := oracleEven(count), int64(0)
	least, _ := offOf(parts)
	for halvings := 0; made < sweeps && halvings <= 8; made++ {
		before := parts
		for pair := range count * count {
			if pair/count == pair%count {
				continue
			}
			tried := oracleShift(parts, pair/count, pair%count, float32(math.Ldexp(0.25, -halvings)))
			if off, ok := offOf(tried); ok && off < least {
				parts, least = tried, off
			}
		}
		if parts == before {
			halvings++
		}
	}
	return parts, least, made
}

// oracleDropsFor rounds shares down, and then the greatest rests up.
func oracleDropsFor(count int, parts impl.Parts, total int64) impl.Drops {
	sum := parts[0]
	for _, a := range parts[1:count] {
		sum = plus(sum, a)
	}
	var d impl.Drops
	var wanted [6]float32
	for i := range count {
		wanted[i] = times(over(parts[i], sum), float32(total))
		d[i] = int16(math.Floor(float64(wanted[i])))
	}
	for oracleTotal(d) < total {
		most := 0
		for i := 1; i < count; i++ {
			if minus(wanted[i], float32(d[i])) > minus(wanted[most], float32(d[most])) {
				most = i
			}
		}
		d[most]++
	}
	return d
}

func oracleTotal(d impl.Drops) int64 {
	total := int64(0)
	for _, n := range d {
		total += int64(n)
	}
	return total
}

// oracleRecipes lists all drops of count pigments with a total, in ascending order.
func oracleRecipes(count int, total int16) []impl.Drops {
	if count == 1 {
		return []impl.Drops{{total}}
	}
	var list []impl.Drops
	for first := int16(0); first <= total; first++ {
		for _, rest := range oracleRecipes(count-1, total-first) {
			d := impl.Drops{first}
			copy(d[1:], rest[:5])
			list = append(list, d)
		}
	}
	return list
}

// oracleFirstLeast returns the first drops that are least off, by the paints of the oracle.
func oracleFirstLeast(x impl.Shelf, list []impl.Drops, target impl.Curve) (impl.Drops, float32) {
	best, least := list[0], oracleOff(oraclePaint(x, list[0]), target)
	for _, d := range list[1:] {
		if off := oracleOff(oraclePaint(x, d), target); off < least {
			best, least = d, off
		}
	}
	return best, least
}

// oracleBeside leaves out drops below 0 and above MaxDrops.
func oracleBeside(count int, d impl.Drops) []impl.Drops {
	var list []impl.Drops
	for from := range count {
		for to := range count {
			if from != to && d[from] > 0 && d[to] < 1000 {
				e := d
				e[from], e[to] = e[from]-1, e[to]+1
				list = append(list, e)
			}
		}
	}
	return list
}

// oracleCorrections lists the drops, and those with some more of one pigment.
func oracleCorrections(count int, d impl.Drops, added int16) []impl.Drops {
	list := []impl.Drops{d}
	for i := range count {
		for n := d[i] + 1; n <= d[i]+added && n <= 1000; n++ {
			e := d
			e[i] = n
			list = append(list, e)
		}
	}
	return list
}
