package tests

import (
	"encoding/binary"
	"math/big"

	"loop.example/g01213/impl"
)

// The oracle of chapter 6 uses the steps of chapter 2's, each of which rounds once, and whole numbers that are wide enough.

// oracleCount is told for numbers that are finite, by the next integer that is not greater.
func oracleCount(a float32) int16 {
	if a >= 40000 {
		return mostCount
	}
	if a <= -40000 {
		return leastCount
	}
	whole, _ := exactly(a).Int64()
	if exactly(a).Cmp(new(big.Float).SetInt64(whole)) < 0 {
		whole--
	}
	above := exactly(a).Sub(exactly(a), new(big.Float).SetInt64(whole))
	if half := above.Cmp(big.NewFloat(0.5)); half > 0 || half == 0 && whole%2 != 0 {
		whole++
	}
	return oracleHeld(whole)
}

func oracleHeld(n int64) int16 {
	if n > 32767 {
		return 32767
	}
	if n < -32768 {
		return -32768
	}
	return int16(n)
}

func oracleLamp(drift float32, turn int64) float32 { return plus(1, times(drift, float32(turn))) }

// oracleFull is the difference of White and Black times the light of the lamp.
func oracleFull(g impl.Gauge, w int, turn int64) float32 {
	return times(float32(int(g.White[w])-int(g.Black[w])), oracleLamp(g.Drift, turn))
}

// oracleCounts is told for a lamp that is lit, and for products that are finite.
func oracleCounts(g impl.Gauge, c impl.Curve, turn int64) impl.Counts {
	var counts impl.Counts
	for w := range counts {
		above := over(times(oracleFull(g, w, turn), c[w]), g.Known[w])
		counts[w] = oracleCount(plus(float32(g.Black[w]), above))
	}
	return counts
}

func oracleCurveOfCounts(g impl.Gauge, c impl.Counts, turn int64) impl.Curve {
	var curve impl.Curve
	for w := range curve {
		above := float32(int(c[w]) - int(g.Black[w]))
		curve[w] = over(times(above, g.Known[w]), oracleFull(g, w, turn))
	}
	return curve
}

func oracleShaken(c impl.Counts, seed uint32, most int16) (impl.Counts, uint32) {
	wide := new(big.Int).SetUint64(uint64(seed))
	for i, n := range c {
		wide.Mul(wide, big.NewInt(1664525)).Add(wide, big.NewInt(1013904223)).Mod(wide, big.NewInt(1<<32))
		high := new(big.Int).Div(wide, big.NewInt(65536))
		d := new(big.Int).Mod(high, big.NewInt(2*int64(most)+1)).Int64() - int64(most)
		c[i] = oracleHeld(int64(n) + d)
	}
	return c, uint32(wide.Uint64())
}

func oracleMean(list []impl.Sample) impl.Counts {
	var mean impl.Counts
	for w := range mean {
		sum := 0
		for _, s := range list {
			sum += int(s.Counts[w])
		}
		mean[w] = oracleCount(over(float32(sum), float32(len(list))))
	}
	return mean
}

// oracleMiddle finds the count that has less than half of the others below it, by counting them.
func oracleMiddle(list []impl.Sample) impl.Counts {
	var middle impl.Counts
	for w := range middle {
		for _, s := range list {
			less, notMore := 0, 0
			for _, other := range list {
				if other.Counts[w] < s.Counts[w] {
					less++
				}
				if other.Counts[w] <= s.Counts[w] {
					notMore++
				}
			}
			if place := (len(list) + 1) / 2; less < place && place <= notMore {
				middle[w] = s.Counts[w]
			}
		}
	}
	return middle
}

func oracleNear(list []impl.Sample, most int64) []impl.Sample {
	middle := oracleMiddle(list)
	var near []impl.Sample
	for _, s := range list {
		far := false
		for w := range middle {
			off := int64(s.Counts[w]) - int64(middle[w])
			far = far || off > most || off < -most
		}
		if !far {
			near = append(near, s)
		}
	}
	return near
}

// oracleDrift is told for turns that are not all 0.
func oracleDrift(g impl.Gauge, white []impl.Sample) float32 {
	full := 0
	for w := range g.White {
		full += int(g.White[w]) - int(g.Black[w])
	}
	var above, below float32
	for n, s := range white {
		sum := 0
		for w := range s.Counts {
			sum += int(s.Counts[w]) - int(g.Black[w])
		}
		x, y := float32(s.Turn), minus(over(float32(sum), float32(full)), 1)
		if n == 0 {
			above, below = times(x, y), times(x, x)
		} else {
			above, below = plus(above, times(x, y)), plus(below, times(x, x))
		}
	}
	return over(above, below)
}

// oracleCurves has the mean and the spread.
func oracleCurves(g impl.Gauge, list []impl.Sample) (impl.Curve, impl.Curve) {
	first := oracleCurveOfCounts(g, list[0].Counts, list[0].Turn)
	sum, least, greatest := first, first, first
	for _, s := range list[1:] {
		for w, a := range oracleCurveOfCounts(g, s.Counts, s.Turn) {
			sum[w] = plus(sum[w], a)
			if a < least[w] {
				least[w] = a
			}
			if a > greatest[w] {
				greatest[w] = a
			}
		}
	}
	for w := range sum {
		sum[w] = over(sum[w], float32(len(list)))
		greatest[w] = minus(greatest[w], least[w])
	}
	return sum, greatest
}

func oracleSumOfBytes(data []byte) int {
	sum := 0
	for _, b := range data {
		sum += int(b)
	}
	return sum
}

// oraclePacket also writes turns that no sample has.
func oraclePacket(list []impl.Sample) []byte {
	data := []byte{'S', 'P', byte(len(list))}
	for _, s := range list {
		record := binary.LittleEndian.AppendUint32(nil, uint32(s.Turn))
		for _, n := range s.Counts {
			record = binary.LittleEndian.AppendUint16(record, uint16(n))
		}
		data = append(append(data, record...), byte(oracleSumOfBytes(record)%256))
	}
	return sealed(data)
}

// sealed appends the check of the whole.
func sealed(data []byte) []byte {
	whole := append([]byte(nil), data...)
	return binary.LittleEndian.AppendUint16(whole, uint16(oracleSumOfBytes(data)%65521))
}
