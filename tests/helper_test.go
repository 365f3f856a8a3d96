package tests

import (
	"math"
	"math/rand/v2"
	"testing"

	"loop.example/g01213/impl"
)

var (
	nan      = float32(math.NaN())
	infinite = float32(math.Inf(1))
	minus0   = float32(math.Copysign(0, -1))
	largest  = float32(math.MaxFloat32)
	tiniest  = float32(math.SmallestNonzeroFloat32)
)

// specials are numbers of every kind, in no order.
func specials() []float32 {
	list := []float32{nan, math.Float32frombits(0xff800123)}
	for _, a := range []float32{0, tiniest, 3 * tiniest, 0x1p-127, 0x1p-126, 0x1p-60, 0.1, 0.5, 1, 1.5, 3, 7.5, 16, 120, 1e10, 0x1p120, largest, infinite} {
		list = append(list, a, -a)
	}
	return append(list, minus0)
}

// same is what the document calls the same, told without the program.
func same(a, b float32) bool {
	if a != a || b != b {
		return a != a && b != b
	}
	return math.Float32bits(a) == math.Float32bits(b)
}

func sameCurve(c, d impl.Curve) bool {
	for i := range c {
		if !same(c[i], d[i]) {
			return false
		}
	}
	return true
}

func sameThree(u, v impl.Three) bool {
	return same(u[0], v[0]) && same(u[1], v[1]) && same(u[2], v[2])
}

func near(a, b, by float64) bool { return math.Abs(a-b) <= by }

func wantNumber(t *testing.T, name string, got, want float32) {
	t.Helper()
	if !same(got, want) {
		t.Errorf("%s: got %v (%08x), want %v (%08x)", name, got, math.Float32bits(got), want, math.Float32bits(want))
	}
}

func wantCurve(t *testing.T, name string, got, want impl.Curve) {
	t.Helper()
	if !sameCurve(got, want) {
		t.Errorf("%s: got %v, want %v", name, got, want)
	}
}

func wantThree(t *testing.T, name string, got, want impl.Three) {
	t.Helper()
	if !sameThree(got, want) {
		t.Errorf("%s: got %v, want %v", name, got, want)
	}
}

func wantCode(t *testing.T, name string, got, want int64) {
	t.Helper()
	if got != want {
		t.Errorf("%s: got the code %d, want %d", name, got, want)
	}
}

func wantTrue(t *testing.T, name string, got bool) {
	t.Helper()
	if !got {
		t.Errorf("%s: got false, want true", name)
	}
}

func newRandom(seed uint64) *rand.Rand { return rand.New(rand.NewPCG(seed, 1213)) }

func randomBetween(r *rand.Rand, low, high float64) float32 {
	return float32(low + (high-low)*r.Float64())
}

func randomCurve(r *rand.Rand, low, high float64) impl.Curve {
	var c impl.Curve
	for i := range c {
		c[i] = randomBetween(r, low, high)
	}
	return c
}

// wholeCurve has whole numbers from -most to most.
func wholeCurve(r *rand.Rand, most int) impl.Curve {
	var c impl.Curve
	for i := range c {
		c[i] = float32(r.IntN(2*most+1) - most)
	}
	return c
}

// anyCurve has numbers of any bits, also NaN, infinite and subnormal ones.
func anyCurve(r *rand.Rand) impl.Curve {
	list := specials()
	var c impl.Curve
	for i := range c {
		if r.IntN(4) == 0 {
			c[i] = list[r.IntN(len(list))]
		} else {
			c[i] = math.Float32frombits(r.Uint32())
		}
	}
	return c
}

// flatBut has the number b everywhere, but a at the index i.
func flatBut(b float32, i int, a float32) impl.Curve {
	var c impl.Curve
	for j := range c {
		c[j] = b
	}
	c[i] = a
	return c
}
