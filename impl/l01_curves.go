package impl

import (
	"math"
	"strconv"
	"strings"
)

// Codes of errors.
const (
	OK          = 0
	ErrInvalid  = 1
	ErrRange    = 2
	ErrLimit    = 3
	ErrState    = 4
	ErrSyntax   = 5
	ErrNotFound = 6
	ErrBudget   = 7
	ErrProof    = 8
)

// Curve has a number for each of sixteen wavelengths.
type Curve [16]float32

// Three has three numbers.
type Three [3]float32

// wavelength is an index of a curve.
type wavelength int

// Every product in this file stands in a conversion, float32(..) or float64(..),
// because Go may otherwise fuse it with a sum and round only once.

// CodeName returns the name of an error code.
func CodeName(code int64) string {
	names := [...]string{"ok", "invalid", "range", "limit", "state", "syntax", "notfound", "budget", "proof"}
	if code < 0 || code >= int64(len(names)) {
		return ""
	}
	return names[code]
}

func isNaN(a float32) bool { return math.IsNaN(float64(a)) }

// isFinite is false for NaN, too: no comparison with it holds.
func isFinite(a float32) bool { return math.Abs(float64(a)) <= math.MaxFloat32 }

// bitsOf gives each NaN the same bits, so that two numbers are the same exactly if their bits are equal.
func bitsOf(a float32) uint32 {
	if isNaN(a) {
		return 0x7fc00000
	}
	return math.Float32bits(a)
}

func bitsOfCurve(c Curve) [16]uint32 {
	var bits [16]uint32
	for i, a := range c {
		bits[i] = bitsOf(a)
	}
	return bits
}

func bitsOfThree(u Three) [3]uint32 {
	return [3]uint32{bitsOf(u[0]), bitsOf(u[1]), bitsOf(u[2])}
}

// SameNumber reports whether two numbers are the same: 0 and -0 are not, two NaN are.
func SameNumber(a, b float32) bool { return bitsOf(a) == bitsOf(b) }

// IsFiniteCurve reports whether all numbers are finite.
func IsFiniteCurve(c Curve) bool {
	for _, a := range c {
		if !isFinite(a) {
			return false
		}
	}
	return true
}

// SameCurve reports whether two curves are the same.
func SameCurve(c, d Curve) bool { return bitsOfCurve(c) == bitsOfCurve(d) }

// FlatCurve returns the curve with one number everywhere.
func FlatCurve(a float32) Curve {
	var flat Curve
	for i := range flat {
		flat[i] = a
	}
	return flat
}

// AddCurves returns the sums.
func AddCurves(c, d Curve) Curve {
	for i := range c {
		c[i] += d[i]
	}
	return c
}

// MulCurves returns the products.
func MulCurves(c, d Curve) Curve {
	for i := range c {
		c[i] = float32(c[i] * d[i])
	}
	return c
}

// ScaleCurve returns the products with a number.
func ScaleCurve(c Curve, by float32) Curve { return MulCurves(c, FlatCurve(by)) }

// MixCurves returns a curve between two others.
func MixCurves(c, d Curve, share float32) Curve {
	return AddCurves(ScaleCurve(c, 1-share), ScaleCurve(d, share))
}

// SumOfCurve returns the sum of all numbers.
func SumOfCurve(c Curve) float32 { return sumOfNumbers(c[:]) }

// sumOfNumbers begins with the first number instead of 0, which keeps the sign of a sum of only -0.
func sumOfNumbers(list []float32) float32 {
	sum := list[0]
	for _, a := range list[1:] {
		sum += a
	}
	return sum
}

// DotOfCurves returns the sum of the products.
func DotOfCurves(c, d Curve) float32 { return SumOfCurve(MulCurves(c, d)) }

// LeastOf returns the least number and its index.
func LeastOf(c Curve) (float32, int64) {
	return endOf(c, func(a, b float32) bool { return a < b })
}

// GreatestOf returns the greatest number and its index.
func GreatestOf(c Curve) (float32, int64) {
	return endOf(c, func(a, b float32) bool { return a > b })
}

// endOf returns the first number that no number of the curve is beyond.
func endOf(c Curve, beyond func(a, b float32) bool) (float32, int64) {
candidates:
	for i, a := range c {
		if isNaN(a) {
			continue
		}
		for _, b := range c {
			if beyond(b, a) {
				continue candidates
			}
		}
		return a, int64(i)
	}
	return float32(math.NaN()), 0
}

func curveOfWavelengths(number func(w wavelength) float32) Curve {
	var c Curve
	for i := range c {
		c[i] = number(wavelength(i))
	}
	return c
}

func (w wavelength) bump(place, width float32) float32 {
	x := (float32(w) - place) / width
	z := 1 + float32(x*x)
	return 1 / float32(z*z)
}

// The observers are a red, a green and a blue one; the red one also feels the shortest wavelengths a little.
func (w wavelength) red() float32   { return w.bump(10.5, 3) + float32(0.25*w.bump(2.5, 2)) }
func (w wavelength) green() float32 { return w.bump(8, 3) }
func (w wavelength) blue() float32  { return float32(1.5 * w.bump(3, 2)) }

// Bump returns the curve of a bump.
func Bump(place, width float32) (Curve, int64) {
	if !isFinite(place) || !isFinite(width) || width <= 0 {
		return Curve{}, ErrRange
	}
	return curveOfWavelengths(func(w wavelength) float32 { return w.bump(place, width) }), OK
}

// Observers returns the curves of the observer.
func Observers() [3]Curve {
	feelings := [3]func(wavelength) float32{wavelength.red, wavelength.green, wavelength.blue}
	var observers [3]Curve
	for i, feeling := range feelings {
		observers[i] = curveOfWavelengths(feeling)
	}
	return observers
}

// isWithin is false for NaN.
func isWithin(a, low, high float32) bool { return a >= low && a <= high }

// LightOf returns the light of a lamp.
func LightOf(warmth float32) (Curve, int64) {
	if !isWithin(warmth, -1, 1) {
		return Curve{}, ErrRange
	}
	return curveOfWavelengths(func(w wavelength) float32 {
		return 1 + float32(warmth*((float32(w)-7.5)/8))
	}), OK
}

// SeenUnder returns what is seen of a curve under a light.
func SeenUnder(light, c Curve) (Three, int64) {
	observers := Observers()
	lit := MulCurves(light, c)
	white := DotOfCurves(observers[1], light)
	var seen Three
	for i, observer := range observers {
		seen[i] = DotOfCurves(observer, lit) / white
		if !isFinite(seen[i]) {
			return Three{}, ErrState
		}
	}
	return seen, OK
}

// CubeRoot returns the third root.
func CubeRoot(a float32) (float32, int64) {
	if !isFinite(a) {
		return 0, ErrRange
	}
	if a == 0 {
		return 0, OK
	}
	b, x := math.Abs(float64(a)), 1.0
	for b >= 8 {
		b /= 8
		x *= 2
	}
	for b < 1 {
		b *= 8
		x /= 2
	}
	r := 1.5
	for range 6 {
		cube := float64(float64(r*r) * r)
		r -= (cube - b) / float64(float64(3*r)*r)
	}
	return float32(math.Copysign(float64(r*x), float64(a))), OK
}

// PowerOf returns a power.
func PowerOf(a, exponent float32) (float32, int64) {
	if !isWithin(a, 0, math.MaxFloat32) || !isWithin(exponent, 0, 16) {
		return 0, ErrRange
	}
	if a == 0 {
		return 0, OK
	}
	t := float64(binaryLogarithm(float64(a)) * float64(exponent))
	if t > 120 {
		return 0, ErrRange
	}
	if t < -120 {
		return 0, OK
	}
	return float32(powerOfTwo(t)), OK
}

// binaryLogarithm returns (nearly) the logarithm to the base 2 of a number greater than 0.
func binaryLogarithm(a float64) float64 {
	const ln2 = 0.6931471805599453
	half, e := math.Frexp(a) // half is at least 1/2 and less than 1, so z is twice as much and e one less
	z := 2 * half
	u := (z - 1) / (z + 1)
	v := float64(u * u)
	s := 0.0
	for m := 14; m >= 0; m-- {
		s = 1/float64(2*m+1) + float64(v*s)
	}
	return float64(e-1) + float64(float64(2*u)*s)/ln2
}

// powerOfTwo returns (nearly) 2 to the power t.
func powerOfTwo(t float64) float64 {
	const ln2 = 0.6931471805599453
	k := math.Floor(t)
	y := float64((t - k) * ln2)
	p := 1.0
	for m := 14; m >= 1; m-- {
		p = 1 + float64((y/float64(m))*p)
	}
	return math.Ldexp(p, int(k))
}

// LookOf returns the look of what is seen.
func LookOf(seen Three) (Three, int64) {
	var f Three
	for i, a := range seen {
		root, code := CubeRoot(a)
		if code != OK {
			return Three{}, code
		}
		f[i] = root
	}
	return Three{
		float32(116*f[1]) - 16,
		float32(500 * (f[0] - f[1])),
		float32(200 * (f[1] - f[2])),
	}, OK
}

// LookUnder returns the look of a curve under a light.
func LookUnder(light, c Curve) (Three, int64) {
	seen, code := SeenUnder(light, c)
	if code != OK {
		return Three{}, code
	}
	return LookOf(seen)
}

// SameThree reports whether three numbers are the same as others.
func SameThree(u, v Three) bool { return bitsOfThree(u) == bitsOfThree(v) }

func squareOf(a float32) float32 { return float32(a * a) }

// squareRoot rounds once: the wide root of a narrow number has enough digits to be narrowed.
func squareRoot(a float32) float32 { return float32(math.Sqrt(float64(a))) }

// DistanceOf returns the distance of two looks.
func DistanceOf(u, v Three) float32 {
	return squareRoot(squareOf(u[0]-v[0]) + squareOf(u[1]-v[1]) + squareOf(u[2]-v[2]))
}

// DifferenceOf returns how different two looks seem.
func DifferenceOf(u, v Three) float32 {
	a := 1 + float32(0.01*squareRoot(squareOf(u[1])+squareOf(u[2])))
	colours := squareOf(u[1]-v[1]) + squareOf(u[2]-v[2])
	return squareRoot(squareOf(u[0]-v[0]) + colours/squareOf(a))
}

// NumberText returns the text of a number.
func NumberText(a float32) string {
	digits := strconv.FormatUint(uint64(bitsOf(a)), 16)
	return strings.Repeat("0", 8-len(digits)) + digits
}

// ReadNumber returns the number with a text.
func ReadNumber(text string) (float32, int64) {
	bits, err := strconv.ParseUint(text, 16, 32)
	if err != nil {
		return 0, ErrSyntax
	}
	a := math.Float32frombits(uint32(bits))
	// A number has one text only: this leaves out large letters, other bits of NaN, and more or fewer than 8 digits.
	if NumberText(a) != text {
		return 0, ErrSyntax
	}
	return a, OK
}

// CurveText returns the text of a curve.
func CurveText(c Curve) string {
	var texts [16]string
	for i, a := range c {
		texts[i] = NumberText(a)
	}
	return strings.Join(texts[:], " ")
}

// ReadCurve returns the curve with a text.
func ReadCurve(text string) (Curve, int64) {
	words := strings.Split(text, " ")
	var c Curve
	if len(words) != len(c) {
		return Curve{}, ErrSyntax
	}
	for i, word := range words {
		a, code := ReadNumber(word)
		if code != OK {
			return Curve{}, code
		}
		c[i] = a
	}
	return c, OK
}
