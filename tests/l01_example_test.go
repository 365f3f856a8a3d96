package tests

import (
	"testing"

	"loop.example/g01213/impl"
)

// The example of chapter 1, word by word.
func TestExampleOfChapter1(t *testing.T) {
	bump, code := impl.Bump(3, 2)
	wantCode(t, "Bump 3 and 2", code, impl.OK)
	wantNumber(t, "the bump at 3", bump[3], 1)
	wantNumber(t, "the bump at 4", bump[4], 0.64)
	wantNumber(t, "the bump at 5", bump[5], 0.25)

	light, code := impl.LightOf(0)
	wantCode(t, "LightOf 0", code, impl.OK)
	wantCurve(t, "LightOf 0", light, impl.FlatCurve(1))

	root, code := impl.CubeRoot(27)
	wantCode(t, "CubeRoot 27", code, impl.OK)
	wantNumber(t, "CubeRoot 27", root, 3)
	root, code = impl.CubeRoot(-8)
	wantCode(t, "CubeRoot -8", code, impl.OK)
	wantNumber(t, "CubeRoot -8", root, -2)

	power, code := impl.PowerOf(4, 0.5)
	wantCode(t, "PowerOf 4 and 0.5", code, impl.OK)
	wantNumber(t, "PowerOf 4 and 0.5", power, 2)
	power, code = impl.PowerOf(2, 3)
	wantCode(t, "PowerOf 2 and 3", code, impl.OK)
	wantNumber(t, "PowerOf 2 and 3", power, 8)

	seen, code := impl.SeenUnder(light, impl.FlatCurve(1))
	wantCode(t, "SeenUnder", code, impl.OK)
	wantNumber(t, "the second number of what is seen of white", seen[1], 1)
	look, code := impl.LookOf(seen)
	wantCode(t, "LookOf", code, impl.OK)
	wantNumber(t, "the lightness of white", look[0], 100)
}
