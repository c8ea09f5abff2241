package profile

import (
	"imageeditor/api"
	"imageeditor/matrix"
)

// standards returns the standard profiles in their order. Each call makes them anew, because a caller may change the knots of a profile that it got.
func standards() []api.Profile {
	return []api.Profile{
		{
			Name:  "linear",
			Curve: knots(0, 0, 65535, 65535),
			M:     matrix.Same(),
		},
		{
			Name: "srgb",
			Curve: knots(
				0, 0, 2621, 203, 6554, 657, 13107, 2170, 19661, 4800, 26214, 8708,
				32768, 14027, 39321, 20876, 45875, 29359, 52428, 39572, 58982, 51603, 65535, 65535,
			),
			M: [9]int{
				27031, 23434, 11825,
				13938, 46868, 4730,
				1267, 7811, 62279,
			},
		},
		{
			Name: "wide",
			Curve: knots(
				0, 0, 8192, 676, 16384, 3104, 24576, 7574, 32768, 14263,
				40960, 23302, 49152, 34803, 57344, 48853, 65535, 65535,
			),
			M: [9]int{
				37797, 12160, 12333,
				19489, 41114, 4933,
				1772, 4633, 64953,
			},
		},
		{
			Name:  "warm",
			Curve: knots(0, 0, 16384, 8192, 32768, 24576, 65535, 65535),
			M: [9]int{
				60000, 5000, 536,
				2000, 62000, 1536,
				0, 4000, 61536,
			},
		},
	}
}

// knots returns the curve with the given numbers: X, Y, X, Y, ..
func knots(numbers ...int) []api.Knot {
	k := make([]api.Knot, len(numbers)/2)
	for i := range k {
		k[i] = api.Knot{X: numbers[2*i], Y: numbers[2*i+1]}
	}
	return k
}
