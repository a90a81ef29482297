package sample_test

import (
	"math/rand/v2"
	"testing"

	"catchment/sample"
	"catchment/shape"
	"catchment/tree"
)

func TestSamplesAreRight(t *testing.T) {
	r := rand.New(rand.NewPCG(1, 1))
	for range 300 {
		levels := 2 + r.IntN(3)
		x := sample.Tree(r.IntN, levels, 3)
		if f := shape.Faults(x, sample.Sizes()); len(f) > 0 || tree.Height(x) != levels {
			t.Fatalf("%+v of a tree of height %d", f, tree.Height(x))
		}
	}
}
