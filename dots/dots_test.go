package dots_test

import (
	"math"
	"testing"

	"escritoire/api"
	"escritoire/dots"
)

func TestCompare(t *testing.T) {
	rising := []api.Dot{{}, {Seq: 1}, {Seq: 2}, {Seq: math.MaxUint32}, {Author: 1}, {Author: 1, Seq: 1}, {Author: 7, Seq: 1 << 20}, {Author: 128}, {Author: 255}, {Author: 255, Seq: math.MaxUint32}}
	for i, a := range rising {
		for j, b := range rising {
			got := dots.Compare(a, b)
			if (got < 0) != (i < j) || (got > 0) != (i > j) {
				t.Errorf("Compare(%v, %v) = %d", a, b, got)
			}
		}
	}
}
