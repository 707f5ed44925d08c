// Package impl: who is there, told by gossip within sites and between them.
package impl

// Fixed-point numbers are thousandths.
const (
	FixOne = 1000
	FixMax = 1000000000
)

// fix is a number of thousandths; of 64 bits, so that no product of two that were brought in wraps round.
type fix int64

func (f fix) clamp() fix {
	return min(max(f, -FixMax), FixMax)
}

func (f fix) plus(g fix) fix {
	return f + g
}

func (f fix) times(g fix) fix {
	return f * g / FixOne
}

func (f fix) over(g fix) fix {
	if g == 0 {
		return f.farthest()
	}
	return f * FixOne / g
}

// farthest stands in for what a division by 0 cannot answer.
func (f fix) farthest() fix {
	switch {
	case f > 0:
		return FixMax
	case f < 0:
		return -FixMax
	}
	return 0
}

func (f fix) root() fix {
	return (f * FixOne).wholeRoot()
}

func (f fix) norm(g fix) fix {
	return (f*f + g*g).wholeRoot()
}

// wholeRoot takes its number as whole, not as thousandths; below 0 it is 0, as no square fits.
func (f fix) wholeRoot() fix {
	return greatest(func(r fix) bool { return r*r <= f })
}

// greatest looks no further than FixMax, as every answer is brought there; what is less than one that fits must fit.
func greatest(fits func(fix) bool) fix {
	least, most := fix(0), fix(FixMax)
	for least < most {
		middle := most - (most-least)/2
		if fits(middle) {
			least = middle
		} else {
			most = middle - 1
		}
	}
	return least
}

// brought brings in both numbers and the answer, so that no operation has to think of it.
func brought(operation func(fix, fix) fix, a int, b int) int {
	return int(operation(fix(a).clamp(), fix(b).clamp()).clamp())
}

// FixClamp is a number brought between -FixMax and FixMax.
func FixClamp(n int) int {
	return int(fix(n).clamp())
}

// FixAdd adds.
func FixAdd(a int, b int) int {
	return brought(fix.plus, a, b)
}

// FixMul multiplies.
func FixMul(a int, b int) int {
	return brought(fix.times, a, b)
}

// FixDiv divides.
func FixDiv(a int, b int) int {
	return brought(fix.over, a, b)
}

// FixRoot is the root of a number.
func FixRoot(a int) int {
	return int(fix(a).clamp().root().clamp())
}

// FixNorm is how long a way is.
func FixNorm(x int, y int) int {
	return brought(fix.norm, x, y)
}
