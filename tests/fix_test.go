package tests

import (
	"fmt"
	"math"
	"math/big"
	"testing"

	"loop.example/lightship/impl"
)

const fixMax = 1000000000

var fixEdges = []int{
	math.MinInt, math.MinInt + 1, -9223372036854776, -2 * fixMax, -fixMax - 1, -fixMax, -fixMax + 1,
	-1000001, -1001, -1000, -999, -3, -2, -1, 0, 1, 2, 3, 999, 1000, 1001, 1000001,
	fixMax - 1, fixMax, fixMax + 1, 2 * fixMax, 9223372036854776, math.MaxInt - 1, math.MaxInt,
}

// fixNumbers are the edges, and some numbers of each size.
func fixNumbers() []int {
	list := append([]int{}, fixEdges...)
	d := draws{1}
	for size := 10; size <= 10*fixMax; size *= 10 {
		for range 5 {
			list = append(list, d.between(-size, size))
		}
	}
	return list
}

func eachPair(list []int, do func(a int, b int)) {
	for _, a := range list {
		for _, b := range list {
			do(a, b)
		}
	}
}

func inBox(n int) bool {
	return -fixMax <= n && n <= fixMax
}

func abs(n int) int {
	return max(n, -n)
}

func TestFixLimits(t *testing.T) {
	expect(t, "FixOne", impl.FixOne, 1000)
	expect(t, "FixMax", impl.FixMax, 1000000000)
}

func TestFixClampByHand(t *testing.T) {
	for _, c := range []struct{ n, want int }{
		{0, 0}, {1, 1}, {-1, -1}, {1234567, 1234567},
		{fixMax - 1, fixMax - 1}, {fixMax, fixMax}, {fixMax + 1, fixMax},
		{-fixMax + 1, -fixMax + 1}, {-fixMax, -fixMax}, {-fixMax - 1, -fixMax},
		{math.MaxInt, fixMax}, {math.MinInt, -fixMax},
	} {
		expect(t, fmt.Sprint("FixClamp ", c.n), impl.FixClamp(c.n), c.want)
	}
}

func TestFixOfTwoByHand(t *testing.T) {
	type of func(int, int) int
	for _, c := range []struct {
		name string
		of   of
		a, b int
		want int
	}{
		{"FixAdd", impl.FixAdd, 2, 3, 5},
		{"FixAdd", impl.FixAdd, fixMax - 1, 1, fixMax},
		{"FixAdd", impl.FixAdd, fixMax, 1, fixMax},
		{"FixAdd", impl.FixAdd, -fixMax, -1, -fixMax},
		{"FixAdd", impl.FixAdd, 2 * fixMax, -fixMax, 0}, // brought in ahead of the sum
		{"FixAdd", impl.FixAdd, math.MaxInt, math.MaxInt, fixMax},
		{"FixAdd", impl.FixAdd, math.MinInt, math.MinInt, -fixMax},
		{"FixAdd", impl.FixAdd, math.MinInt, math.MaxInt, 0},
		{"FixMul", impl.FixMul, 1500, 2000, 3000},
		{"FixMul", impl.FixMul, 3, 999, 2},
		{"FixMul", impl.FixMul, -3, 999, -2}, // cut, not rounded down
		{"FixMul", impl.FixMul, 3, -999, -2},
		{"FixMul", impl.FixMul, -3, -999, 2},
		{"FixMul", impl.FixMul, fixMax, 1000, fixMax},
		{"FixMul", impl.FixMul, fixMax, 1001, fixMax},
		{"FixMul", impl.FixMul, fixMax, -fixMax, -fixMax},
		{"FixMul", impl.FixMul, 2 * fixMax, 1, 1000000}, // brought in ahead of the product
		{"FixMul", impl.FixMul, math.MinInt, math.MinInt, fixMax},
		{"FixMul", impl.FixMul, math.MinInt, math.MaxInt, -fixMax},
		{"FixDiv", impl.FixDiv, 1000, 2000, 500},
		{"FixDiv", impl.FixDiv, 2, 3, 666},
		{"FixDiv", impl.FixDiv, -2, 3, -666},
		{"FixDiv", impl.FixDiv, 2, -3, -666},
		{"FixDiv", impl.FixDiv, -2, -3, 666},
		{"FixDiv", impl.FixDiv, 0, -7, 0},
		{"FixDiv", impl.FixDiv, fixMax, 1000, fixMax},
		{"FixDiv", impl.FixDiv, fixMax, 999, fixMax},
		{"FixDiv", impl.FixDiv, fixMax, -1, -fixMax},
		{"FixDiv", impl.FixDiv, 1, fixMax, 0},
		{"FixDiv", impl.FixDiv, fixMax, 2 * fixMax, 1000}, // brought in ahead of the division
		{"FixDiv", impl.FixDiv, math.MinInt, -1, fixMax},
		{"FixDiv", impl.FixDiv, math.MinInt, math.MaxInt, -1000},
		{"FixDiv", impl.FixDiv, 1, 0, fixMax},
		{"FixDiv", impl.FixDiv, -1, 0, -fixMax},
		{"FixDiv", impl.FixDiv, 0, 0, 0},
		{"FixDiv", impl.FixDiv, math.MaxInt, 0, fixMax},
		{"FixDiv", impl.FixDiv, math.MinInt, 0, -fixMax},
		{"FixNorm", impl.FixNorm, 0, 0, 0},
		{"FixNorm", impl.FixNorm, 0, -9, 9},
		{"FixNorm", impl.FixNorm, 3, 4, 5},
		{"FixNorm", impl.FixNorm, -2, 2, 2},
		{"FixNorm", impl.FixNorm, 600000000, -800000000, fixMax},
		{"FixNorm", impl.FixNorm, 600000000, 799999999, 999999999},
		{"FixNorm", impl.FixNorm, fixMax, 0, fixMax},
		{"FixNorm", impl.FixNorm, -fixMax - 1, 0, fixMax},
		{"FixNorm", impl.FixNorm, math.MinInt, math.MinInt, fixMax},
		{"FixNorm", impl.FixNorm, math.MaxInt, math.MinInt, fixMax},
	} {
		expect(t, fmt.Sprint(c.name, " ", c.a, " ", c.b), c.of(c.a, c.b), c.want)
	}
}

func TestFixRootByHand(t *testing.T) {
	for _, c := range []struct{ a, want int }{
		{0, 0}, {1, 31}, {2, 44}, {9, 94}, {10, 100}, {1000, 1000}, {999, 999}, {1001, 1000}, {9000, 3000}, {8999, 2999},
		{fixMax - 1, 999999}, {fixMax, 1000000}, {fixMax + 1, 1000000}, {math.MaxInt, 1000000},
		{-1, 0}, {-4000, 0}, {-fixMax, 0}, {math.MinInt, 0},
	} {
		expect(t, fmt.Sprint("FixRoot ", c.a), impl.FixRoot(c.a), c.want)
	}
}

// TestFixByGreatNumbers works each answer out in numbers that have no end.
func TestFixByGreatNumbers(t *testing.T) {
	brought := func(n *big.Int) *big.Int {
		most := big.NewInt(fixMax)
		if n.CmpAbs(most) <= 0 {
			return n
		}
		return most.Mul(most, big.NewInt(int64(n.Sign())))
	}
	one := big.NewInt(1000)
	eachPair(fixNumbers(), func(a int, b int) {
		x, y := brought(big.NewInt(int64(a))), brought(big.NewInt(int64(b)))
		check := func(what string, got int, want *big.Int) {
			t.Helper()
			expect(t, fmt.Sprint(what, " ", a, " ", b), int64(got), brought(want).Int64())
		}
		product := new(big.Int).Mul(x, y)
		squares := new(big.Int).Add(new(big.Int).Mul(x, x), new(big.Int).Mul(y, y))
		check("FixClamp", impl.FixClamp(a), x)
		check("FixAdd", impl.FixAdd(a, b), new(big.Int).Add(x, y))
		check("FixMul", impl.FixMul(a, b), new(big.Int).Quo(product, one))
		check("FixNorm", impl.FixNorm(a, b), new(big.Int).Sqrt(squares))
		thousandfold := new(big.Int).Mul(x, one)
		if b != 0 {
			check("FixDiv", impl.FixDiv(a, b), new(big.Int).Quo(thousandfold, y))
		}
		if a >= 0 {
			check("FixRoot", impl.FixRoot(a), new(big.Int).Sqrt(thousandfold))
		}
	})
}

func TestPromise1NoNumberGetsOut(t *testing.T) {
	eachPair(fixNumbers(), func(a int, b int) {
		for i, got := range []int{
			impl.FixClamp(a), impl.FixAdd(a, b), impl.FixMul(a, b), impl.FixDiv(a, b), impl.FixRoot(a), impl.FixNorm(a, b),
		} {
			if !inBox(got) {
				t.Errorf("function %d of %d and %d: %d", i, a, b, got)
			}
		}
	})
}

func TestPromise2SumsTurned(t *testing.T) {
	eachPair(fixNumbers(), func(a int, b int) {
		expect(t, fmt.Sprint(a, " and ", b, " turned"), impl.FixAdd(b, a), impl.FixAdd(a, b))
		expect(t, fmt.Sprint(a, " and 0"), impl.FixAdd(a, 0), impl.FixClamp(a))
	})
}

func TestPromise3ProductsAndSigns(t *testing.T) {
	eachPair(fixNumbers(), func(a int, b int) {
		got := impl.FixMul(a, b)
		expect(t, fmt.Sprint(a, " times one"), impl.FixMul(a, impl.FixOne), impl.FixClamp(a))
		expect(t, fmt.Sprint(a, " times ", b, " turned"), impl.FixMul(b, a), got)
		expect(t, fmt.Sprint("the other sign of ", a, " times ", b), impl.FixMul(-impl.FixClamp(a), b), -got)
		if got != 0 {
			expect(t, fmt.Sprint("sign of ", a, " times ", b), got > 0, (a > 0) == (b > 0))
		}
	})
}

func TestPromise4WhatWasDivided(t *testing.T) {
	eachPair(fixNumbers(), func(a int, b int) {
		got := impl.FixDiv(a, b)
		if b == 0 || abs(got) >= fixMax {
			return
		}
		rest := impl.FixClamp(a)*impl.FixOne - got*impl.FixClamp(b)
		if abs(rest) >= abs(impl.FixClamp(b)) {
			t.Errorf("%d by %d is %d: %d is left", a, b, got, rest)
		}
	})
}

func TestPromise5Roots(t *testing.T) {
	list := fixNumbers()
	for n := range 3000 {
		list = append(list, n, n*n*10, n*n*10-1)
	}
	for _, a := range list {
		got := impl.FixRoot(a)
		square := max(impl.FixClamp(a), 0) * impl.FixOne
		if got < 0 || got*got > square || (got+1)*(got+1) <= square {
			t.Errorf("root of %d: %d", a, got)
		}
	}
}

func TestPromise6Ways(t *testing.T) {
	eachPair(fixNumbers(), func(x int, y int) {
		got := impl.FixNorm(x, y)
		a, b := abs(impl.FixClamp(x)), abs(impl.FixClamp(y))
		if got < a || got < b || got > a+b {
			t.Errorf("way of %d and %d: %d", x, y, got)
		}
		for _, c := range [][2]int{{y, x}, {-impl.FixClamp(x), y}, {x, -impl.FixClamp(y)}} {
			expect(t, fmt.Sprint("way of ", x, " and ", y, " as ", c), impl.FixNorm(c[0], c[1]), got)
		}
	})
}

func TestPromise65MoreAddedIsNotLess(t *testing.T) {
	list := fixNumbers()
	eachPair(list, func(a int, c int) {
		if a > c {
			return
		}
		for _, b := range list {
			if impl.FixAdd(a, b) > impl.FixAdd(c, b) {
				t.Errorf("%d and %d, %d and %d", a, b, c, b)
			}
		}
	})
}
