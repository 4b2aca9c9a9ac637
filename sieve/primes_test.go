package sieve

import (
	"math"
	"slices"
	"testing"
)

// firstOf are as many of the primes that are told as are asked for, behind which the loop is left.
func firstOf(last, many int) []int {
	var list []int
	for p := range primes(last) {
		list = append(list, p)
		if len(list) == many {
			break
		}
	}
	return list
}

// A loop over the primes may be left at each of them.
func TestPrimesAreLeft(t *testing.T) {
	want := []int{2, 3, 5, 7, 11, 13, 17, 19, 23, 29}
	for many := 1; many <= len(want); many++ {
		for _, last := range []int{29, 30, 1000, 10000, math.MaxInt} {
			if got := firstOf(last, many); !slices.Equal(got, want[:many]) {
				t.Errorf("the first %d up to %d: %d", many, last, got)
			}
		}
	}
}

// Primes are told from 2 on each time, also behind a loop that was left, or within another one.
func TestPrimesBeginAnew(t *testing.T) {
	told := primes(30)
	want := []int{2, 3, 5, 7, 11, 13, 17, 19, 23, 29}
	count := 0
	for outer := range told {
		if outer != want[count] {
			t.Fatalf("prime %d is %d", count, outer)
		}
		if inner := slices.Collect(told); !slices.Equal(inner, want) {
			t.Fatalf("%d within the loop at %d", inner, outer)
		}
		if count++; count == 7 {
			break
		}
	}
	if got := slices.Collect(told); !slices.Equal(got, want) {
		t.Errorf("%d behind a loop that was left", got)
	}
}

// None are told of what has none, or behind 10,000.
func TestPrimesEnd(t *testing.T) {
	for _, last := range []int{math.MinInt, -1, 0, 1} {
		for p := range primes(last) {
			t.Errorf("%d up to %d", p, last)
		}
	}
	for _, last := range []int{9973, 9999, 10000, 10001, 10007, math.MaxInt} {
		greatest := 0
		for p := range primes(last) {
			greatest = p
		}
		if greatest != 9973 {
			t.Errorf("the greatest up to %d is %d", last, greatest)
		}
	}
}
