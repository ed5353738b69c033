package tests

import (
	"slices"
	"testing"
)

// shown keeps a failing test of long strings readable.
func shown(s string) string {
	if len(s) > 40 {
		return s[:40] + ".."
	}
	return s
}

// numbers returns a function whose calls give a sequence of numbers below their arguments, always the same one for a seed.
func numbers(seed int) func(int) int {
	return func(n int) int {
		seed = (seed*1103515245 + 12345) % (1 << 31)
		return (seed >> 8) % n
	}
}

// wantNotShared overwrites each list with an odd value, up to its capacity; all the others must stay as they are.
func wantNotShared[T comparable](t *testing.T, name string, lists [][]T, odd T) {
	t.Helper()
	for i := range lists {
		var before [][]T
		for _, list := range lists {
			before = append(before, slices.Clone(list))
		}
		whole := lists[i][:cap(lists[i])]
		saved := slices.Clone(whole)
		for j := range whole {
			whole[j] = odd
		}
		for j := range lists {
			if j != i && !slices.Equal(lists[j], before[j]) {
				t.Errorf("%s: the list %d shares memory with the list %d", name, i, j)
			}
		}
		copy(whole, saved)
	}
}
