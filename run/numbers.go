package run

import "iter"

// The row of numbers that a script goes on with: what makes the next one of one, the number that all of them are below, and what each is told by.
const (
	factor  = 1103515245
	summand = 12345
	bound   = 1 << 31
	divisor = 65536
)

// numbers yields a script's numbers, and behind its end those of the row, without an end.
func numbers(script []int) iter.Seq[int] {
	return func(yield func(int) bool) {
		for _, n := range script {
			if !yield(n) {
				return
			}
		}
		for x := 1; yield(x / divisor); {
			x = (factor*x + summand) % bound
		}
	}
}
