// Package sat is layer 1: times and usage that never pass their ends (shared/doc/01-sat.md).
package sat

import "muster/api"

// number is any kind of whole number.
type number interface {
	~int | ~int8 | ~int16 | ~int32 | ~int64 |
		~uint | ~uint8 | ~uint16 | ~uint32 | ~uint64
}

// within holds n between 0 and most.
func within[N number](n, most N) N {
	if n < 0 {
		return 0
	}
	if n > most {
		return most
	}
	return n
}

// together adds what counts of each of l, up to most, and tells whether it was more.
func together[N number](most N, l ...N) (N, bool) {
	var sum N
	for _, n := range l {
		n = within(n, most)
		// Asked ahead of the sum: a long list could leave the type's range.
		if n > most-sum {
			return most, true
		}
		sum += n
	}
	return sum, false
}

// Time tells n as a time.
func Time(n int) int {
	return within(n, api.MaxTime)
}

// Add tells the sum of times, or MaxTime, if that is less.
func Add(l ...int) int {
	sum, _ := together(api.MaxTime, l...)
	return sum
}

// Sub tells how much time a has more than b, or 0, if b has more.
func Sub(a, b int) int {
	// Both are times here, so that their difference can't wrap round.
	return Time(Time(a) - Time(b))
}

// Over tells whether the sum of times is above MaxTime.
func Over(l ...int) bool {
	_, over := together(api.MaxTime, l...)
	return over
}

// Usage tells n as a usage.
func Usage(n int) int {
	return within(n, api.MaxUsage)
}

// Plus tells the sum of usages, or MaxUsage, if that is less.
func Plus(l ...int) int {
	sum, _ := together(api.MaxUsage, l...)
	return sum
}

// Times tells the product of usages, or MaxUsage, if that is less.
func Times(a, b int) int {
	a, b = Usage(a), Usage(b)
	// Asked by a quotient: the product itself could leave int's range.
	if b > 0 && a > api.MaxUsage/b {
		return api.MaxUsage
	}
	return a * b
}

// Half tells half of a usage, rounded down.
func Half(n int) int {
	return Usage(n) / 2
}
