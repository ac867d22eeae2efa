// Package list has what the layers do with lists of any type.
package list

// Mapped returns for each element of a list what a function makes of it.
func Mapped[T, U any](l []T, f func(T) U) []U {
	result := make([]U, len(l))
	for i, x := range l {
		result[i] = f(x)
	}
	return result
}

// Filtered returns the elements of a list that are kept.
func Filtered[T any](l []T, keep func(T) bool) []T {
	var result []T
	for _, x := range l {
		if keep(x) {
			result = append(result, x)
		}
	}
	return result
}

// Indices returns the index of each element by its key: of several ones with the
// same key that of the last one.
func Indices[T any, K comparable](l []T, key func(T) K) map[K]int {
	indices := map[K]int{}
	for i, x := range l {
		indices[key(x)] = i
	}
	return indices
}

// Transformed returns for each index k the sum over m of the element m, turned
// k m times.
func Transformed[T any](l []T, turned func(x T, times int) T, plus func(a, b T) T) []T {
	result := make([]T, len(l))
	for k := range len(l) {
		for m := range len(l) {
			result[k] = plus(result[k], turned(l[m], k*m))
		}
	}
	return result
}
