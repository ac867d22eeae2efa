// Package list has what the layers do with lists of any type.
package list

// Mapped returns for each element of a list what a function makes of it.
func Mapped[T, U any](l []T, f func(T) U) []U {
	result := make([]U, len(l))
	for i, x := range l {
		result[i] = f(x)
	}
	return result
}
