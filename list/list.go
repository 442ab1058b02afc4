// Package list has what the layers do with lists of every kind.
package list

// Own is a copy of l, whose entries are copied by own: the layers answer memory that is the caller's alone.
func Own[T any](l []T, own func(T) T) []T {
	var out []T
	for _, x := range l {
		out = append(out, own(x))
	}
	return out
}
