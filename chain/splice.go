package chain

import "slices"

// edit: what a list in order has at one place from now on: it, or nothing.
type edit[T any] struct {
	it   T
	keep bool
}

// spliced: another list, with the edits, which are in order too, each in the
// place of what is as it is.
func spliced[T any](list []T, edits []edit[T], order func(a, b T) int) []T {
	out := make([]T, 0, len(list)+len(edits))
	for _, e := range edits {
		at, there := slices.BinarySearchFunc(list, e.it, order)
		out = append(out, list[:at]...)
		list = list[at:]
		if there {
			list = list[1:]
		}
		if e.keep {
			out = append(out, e.it)
		}
	}
	return append(out, list...)
}
