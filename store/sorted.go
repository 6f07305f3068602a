package store

import (
	"cmp"
	"slices"
)

// sorted is a list whose items rise, each there once.
type sorted[T cmp.Ordered] []T

// with may write into l's memory, as append does: what it tells stands in the place of l.
func (l sorted[T]) with(item T) sorted[T] {
	i, there := slices.BinarySearch(l, item)
	if there {
		return l
	}
	return slices.Insert(l, i, item)
}

// without writes into l's memory, as with does.
func (l sorted[T]) without(item T) sorted[T] {
	i, there := slices.BinarySearch(l, item)
	if !there {
		return l
	}
	return slices.Delete(l, i, i+1)
}

// merged tells new memory with what both lists have; they have nothing in common.
func merged[T cmp.Ordered](a, b sorted[T]) sorted[T] {
	out := slices.Grow(sorted[T](nil), len(a)+len(b))
	for len(a) > 0 && len(b) > 0 {
		if b[0] < a[0] {
			a, b = b, a
		}
		out = append(out, a[0])
		a = a[1:]
	}
	return append(append(out, a...), b...)
}

func put[K comparable, T cmp.Ordered](shelves map[K]sorted[T], key K, item T) {
	shelves[key] = shelves[key].with(item)
}

// drop leaves no empty list behind, so that what is gone takes no room.
func drop[K comparable, T cmp.Ordered](shelves map[K]sorted[T], key K, item T) {
	rest := shelves[key].without(item)
	if len(rest) == 0 {
		delete(shelves, key)
		return
	}
	shelves[key] = rest
}
