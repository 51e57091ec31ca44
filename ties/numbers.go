package ties

// numbers gives each value a number, from 0 on, in the order in which they are first met.
type numbers[T comparable] struct {
	of     map[T]int
	values []T
}

func counted[T comparable](first ...T) *numbers[T] {
	n := &numbers[T]{of: map[T]int{}}
	for _, value := range first {
		n.number(value)
	}
	return n
}

func (n *numbers[T]) number(value T) int {
	number, met := n.of[value]
	if !met {
		number = len(n.values)
		n.of[value] = number
		n.values = append(n.values, value)
	}
	return number
}
