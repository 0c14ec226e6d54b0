package tree

import "slices"

// stack is lists, one above the other, by row.
type stack[T any] struct {
	lists [][]T
}

// push lays an item behind those of its row; the row is one that is there, or the next one.
func (s *stack[T]) push(row int, item T) {
	if row == len(s.lists) {
		s.lists = append(s.lists, nil)
	}
	s.lists[row] = append(s.lists[row], item)
}

// row tells the items of a row, none of one that is not there. It has no room behind its end: who appends to it leaves the stack as it is.
func (s *stack[T]) row(row int) []T {
	if row >= len(s.lists) {
		return nil
	}
	n := len(s.lists[row])
	return s.lists[row][:n:n]
}

// empty lets go of the items of a row.
func (s *stack[T]) empty(row int) {
	s.lists[row] = nil
}

// all tells the items of all rows, likewise.
func (s *stack[T]) all() [][]T {
	rows := make([][]T, len(s.lists))
	for i := range rows {
		rows[i] = s.row(i)
	}
	return rows
}

// lengths tells how many items each row has.
func (s *stack[T]) lengths() []int {
	list := make([]int, len(s.lists))
	for i, l := range s.lists {
		list[i] = len(l)
	}
	return list
}

// clone tells a stack of its own, with the same items.
func (s *stack[T]) clone() stack[T] {
	lists := s.all()
	for i := range lists {
		lists[i] = slices.Clone(lists[i])
	}
	return stack[T]{lists}
}
