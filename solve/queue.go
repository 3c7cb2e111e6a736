package solve

// queue is what is still to be done: what came first is done first.
type queue[T any] struct{ waiting []T }

func (q *queue[T]) push(x T) { q.waiting = append(q.waiting, x) }

// pop: what is to be done next, if there is something.
func (q *queue[T]) pop() (T, bool) {
	if len(q.waiting) == 0 {
		var zero T
		return zero, false
	}
	x := q.waiting[0]
	q.waiting = q.waiting[1:]
	return x, true
}
