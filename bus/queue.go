package bus

import (
	"container/heap"
	"slices"
	"sort"

	"campanile/frame"
)

// list is what waits, in a heap's order; its methods are those that the library's heap asks for.
type list []Sent

func (l list) Len() int           { return len(l) }
func (l list) Less(i, j int) bool { return ahead(l[i], l[j]) }
func (l list) Swap(i, j int)      { l[i], l[j] = l[j], l[i] }

func (l *list) Push(x any) { *l = append(*l, x.(Sent)) }

func (l *list) Pop() any {
	end := len(*l) - 1
	last := (*l)[end]
	*l = (*l)[:end]
	return last
}

// ahead: does a go before b? No two have one number, so one of them does.
func ahead(a, b Sent) bool {
	switch {
	case frame.Before(a.Frame, b.Frame):
		return true
	case frame.Before(b.Frame, a.Frame):
		return false
	}
	return a.Number < b.Number
}

// queue is a list that stays a heap: to the library it is what its list is.
type queue struct{ list }

func (q *queue) add(s Sent) { heap.Push(q, s) }

// take takes the first one in the order, if there is one.
func (q *queue) take() (Sent, bool) {
	if q.Len() == 0 {
		return Sent{}, false
	}
	return heap.Pop(q).(Sent), true
}

// drop takes out all of a node, and tells how many they were.
func (q *queue) drop(node int) int {
	before := q.Len()
	q.list = slices.DeleteFunc(q.list, func(s Sent) bool { return s.Node == node })
	heap.Init(q) // those that are left have moved up, in no heap's order
	return before - q.Len()
}

func (q *queue) copied() queue { return queue{slices.Clone(q.list)} }

// sorted tells all in their order, in new memory.
func (q *queue) sorted() []Sent {
	all := q.copied()
	sort.Sort(all)
	return all.list
}
