package slots

import "container/heap"

// numbers is a heap: numbers come in any order, and go from the least on.
type numbers []int

func (l numbers) Len() int { return len(l) }

func (l numbers) Less(i, j int) bool { return l[i] < l[j] }

func (l numbers) Swap(i, j int) { l[i], l[j] = l[j], l[i] }

func (l *numbers) Push(n any) { *l = append(*l, n.(int)) }

func (l *numbers) Pop() any {
	last := len(*l) - 1
	n := (*l)[last]
	*l = (*l)[:last]
	return n
}

func (l *numbers) add(n int) { heap.Push(l, n) }

// least takes the least one out. There must be one.
func (l *numbers) least() int { return heap.Pop(l).(int) }
