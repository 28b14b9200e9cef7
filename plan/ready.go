package plan

import "container/heap"

// ready are names that may come now, as a heap: however many wait together, the first one by name is soon found.
type ready []string

func (r *ready) add(name string) { heap.Push(r, name) }

// take takes the first one by name out. There must be one.
func (r *ready) take() string { return heap.Pop(r).(string) }

// Len, Less, Swap, Push and Pop are there as package heap asks for them.
func (r ready) Len() int { return len(r) }

// Less says which one comes first, byte by byte.
func (r ready) Less(i, k int) bool { return r[i] < r[k] }

// Swap changes two of them over.
func (r ready) Swap(i, k int) { r[i], r[k] = r[k], r[i] }

// Push lays one behind the others.
func (r *ready) Push(name any) { *r = append(*r, name.(string)) }

// Pop takes the last one off.
func (r *ready) Pop() any {
	last := len(*r) - 1
	name := (*r)[last]
	*r = (*r)[:last]
	return name
}
