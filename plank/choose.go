package plank

import "slices"

// choice is a list that can be told, and the count by which it is judged.
type choice struct {
	list  []int
	count int
}

// listed returns the choice of a set, which is judged by how many numbers it has.
func listed(set int) choice {
	list := members(set)
	return choice{list, len(list)}
}

// more reports whether a choice has the greater count, or comes first of equal ones.
func more(c, d choice) bool {
	return c.count > d.count || c.count == d.count && slices.Compare(c.list, d.list) < 0
}

// fewer reports whether a choice has the lesser count, or comes first of equal ones.
func fewer(c, d choice) bool {
	return c.count < d.count || c.count == d.count && slices.Compare(c.list, d.list) < 0
}

// chooser keeps the best of the choices that it is offered.
type chooser struct {
	better func(c, d choice) bool
	best   choice
	found  bool
}

func (c *chooser) offer(o choice) {
	if !c.found || c.better(o, c.best) {
		c.best, c.found = o, true
	}
}

// told returns the list of the best choice, with no room behind it.
func (c *chooser) told() []int {
	n := len(c.best.list)
	return c.best.list[:n:n]
}
