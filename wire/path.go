package wire

import (
	"slices"

	"hoarstone/api"
)

// bare is an item without its Kids, but for how many there are.
type bare struct {
	kind, num int
	text      string
	kids      int
}

// At returns the item to which a path leads.
func At(x api.Item, path []int) (api.Item, api.Errno) {
	if e := Check(x); e != api.OK {
		return api.Item{}, e
	}
	there, ok := at(x, path)
	if !ok {
		return api.Item{}, api.ErrNot
	}
	return copied(there), api.OK
}

// Put returns an item with another one in its place.
func Put(x api.Item, path []int, y api.Item) (api.Item, api.Errno) {
	if e := check(x, y); e != api.OK {
		return api.Item{}, e
	}
	if _, ok := at(x, path); !ok {
		return api.Item{}, api.ErrNot
	}
	var put func(here api.Item, path []int) api.Item
	put = func(here api.Item, path []int) api.Item {
		if len(path) == 0 {
			return copied(y)
		}
		kids := slices.Clone(here.Kids)
		for i := range len(kids) {
			if i == path[0] {
				kids[i] = put(kids[i], path[1:])
			} else {
				kids[i] = copied(kids[i])
			}
		}
		here.Kids = kids
		return here
	}
	made := put(x, path)
	if e := Check(made); e != api.OK {
		return api.Item{}, e
	}
	return made, api.OK
}

// Find returns the paths of all items that are the same as one.
func Find(x, y api.Item) ([][]int, api.Errno) {
	if e := check(x, y); e != api.OK {
		return nil, e
	}
	var found [][]int
	var path []int
	first := head(y)
	for level, here := range within(x) {
		path = onward(path, level)
		// What begins with other bytes need not be compared.
		if head(here) == first && compare(here, y) == 0 {
			found = append(found, slices.Clone(path))
		}
	}
	return found, api.OK
}

// Apart returns the path of the first item in which two differ.
func Apart(x, y api.Item) ([]int, api.Errno) {
	if e := check(x, y); e != api.OK {
		return nil, e
	}
	var path []int
	for level, here := range within(x) {
		path = onward(path, level)
		if there, ok := at(y, path); ok && without(here) != without(there) {
			return path, api.OK
		}
	}
	return nil, api.ErrNone
}

// at returns the item to which a path leads, and whether it leads to one.
func at(x api.Item, path []int) (api.Item, bool) {
	for _, i := range path {
		if i < 0 || i >= len(x.Kids) {
			return api.Item{}, false
		}
		x = x.Kids[i]
	}
	return x, true
}

// onward makes of the path of an item that of the next one, in order, which has a level.
func onward(path []int, level int) []int {
	steps := level - 1
	switch {
	case steps > len(path):
		return append(path, 0)
	case steps > 0:
		path[steps-1]++
	}
	return path[:steps]
}

// without returns an item without its Kids.
func without(x api.Item) bare {
	return bare{x.Kind, x.Num, x.Text, len(x.Kids)}
}

// copied returns a copy of an item that shares no memory with it.
func copied(x api.Item) api.Item {
	x.Kids = slices.Clone(x.Kids)
	for i := range len(x.Kids) {
		x.Kids[i] = copied(x.Kids[i])
	}
	return x
}
