package places

import (
	"sync"

	"roots/api"
)

// empties is shared by all maps, because an empty part of one has the root of that of any other.
var empties = emptyTable{}

// emptyTable has the root of the empty part of each number of levels. It is made once, by the first call that needs it.
type emptyTable struct {
	once  sync.Once
	roots [api.Levels + 1]api.Sum
}

// emptyRoot is the root of the empty part of so many levels (P9). That of one place is noughts, as the table has them from the start.
func emptyRoot(levels int) api.Sum {
	empties.once.Do(func() {
		for k := range api.Levels {
			empties.roots[k+1] = node(empties.roots[k], empties.roots[k])
		}
	})
	return empties.roots[levels]
}
