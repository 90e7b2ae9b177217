package places

import (
	"sync"

	"roots/api"
)

// emptyTable has the root of the empty part of each number of levels. It is made once, when it is first asked, and serves all maps that come of one empty map: an empty part of one has the root of that of any other.
type emptyTable struct {
	once  sync.Once
	roots [api.Levels + 1]api.Sum
}

// root is the root of the empty part of so many levels (P9). That of one place is noughts, as the table has them from the start.
func (t *emptyTable) root(levels int) api.Sum {
	t.once.Do(func() {
		for k := range api.Levels {
			t.roots[k+1] = node(t.roots[k], t.roots[k])
		}
	})
	return t.roots[levels]
}
