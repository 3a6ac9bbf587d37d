package impl

import (
	"slices"
	"strings"
)

const MaxArena = 60

// noCell stands in Next and Free where no cell follows.
const noCell = -1

type Arena struct {
	Next []int64
	Data []string
	Free int64
}

// cell is one cell of an arena: what it holds, and which cell follows it.
type cell struct {
	next int64
	data string
}

// ArenaNew answers an arena of so many cells, all free, in order.
func ArenaNew(cells int64) (Arena, bool) {
	if cells < 1 || cells > MaxArena {
		return Arena{}, false
	}
	list := make([]cell, cells)
	for i := range list {
		list[i].next = int64(i) + 1
	}
	list[cells-1].next = noCell
	return arenaOf(list, 0), true
}

// ArenaOk tells whether a is right.
func ArenaOk(a Arena) bool {
	n := len(a.Next)
	if n < 1 || n > MaxArena || len(a.Data) != n {
		return false
	}
	cells := cellsIn(a)
	return linksOk(cells, a.Free) && withoutRing(cells) && dataOk(cells, a.Free)
}

// FreeOf answers the free cells, from Free on.
func FreeOf(a Arena) []int64 {
	if !ArenaOk(a) {
		return nil
	}
	return cellsFrom(cellsIn(a), a.Free)
}

// ChainOf answers the cells of the chain that head begins.
func ChainOf(a Arena, head int64) ([]int64, bool) {
	if !ArenaOk(a) || !beginsChain(a, head) {
		return nil, false
	}
	return cellsFrom(cellsIn(a), head), true
}

// Taken answers a with the bytes of s in the first free cells, and the first of these.
func Taken(a Arena, s string) (Arena, int64, bool) {
	// An arena that is not right has no free cells, so it is refused with those that have too few.
	free := FreeOf(a)
	need := cellsFor(len(s))
	if need == 0 || need > len(free) {
		return Arena{}, 0, false
	}
	cells := cellsIn(a)
	for i, at := range free[:need] {
		from := i * CellSize
		cells[at].data = s[from:min(from+CellSize, len(s))]
	}
	last := free[need-1]
	rest := cells[last].next
	cells[last].next = noCell
	return arenaOf(cells, rest), free[0], true
}

// Held answers the bytes of the chain that head begins.
func Held(a Arena, head int64) (string, bool) {
	chain, ok := ChainOf(a, head)
	if !ok {
		return "", false
	}
	var text strings.Builder
	for _, at := range chain {
		text.WriteString(a.Data[at])
	}
	return text.String(), true
}

// Given answers a with the cells of the chain that head begins free again, ahead of all others.
func Given(a Arena, head int64) (Arena, bool) {
	chain, ok := ChainOf(a, head)
	if !ok {
		return Arena{}, false
	}
	cells := cellsIn(a)
	for _, at := range chain {
		cells[at].data = ""
	}
	cells[chain[len(chain)-1]].next = a.Free
	return arenaOf(cells, head), true
}

// cellsIn wants as many of Data as of Next.
func cellsIn(a Arena) []cell {
	cells := make([]cell, len(a.Next))
	for i := range cells {
		cells[i] = cell{next: a.Next[i], data: a.Data[i]}
	}
	return cells
}

// arenaOf copies the texts as well, since those of the cells may be pieces of an argument.
func arenaOf(cells []cell, free int64) Arena {
	a := Arena{Next: make([]int64, len(cells)), Data: make([]string, len(cells)), Free: free}
	for i, c := range cells {
		a.Next[i] = c.next
		a.Data[i] = strings.Clone(c.data)
	}
	return a
}

func isCell(at int64, count int) bool {
	return at >= 0 && at < int64(count)
}

// linksOk tells whether free and each next are none or a cell that no other of these names.
func linksOk(cells []cell, free int64) bool {
	links := []int64{free}
	for _, c := range cells {
		links = append(links, c.next)
	}
	named := make([]bool, len(cells))
	for _, to := range links {
		if to == noCell {
			continue
		}
		if !isCell(to, len(cells)) || named[to] {
			return false
		}
		named[to] = true
	}
	return true
}

// withoutRing tells whether nobody comes from a cell back to it; it wants linksOk.
func withoutRing(cells []cell) bool {
	for i := range cells {
		if !ends(cells, int64(i)) {
			return false
		}
	}
	return true
}

// ends takes as many steps as there are cells: whoever is at a cell even then has been at one of them twice.
func ends(cells []cell, at int64) bool {
	for range cells {
		if at == noCell {
			break
		}
		at = cells[at].next
	}
	return at == noCell
}

// dataOk tells whether just the free cells are empty, and none holds too much; it wants withoutRing.
func dataOk(cells []cell, free int64) bool {
	isFree := make([]bool, len(cells))
	for _, at := range cellsFrom(cells, free) {
		isFree[at] = true
	}
	for i, c := range cells {
		if isFree[i] != (c.data == "") || len(c.data) > CellSize {
			return false
		}
	}
	return true
}

// cellsFrom lists at, the cell that follows it, and so on; it wants withoutRing.
func cellsFrom(cells []cell, at int64) []int64 {
	var list []int64
	for at != noCell {
		list = append(list, at)
		at = cells[at].next
	}
	return list
}

// beginsChain wants a right arena: there the free cells are just those that hold nothing.
func beginsChain(a Arena, head int64) bool {
	return isCell(head, len(a.Next)) && a.Data[head] != "" && !slices.Contains(a.Next, head)
}
