package gate

import (
	"maps"
	"slices"

	"swarf/api"
)

// place is where the source of a lorry is; the piles follow one by one.
type place uint8

const (
	nowhere place = iota // the lorry carried none
	aboard
	firstPile
)

// inPile returns the place that a pile is.
func inPile(pile int) place { return firstPile + place(pile) }

// places is where the source of each lorry is.
type places [api.MaxLorries]place

// atFirst returns where the sources are before all doings, if these lorries carry one.
func atFirst(cargo set) places {
	var at places
	for _, lorry := range cargo.members() {
		at[lorry] = aboard
	}
	return at
}

// piles returns the piles in which there is a source.
func (p places) piles() set {
	var hot set
	for _, at := range p {
		if at >= firstPile {
			hot |= only(int(at - firstPile))
		}
	}
	return hot
}

// moved returns where the sources may be after some of a pile was moved: each one in it went along, or stayed.
func (p places) moved(from, to place) []places {
	list := []places{p}
	for lorry := range p {
		for _, at := range list {
			if at[lorry] == from {
				at[lorry] = to
				list = append(list, at)
			}
		}
	}
	return list
}

// after returns where the sources may be after a doing; what a gate counts does not change this.
func (p places) after(doing api.Doing) []places {
	switch doing.Kind {
	case api.DoTip:
		if p[doing.A] == aboard {
			p[doing.A] = inPile(doing.B)
		}
	case api.DoMove:
		return p.moved(inPile(doing.A), inPile(doing.B))
	case api.DoFind, api.DoClean:
		isHot := p.piles().meets(only(doing.A))
		if isHot != (doing.Kind == api.DoFind) {
			return nil
		}
	}
	return []places{p}
}

// ends returns where the sources may be after all doings, which is nowhere if the site may not be.
func ends(s api.Site) map[places]bool {
	now := make(map[places]bool)
	for _, cargo := range countedCargoes(s) {
		now[atFirst(cargo)] = true
	}
	for _, doing := range s.Doings {
		next := make(map[places]bool)
		for before := range now {
			for _, at := range before.after(doing) {
				next[at] = true
			}
		}
		now = next
	}
	return now
}

// truthsOf returns where the sources may be after all doings of a site, in any order.
func truthsOf(s api.Site) ([]places, api.Errno) {
	if e := Check(s); e != api.OK {
		return nil, e
	}
	truths := slices.Collect(maps.Keys(ends(s)))
	if len(truths) == 0 {
		return nil, api.ErrConflict
	}
	return truths, api.OK
}

// hotPiles returns for each truth in which piles there is a source.
func hotPiles(truths []places) []set {
	var list []set
	for _, at := range truths {
		list = append(list, at.piles())
	}
	return list
}
