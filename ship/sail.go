package ship

import "swarf/api"

// barge is a loaded barge under way, with some luck.
type barge struct {
	api.Voyage
	luck
	deep ends
}

// load returns the barge with a stowage.
func load(v api.Voyage, stowage []int, l luck) barge {
	return barge{Voyage: v, luck: l, deep: depths(v, stowage, l)}
}

// needs returns how much water a barge needs, in thousandths of a millimetre.
func (b barge) needs() int {
	return greatest(b.deep[atBow], b.deep[atStern]) + parts*b.Under
}

// sail returns the minutes in which a barge passes the sills, from the first one on, up to the one that stops it.
func (b barge) sail() []int {
	var passed []int
	minute := b.Leaves
sills:
	for _, sill := range b.Sills {
		depth := water{luck: b.luck, levels: sill.Levels}.depth
		for _, next := range moments(sill, minute+b.hinders(sill.Travel)) {
			if parts*depth(next) >= b.needs() {
				minute = next
				passed = append(passed, minute)
				continue sills
			}
		}
		return passed
	}
	return passed
}

// moments returns the minutes in which a barge can first find the water over a sill deep enough: when it comes, and when the water changes after that.
func moments(sill api.Sill, comes int) []int {
	if comes > api.MaxClock {
		return nil
	}
	list := []int{comes}
	for _, level := range sill.Levels {
		if level.From > comes {
			list = append(list, level.From)
		}
	}
	return list
}

// water is what flows over a sill, with some luck.
type water struct {
	luck
	levels []api.Level
}

// depth returns how deep the water is in a minute.
func (w water) depth(minute int) int {
	deep := 0
	for _, level := range w.levels {
		if level.From <= minute {
			deep = w.helps(level.Depth)
		}
	}
	return deep
}

// verdictOf returns the verdict whether all sills are passed, if so many are with good luck, and so many with bad luck.
func verdictOf(sills, first, last int) int {
	if last == sills {
		return api.Always
	}
	if first < sills {
		return api.Nowhere
	}
	return api.Unsure
}
