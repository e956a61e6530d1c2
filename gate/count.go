package gate

import (
	"iter"

	"swarf/api"
	"swarf/span"
)

// backgrounds is what each gate may have as its background at its next pass.
type backgrounds [api.MaxGates]api.Range

// backgroundsAtFirst returns what the gates may have as their backgrounds at their first passes.
func backgroundsAtFirst(gates []api.Gate) backgrounds {
	var backs backgrounds
	for i, gate := range gates {
		backs[i] = gate.Back
	}
	return backs
}

// wandered returns what a background may be at the next pass.
func wandered(back api.Range, wander int) api.Range {
	wider := span.Plus(back, api.Range{Min: -wander, Max: wander})
	return span.Meet(wider, api.Range{Min: 0, Max: api.MaxCount})
}

// background returns what the background may be at a pass by what was counted.
func background(s api.Site, pass api.Doing, hasSource bool) api.Range {
	count := span.Just(pass.Count)
	if hasSource {
		return span.Minus(count, s.Source)
	}
	return count
}

// cargoes hands out the sets of lorries that may carry a source at first, whatever is done.
func cargoes(s api.Site) iter.Seq[set] {
	return func(yield func(set) bool) {
		for cargo := range only(s.Lorries) {
			if cargo.size() <= s.Most && !yield(cargo) {
				return
			}
		}
	}
}

// countedCargoes returns the sets of lorries with whose sources the gates may have counted what they did.
func countedCargoes(s api.Site) []set {
	var list []set
nextCargo:
	for cargo := range cargoes(s) {
		backs, loaded := backgroundsAtFirst(s.Gates), cargo
		for _, doing := range s.Doings {
			switch doing.Kind {
			case api.DoTip:
				loaded &^= only(doing.A)
			case api.DoPass:
				gate, hasSource := doing.A, loaded.meets(only(doing.B))
				back := span.Meet(backs[gate], background(s, doing, hasSource))
				if back.Min > back.Max {
					continue nextCargo
				}
				backs[gate] = wandered(back, s.Gates[gate].Wander)
			}
		}
		list = append(list, cargo)
	}
	return list
}
