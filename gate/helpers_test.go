package gate_test

import (
	"math/rand"
	"slices"

	"swarf/api"
	"swarf/gate"
)

// rng returns a range.
func rng(low, high int) api.Range { return api.Range{Min: low, Max: high} }

// Doings of each kind.
func pass(g, lorry, count int) api.Doing {
	return api.Doing{Kind: api.DoPass, A: g, B: lorry, Count: count}
}

func tip(lorry, pile int) api.Doing { return api.Doing{Kind: api.DoTip, A: lorry, B: pile} }

func move(from, to int) api.Doing { return api.Doing{Kind: api.DoMove, A: from, B: to} }

func find(pile int) api.Doing { return api.Doing{Kind: api.DoFind, A: pile} }

func clean(pile int) api.Doing { return api.Doing{Kind: api.DoClean, A: pile} }

// siteA is A of the chapter's examples.
func siteA() api.Site {
	return api.Site{
		Lorries: 3, Piles: 2, Source: rng(40, 200), Most: 1,
		Gates:  []api.Gate{{Back: rng(90, 110), Wander: 5}},
		Doings: []api.Doing{pass(0, 0, 100), pass(0, 1, 150), pass(0, 2, 104), tip(0, 0), tip(1, 0), tip(2, 1), move(0, 1), clean(0)},
	}
}

// withSite returns A with a change.
func withSite(change func(s *api.Site)) api.Site {
	s := siteA()
	change(&s)
	return s
}

// copySite returns a copy that shares no memory.
func copySite(s api.Site) api.Site {
	s.Gates, s.Doings = slices.Clone(s.Gates), slices.Clone(s.Doings)
	return s
}

// sameSite tells whether two sites are equal.
func sameSite(a, b api.Site) bool {
	return a.Lorries == b.Lorries && a.Piles == b.Piles && a.Source == b.Source && a.Most == b.Most && slices.Equal(a.Gates, b.Gates) && slices.Equal(a.Doings, b.Doings)
}

// plus returns a site with more doings at the end.
func plus(s api.Site, more ...api.Doing) api.Site {
	s.Doings = append(slices.Clone(s.Doings), more...)
	return s
}

// first returns the first of two results.
func first[T any](x T, e api.Errno) T { return x }

// Where a source may be that is in no pile.
const (
	never  = -2
	aboard = -1
)

// walk goes through all truths of a site from a doing on. The source of each lorry is at a pile, aboard, or there never was one; backs has the backgrounds of all passes up to now, by gate.
type walk struct {
	s     api.Site
	at    []int
	backs [][]int
	visit func(at []int)
}

func (w *walk) from(i int) {
	if i == len(w.s.Doings) {
		w.visit(w.at)
		return
	}
	doing := w.s.Doings[i]
	switch doing.Kind {
	case api.DoPass:
		w.pass(i, doing)
	case api.DoTip:
		before := w.at[doing.A]
		if before == aboard {
			w.at[doing.A] = doing.B
		}
		w.from(i + 1)
		w.at[doing.A] = before
	case api.DoMove:
		w.move(i, doing, 0)
	default:
		if slices.Contains(w.at, doing.A) == (doing.Kind == api.DoFind) {
			w.from(i + 1)
		}
	}
}

// pass tries all numbers that the background may be at a pass.
func (w *walk) pass(i int, doing api.Doing) {
	g := w.s.Gates[doing.A]
	may := g.Back
	if passes := w.backs[doing.A]; len(passes) > 0 {
		last := passes[len(passes)-1]
		may = rng(last-g.Wander, last+g.Wander)
	}
	for back := max(may.Min, 0); back <= min(may.Max, api.MaxCount); back++ {
		isSo := doing.Count == back
		if w.at[doing.B] == aboard {
			isSo = has(w.s.Source, doing.Count-back)
		}
		if isSo {
			passes := w.backs[doing.A]
			w.backs[doing.A] = append(slices.Clone(passes), back)
			w.from(i + 1)
			w.backs[doing.A] = passes
		}
	}
}

// move lets each source in a pile stay, and go along, from that of a lorry on.
func (w *walk) move(i int, doing api.Doing, lorry int) {
	if lorry == len(w.at) {
		w.from(i + 1)
		return
	}
	w.move(i, doing, lorry+1)
	if w.at[lorry] == doing.A {
		w.at[lorry] = doing.B
		w.move(i, doing, lorry+1)
		w.at[lorry] = doing.A
	}
}

// truths goes through all truths of a site and visits where the source of each lorry is at the end of each one.
func truths(s api.Site, visit func(at []int)) {
	w := walk{s: s, at: make([]int, s.Lorries), backs: make([][]int, len(s.Gates)), visit: visit}
	var choose func(lorry, left int)
	choose = func(lorry, left int) {
		if lorry == s.Lorries {
			w.from(0)
			return
		}
		w.at[lorry] = never
		choose(lorry+1, left)
		if left > 0 {
			w.at[lorry] = aboard
			choose(lorry+1, left-1)
		}
	}
	choose(0, s.Most)
}

// mayBe tells whether a site has a truth.
func mayBe(s api.Site) bool {
	some := false
	truths(s, func([]int) { some = true })
	return some
}

// tally is in how many truths something is so, and in how many it is not.
type tally struct{ yes, no int }

func (t *tally) add(isSo bool) {
	if isSo {
		t.yes++
	} else {
		t.no++
	}
}

func (t *tally) verdict() int {
	switch {
	case t.no == 0:
		return api.Always
	case t.yes == 0:
		return api.Nowhere
	}
	return api.Unsure
}

// told is all that can be said of a site; hot has the piles with sources of each truth in which there are some.
type told struct {
	some           bool
	lorries, piles []int
	suspects       [][]int
	hot            [][]int
}

// tryAll says all of a site by going through all truths.
func tryAll(s api.Site) told {
	var all told
	lorries, piles := make([]tally, s.Lorries), make([]tally, s.Piles)
	sources := make([][]bool, s.Piles)
	for pile := range sources {
		sources[pile] = make([]bool, s.Lorries)
	}
	truths(s, func(at []int) {
		all.some = true
		for lorry, where := range at {
			lorries[lorry].add(where != never)
			if where >= 0 {
				sources[where][lorry] = true
			}
		}
		var hot []int
		for pile := range piles {
			isHot := slices.Contains(at, pile)
			piles[pile].add(isHot)
			if isHot {
				hot = append(hot, pile)
			}
		}
		if hot != nil {
			all.hot = append(all.hot, hot)
		}
	})
	for lorry := range lorries {
		all.lorries = append(all.lorries, lorries[lorry].verdict())
	}
	for pile := range piles {
		all.piles = append(all.piles, piles[pile].verdict())
		var suspects []int
		for lorry, isSuspect := range sources[pile] {
			if isSuspect {
				suspects = append(suspects, lorry)
			}
		}
		all.suspects = append(all.suspects, suspects)
	}
	return all
}

// tell says of a site what the package says of it.
func tell(s api.Site) (told, api.Errno) {
	lorries, e := gate.Lorries(s)
	if e != api.OK {
		return told{}, e
	}
	all := told{some: true, lorries: lorries, piles: first(gate.Piles(s))}
	for pile := range s.Piles {
		all.suspects = append(all.suspects, first(gate.Suspects(s, pile)))
	}
	return all, api.OK
}

// isSame tells whether two told the same of verdicts and suspects.
func (t told) isSame(other told) bool {
	return t.some == other.some && slices.Equal(t.lorries, other.lorries) && slices.Equal(t.piles, other.piles) && slices.EqualFunc(t.suspects, other.suspects, slices.Equal[[]int])
}

// lists returns all lists of piles, ascending: the fewest piles first, and those with as many in lexicographic order.
func lists(piles int) [][]int {
	var all [][]int
	for set := range 1 << piles {
		list := []int{}
		for pile := range piles {
			if set>>pile&1 == 1 {
				list = append(list, pile)
			}
		}
		all = append(all, list)
	}
	slices.SortFunc(all, func(a, b []int) int {
		if len(a) != len(b) {
			return len(a) - len(b)
		}
		return slices.Compare(a, b)
	})
	return all
}

// between returns a random number from low to high.
func between(r *rand.Rand, low, high int) int { return low + r.Intn(high-low+1) }

// around returns a random range from low to high that has n in it, and goes up to wide beyond n.
func around(r *rand.Rand, n, wide, low, high int) api.Range {
	return rng(max(low, n-r.Intn(wide+1)), min(high, n+r.Intn(wide+1)))
}

// has tells whether n lies in r.
func has(r api.Range, n int) bool { return r.Min <= n && n <= r.Max }

// size is how large random sites are, and how far what is known of them goes beyond the truth.
type size struct {
	lorries, piles, gates, doings int
	source, wide                  int
}

// life is a site with the truth that it was made of: where the source of each lorry is at the end.
type life struct {
	site api.Site
	at   []int
}

// live returns a random site with its truth.
func live(r *rand.Rand, z size) life {
	v := life{site: api.Site{Lorries: z.lorries, Piles: z.piles, Source: around(r, between(r, 1, z.source), z.wide, 1, api.MaxCount)}}
	carried := r.Intn(min(api.MaxSources, z.lorries) + 1)
	v.site.Most = between(r, carried, api.MaxSources)
	for range z.lorries {
		v.at = append(v.at, never)
	}
	for _, lorry := range r.Perm(z.lorries)[:carried] {
		v.at[lorry] = aboard
	}
	var backs []int
	for range z.gates {
		// Some backgrounds are near their bounds.
		back := []int{r.Intn(z.wide + 1), api.MaxCount - r.Intn(z.wide+1), r.Intn(api.MaxCount + 1)}[r.Intn(3)]
		backs = append(backs, back)
		v.site.Gates = append(v.site.Gates, api.Gate{Back: around(r, back, z.wide, 0, api.MaxCount), Wander: r.Intn(z.wide + 1)})
	}
	var tipped []int
	for len(v.site.Doings) < z.doings {
		doing := v.random(r, backs)
		if doing.Kind == api.DoTip && slices.Contains(tipped, doing.A) {
			continue
		}
		if doing.Kind == api.DoTip {
			tipped = append(tipped, doing.A)
		}
		v.do(r, doing)
		v.site.Doings = append(v.site.Doings, doing)
	}
	return v
}

// random returns a random doing that is so, and lets the background at a pass wander for the next one.
func (v *life) random(r *rand.Rand, backs []int) api.Doing {
	lorry, pile := r.Intn(v.site.Lorries), r.Intn(v.site.Piles)
	switch kind := r.Intn(8); {
	case kind < 3:
		g := r.Intn(len(backs))
		doing := pass(g, lorry, backs[g])
		if v.at[lorry] == aboard {
			doing.Count += between(r, v.site.Source.Min, v.site.Source.Max)
		}
		may := around(r, backs[g], v.site.Gates[g].Wander, 0, api.MaxCount)
		backs[g] = between(r, may.Min, may.Max)
		return doing
	case kind < 6:
		return tip(lorry, pile)
	case kind < 7 && v.site.Piles > 1:
		return move(pile, (pile+between(r, 1, v.site.Piles-1))%v.site.Piles)
	case slices.Contains(v.at, pile):
		return find(pile)
	}
	return clean(pile)
}

// do does what a doing does to the sources.
func (v *life) do(r *rand.Rand, doing api.Doing) {
	for lorry, where := range v.at {
		if doing.Kind == api.DoTip && doing.A == lorry && where == aboard {
			v.at[lorry] = doing.B
		}
		if doing.Kind == api.DoMove && doing.A == where && r.Intn(2) == 0 {
			v.at[lorry] = doing.B
		}
	}
}

// smallSite returns a site with few truths, sometimes with something that may contradict the rest.
func smallSite(r *rand.Rand) api.Site {
	lorries := between(r, 1, 4)
	s := live(r, size{lorries: lorries, piles: between(r, 1, 3), gates: between(r, 1, 2), doings: r.Intn(9), source: 3, wide: 3}).site
	if r.Intn(3) == 0 {
		s.Most = r.Intn(2)
	}
	if len(s.Doings) > 0 && r.Intn(2) == 0 {
		doing := &s.Doings[r.Intn(len(s.Doings))]
		switch doing.Kind {
		case api.DoPass:
			doing.Count = max(0, doing.Count+between(r, -3, 3))
		case api.DoFind, api.DoClean:
			doing.Kind = api.DoFind + api.DoClean - doing.Kind
		}
	}
	return s
}
