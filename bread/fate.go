package bread

import "staddle/api"

// find keeps a fate, unless one with no more Bads was found of its state.
func (w townAtWork) find(f Fate) {
	if bads, ok := w.found[f.State]; !ok || f.Bads < bads {
		w.found[f.State] = f.Bads
	}
}

// leadsOn reports whether after a ration a harvest can come that leads to a fate which was found, with few enough Bads.
func (w townAtWork) leadsOn(ration, most int) bool {
	for bads, next := range w.nexts(ration) {
		if found, ok := w.found[next]; ok && found+bads <= most {
			return true
		}
	}
	return false
}

// isSealed reports whether a fate holds after those that were found.
func (w townAtWork) isSealed(f Fate) bool {
	at := w.in(f.State)
	return every(at.allowed(), func(ration int) bool { return at.leadsOn(ration, f.Bads) })
}

// fates returns fates that hold up to that of the town, which must not last Ever. Each state that does not last Ever is found
// some time, and no other one is: some ration leads from it to such states alone.
func (w townAtWork) fates(l *lasting) []Fate {
	var fates []Fate
	for {
		for s := range w.states() {
			f := Fate{State: s, Bads: l.of(s) + 1}
			if _, known := w.found[s]; known || !w.isSealed(f) {
				continue
			}
			w.find(f)
			fates = append(fates, f)
			if s == w.Now {
				return fates
			}
		}
	}
}

// Fates returns fates that hold.
func Fates(t Town) ([]Fate, api.Errno) {
	w, e := work(t)
	if e != api.OK {
		return nil, e
	}
	l := w.lasting()
	if l.of(w.Now) == Ever {
		return nil, api.ErrNone
	}
	return w.fates(&l), api.OK
}

// Starves returns the least number of bad harvests of fates of the town that hold.
func Starves(t Town, fates []Fate) (int, api.Errno) {
	w, e := work(t)
	if e != api.OK {
		return 0, e
	}
	if len(fates) > MaxRows {
		return 0, api.ErrMany
	}
	if e := firstError(fates, w.errorOfFate); e != api.OK {
		return 0, e
	}
	for _, f := range fates {
		if !w.isSealed(f) {
			return 0, api.ErrWrong
		}
		w.find(f)
	}
	bads, ok := w.found[w.Now]
	if !ok {
		return 0, api.ErrNone
	}
	return bads, api.OK
}
