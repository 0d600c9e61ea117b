package bread

import "staddle/api"

// without returns how many bad harvests must be lasted after some of a number.
func without(lasts, bads int) int {
	if lasts == Ever {
		return Ever
	}
	return lasts - bads
}

// holds reports whether after each row come states that last no less, or no less than one less after a bad harvest.
func (w townAtWork) holds(table []Row, l *lasting) bool {
	holds := true
search:
	for _, row := range table {
		for bads, next := range w.in(row.State).nexts(row.Ration) {
			if l.of(next) < without(row.Lasts, bads) {
				holds = false
				break search
			}
		}
	}
	return holds
}

// Table returns a table that holds.
func Table(t Town) ([]Row, api.Errno) {
	w, l, e := workFed(t)
	if e != api.OK {
		return nil, e
	}
	var table []Row
	for s := range w.states() {
		if lasts := l.of(s); lasts != Never {
			table = append(table, Row{State: s, Lasts: lasts, Ration: w.in(s).best(&l)[0]})
		}
	}
	return table, api.OK
}

// Feeds returns what the row of the town lasts in a table that holds.
func Feeds(t Town, table []Row) (int, api.Errno) {
	w, e := work(t)
	if e != api.OK {
		return 0, e
	}
	if len(table) > MaxRows {
		return 0, api.ErrMany
	}
	if e := firstError(table, w.errorOfRow); e != api.OK {
		return 0, e
	}
	l := w.everywhere(Never)
	for _, row := range table {
		if l.of(row.State) != Never {
			return 0, api.ErrTwice
		}
		l.set(row.State, row.Lasts)
	}
	switch {
	case !w.holds(table, &l):
		return 0, api.ErrWrong
	case l.of(w.Now) == Never:
		return 0, api.ErrNone
	}
	return l.of(w.Now), api.OK
}
