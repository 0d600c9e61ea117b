package stock

import "staddle/api"

// filled returns a yard at work with flows within their bounds: the errors of Check, then ErrClash.
func filled(y Yard) (*yardAtWork, api.Errno) {
	if e := Check(y); e != api.OK {
		return nil, e
	}
	w := workWithAll(y)
	if !w.fill() {
		return nil, api.ErrClash
	}
	return w, api.OK
}

// spans returns for each time what the flow of this time can have.
func (w *yardAtWork) spans(flowAt func(time int) int) []api.Span {
	var all []api.Span
	for time := range w.Days + 1 {
		all = append(all, w.span(flowAt(time)))
	}
	return all
}

// boundsOf returns the bounds of a bin that there is, at each time.
func boundsOf(y Yard, bin int) ([]api.Span, api.Errno) {
	w, e := filled(y)
	if e != api.OK {
		return nil, e
	}
	return w.spans(func(time int) int { return w.contents(bin, time) }), api.OK
}

// Bounds returns the least and the greatest contents of a bin at each time.
func Bounds(y Yard, bin int) ([]api.Span, api.Errno) {
	if e := checkWith(y, bin, y.hasBin); e != api.OK {
		return nil, e
	}
	return boundsOf(y, bin)
}

// Moved returns the least and the greatest number of sacks of a move.
func Moved(y Yard, move int) (api.Span, api.Errno) {
	if e := checkWith(y, move, y.hasMove); e != api.OK {
		return api.Span{}, e
	}
	w, e := filled(y)
	if e != api.OK {
		return api.Span{}, e
	}
	return w.span(move), api.OK
}

// Whole returns the least and the greatest contents of all bins at each time.
func Whole(y Yard) ([]api.Span, api.Errno) {
	w, e := filled(y)
	if e != api.OK {
		return nil, e
	}
	return w.spans(w.whole), api.OK
}

// firstTime returns the first time at which a bin has contents as they are asked to be.
func firstTime(y Yard, bin, sacks int, is func(s api.Span) bool) (int, api.Errno) {
	if e := checkSacks(y, bin, sacks); e != api.OK {
		return 0, e
	}
	spans, e := boundsOf(y, bin)
	if e != api.OK {
		return 0, e
	}
	for time, s := range spans {
		if is(s) {
			return time, api.OK
		}
	}
	return 0, api.ErrNone
}

// Surely returns the first time at which a bin has at least so many sacks for certain.
func Surely(y Yard, bin, sacks int) (int, api.Errno) {
	return firstTime(y, bin, sacks, func(s api.Span) bool { return s.Lo >= sacks })
}

// Perhaps returns the first time at which a bin can have at least so many sacks.
func Perhaps(y Yard, bin, sacks int) (int, api.Errno) {
	return firstTime(y, bin, sacks, func(s api.Span) bool { return s.Hi >= sacks })
}
