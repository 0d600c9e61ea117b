package bread

import (
	"slices"

	"staddle/api"
)

// play returns the state now, and those after each year: year by year the errors of the ration, and of the harvest.
func (w townAtWork) play(rations []int, bad []bool) ([]State, api.Errno) {
	played := []State{w.Now}
	for year, ration := range rations {
		w = w.in(played[year])
		if e := w.errorOfYear(ration, bad[year]); e != api.OK {
			return nil, e
		}
		played = append(played, w.next(ration, bad[year]))
	}
	return played, api.OK
}

// Allowed returns the rations that are allowed in a state.
func Allowed(t Town, s State) ([]int, api.Errno) {
	w, e := workIn(t, s)
	if e != api.OK {
		return nil, e
	}
	return w.allowed(), api.OK
}

// Next returns the state after a year.
func Next(t Town, s State, ration int, bad bool) (State, api.Errno) {
	w, e := workIn(t, s)
	if e != api.OK {
		return State{}, e
	}
	played, e := w.play([]int{ration}, []bool{bad})
	if e != api.OK {
		return State{}, e
	}
	return played[1], api.OK
}

// Play returns the states after all years.
func Play(t Town, rations []int, bad []bool) ([]State, api.Errno) {
	w, e := work(t)
	if e != api.OK {
		return nil, e
	}
	if len(rations) != len(bad) || len(rations) > MaxYears {
		return nil, api.ErrMany
	}
	played, e := w.play(rations, bad)
	if e != api.OK {
		return nil, e
	}
	after := make([]State, len(rations))
	copy(after, played[1:])
	return after, api.OK
}

// Year returns the town after a year.
func Year(t Town, ration int, bad bool) (Town, api.Errno) {
	next, e := Next(t, t.Now, ration, bad)
	if e != api.OK {
		return Town{}, e
	}
	t.Now = next
	t.Rations = slices.Clone(t.Rations)
	return t, api.OK
}
