package floor

import "staddle/api"

// heaviest returns a whole set after which a bay has its greatest load.
func (w *floorAtWork) heaviest(bay int) set {
	var heavy set
	for s := range w.wholes() {
		if w.after(s)[bay] > w.after(heavy)[bay] {
			heavy = s
		}
	}
	return heavy
}

// most returns the greatest load of a bay.
func (w *floorAtWork) most(bay int) int { return w.after(w.heaviest(bay))[bay] }

// Most returns the greatest load of a bay.
func Most(f Floor, bay int) (int, api.Errno) {
	w, e := workAt(f, bay)
	if e != api.OK {
		return 0, e
	}
	return w.most(bay), api.OK
}

// Heaviest returns a whole set after which a bay has its greatest load.
func Heaviest(f Floor, bay int) ([]int, api.Errno) {
	w, e := workAt(f, bay)
	if e != api.OK {
		return nil, e
	}
	return w.heaviest(bay).list(), api.OK
}

// Worst returns an order in which a bay has its greatest load.
func Worst(f Floor, bay int) ([]int, api.Errno) {
	w, e := workAt(f, bay)
	if e != api.OK {
		return nil, e
	}
	heavy := w.heaviest(bay)
	w.letPass(func(s set) bool { return s.hasAll(heavy) || heavy.hasAll(s) })
	return w.order(), api.OK
}

// Risk returns the bays that can be overloaded.
func Risk(f Floor) ([]int, api.Errno) {
	w, e := work(f)
	if e != api.OK {
		return nil, e
	}
	var bays []int
	for bay := range len(f.Bears) {
		if w.most(bay) > f.Bears[bay] {
			bays = append(bays, bay)
		}
	}
	return bays, api.OK
}
