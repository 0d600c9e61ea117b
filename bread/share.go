package bread

import (
	"slices"

	"staddle/api"
)

// share gives each baker in turn a sack, as long as there is one, and one is wanted.
func share(sacks int, wants []int) []int {
	shares := make([]int, len(wants))
	for given := true; given; {
		given = false
		for baker, want := range wants {
			if sacks > 0 && shares[baker] < want {
				shares[baker]++
				sacks--
				given = true
			}
		}
	}
	return shares
}

// Share returns the shares that are fair.
func Share(sacks int, wants []int) ([]int, api.Errno) {
	if e := errorOfWants(sacks, wants); e != api.OK {
		return nil, e
	}
	return share(sacks, wants), api.OK
}

// Fair reports whether shares are fair: there is just one list of shares that is.
func Fair(sacks int, wants, shares []int) (bool, api.Errno) {
	if e := errorOfWants(sacks, wants); e != api.OK {
		return false, e
	}
	switch {
	case len(shares) != len(wants):
		return false, api.ErrMany
	case !every(shares, isShare):
		return false, api.ErrRange
	}
	return slices.Equal(shares, share(sacks, wants)), api.OK
}
