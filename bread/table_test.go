package bread_test

import (
	"math/rand/v2"
	"slices"
	"testing"

	"staddle/api"
	"staddle/bread"
)

// errorOfRows says what is wrong with rows of a table one by one, by the words of the chapter.
func errorOfRows(w bread.Town, table []bread.Row) api.Errno {
	if len(table) > 496 {
		return api.ErrMany
	}
	for _, x := range table {
		if !isState(w, x.State) || x.Lasts < 0 || x.Lasts > 1000000 {
			return api.ErrRange
		}
		if e := errorOfYear(w, x.State, x.Ration, false); e != api.OK {
			return e
		}
	}
	return api.OK
}

// rowOf is the index of the first row with a state, or -1.
func rowOf(table []bread.Row, s bread.State) int {
	return slices.IndexFunc(table, func(x bread.Row) bool { return x.State == s })
}

// isHeld says whether a row of a table holds, by the words of the chapter.
func isHeld(w bread.Town, table []bread.Row, x bread.Row) bool {
	good := rowOf(table, after(w, x.State, x.Ration, false))
	if good < 0 || table[good].Lasts < x.Lasts {
		return false
	}
	if x.Lasts == 0 || !canBeBad(w, x.State) {
		return true
	}
	bad := rowOf(table, after(w, x.State, x.Ration, true))
	if bad < 0 {
		return false
	}
	return table[bad].Lasts == ever || x.Lasts != ever && table[bad].Lasts >= x.Lasts-1
}

// fed is what a table shows, by the words of the chapter.
func fed(w bread.Town, table []bread.Row) (int, api.Errno) {
	if e := errorOfRows(w, table); e != api.OK {
		return 0, e
	}
	for i, x := range table {
		if rowOf(table, x.State) < i {
			return 0, api.ErrTwice
		}
	}
	for _, x := range table {
		if !isHeld(w, table, x) {
			return 0, api.ErrWrong
		}
	}
	now := rowOf(table, w.Now)
	if now < 0 {
		return 0, api.ErrNone
	}
	return table[now].Lasts, api.OK
}

// TestTable asks whether tables hold, by the words of the chapter and by Feeds.
func TestTable(t *testing.T) {
	var classes [4]int
	trials(t, 200, func(r *rand.Rand, w bread.Town) {
		lasts, want := lastsOf(w)[w.Now], api.OK
		if lasts == never {
			want = api.ErrNone
		}
		table, e := bread.Table(w)
		if e != want || e != api.OK && len(table) > 0 || len(table) > bread.MaxRows {
			t.Error(w, "has table", table, e, "and should have error", want)
		}
		classes[class(lasts)]++
		if e != api.OK {
			return
		}
		n, f := fed(w, table)
		m, g := bread.Feeds(w, table)
		if n != lasts || f != api.OK || m != lasts || g != api.OK {
			t.Error(w, "lasts", lasts, "and its table", table, "shows", n, f, m, g)
		}
	})
	if !isMixed(classes, 50) {
		t.Error("so many of each class:", classes)
	}
}

// TestTheTableFeedsTheTown sells what the rows say for many years, with any harvests.
func TestTheTableFeedsTheTown(t *testing.T) {
	spent := 0
	trials(t, 100, func(r *rand.Rand, w bread.Town) {
		table, e := bread.Table(w)
		if e != api.OK {
			return
		}
		s := w.Now
		left := table[rowOf(table, s)].Lasts
		for range 100 {
			k := rowOf(table, s)
			if k < 0 {
				t.Fatal("in", w, table, "there is no row for", s)
			}
			bad := left > 0 && canBeBad(w, s) && r.IntN(3) > 0
			if bad && left != ever {
				if left--; left == 0 {
					spent++
				}
			}
			next, e := bread.Next(w, s, table[k].Ration, bad)
			if e != api.OK {
				t.Fatal("in", w, s, "the row of", table, "is not allowed:", e)
			}
			s = next
		}
	})
	if spent < 50 {
		t.Error("just", spent, "had as many bad harvests as they last")
	}
}

func TestFeeds(t *testing.T) {
	w := hut(2, 1, 2, 0)
	full, dry, empty := state(2, 0, 0), state(1, 0, 1), state(0, 0, 0)
	late := at(w, state(2, 1, 0))
	late.Patience = 1
	many := func(n int, all ...bread.Row) []bread.Row {
		return append(slices.Repeat(rows(row(full, 0, 0)), n-len(all)), all...)
	}
	for _, x := range []struct {
		name  string
		w     bread.Town
		table []bread.Row
		n     int
		e     api.Errno
	}{
		{"for ever", w, rows(row(full, ever, 0), row(dry, ever, 0)), ever, api.OK}, {"for ever, the other way round", w, rows(row(dry, ever, 0), row(full, ever, 0)), ever, api.OK},
		{"for ever, and nearly so after a bad harvest", w, rows(row(full, ever, 0), row(dry, ever-1, 0)), 0, api.ErrWrong}, {"nearly for ever", w, rows(row(full, ever-1, 0), row(dry, ever-2, 0)), ever - 1, api.OK},
		{"nearly for ever, and two less", w, rows(row(full, ever-1, 0), row(dry, ever-3, 0)), 0, api.ErrWrong}, {"nearly for ever, and for ever after it", w, rows(row(full, ever-1, 0), row(dry, ever, 0)), 0, api.ErrWrong},
		{"5, and one less", w, rows(row(dry, 4, 0), row(full, 5, 0)), 5, api.OK}, {"5, and two less", w, rows(row(dry, 3, 0), row(full, 5, 0)), 0, api.ErrWrong}, {"5, and as many", w, rows(row(dry, 5, 0), row(full, 5, 0)), 5, api.OK},
		{"5, and one more", w, rows(row(dry, 6, 0), row(full, 5, 0)), 0, api.ErrWrong}, {"1, and none", w, rows(row(dry, 0, 0), row(full, 1, 0)), 1, api.OK},
		{"none, and no row after a bad harvest", w, rows(row(full, 0, 0)), 0, api.OK}, {"1, and no row after a bad harvest", w, rows(row(full, 1, 0)), 0, api.ErrWrong}, {"for ever, and no row after a bad harvest", w, rows(row(full, ever, 0)), 0, api.ErrWrong},
		{"no row after a good harvest", w, rows(row(dry, 0, 0)), 0, api.ErrWrong}, {"no row after a good harvest, and none of the town", hut(0, 1, 2, 0), rows(row(dry, 0, 0)), 0, api.ErrWrong},
		{"5, and after it for ever", late, rows(row(late.Now, 5, 0), row(full, ever, 0), row(dry, ever, 0)), 5, api.OK}, {"nearly for ever, and after it for ever", late, rows(row(late.Now, ever-1, 0), row(full, ever, 0), row(dry, ever, 0)), ever - 1, api.OK},
		{"no bad harvests", hut(2, 0, 2, 0), rows(row(full, 7, 0)), 7, api.OK}, {"no bad harvests, for ever", hut(2, 0, 2, 0), rows(row(full, ever, 0)), ever, api.OK},
		{"no row of the town", hut(1, 1, 2, 0), rows(row(full, 0, 0)), 0, api.ErrNone}, {"nothing", w, nil, 0, api.ErrNone},
		{"twice the same", w, many(2), 0, api.ErrTwice}, {"twice the same state", w, rows(row(full, 1, 0), row(dry, 1, 0), row(full, 0, 0)), 0, api.ErrTwice}, {"twice the same state, for ever", w, rows(row(dry, ever, 0), row(dry, ever, 0)), 0, api.ErrTwice},
		{"a ration that is too great, in the end", w, many(3, row(empty, 0, 0)), 0, api.ErrFull}, {"no such ration", w, many(3, row(empty, 0, 1)), 0, api.ErrNot}, {"ration -1", w, many(3, row(empty, 0, -1)), 0, api.ErrNot},
		{"less than no bad harvests", w, many(3, row(empty, -1, 1)), 0, api.ErrRange}, {"more than for ever", w, many(3, row(full, ever+1, 0)), 0, api.ErrRange},
		{"a state of too much", w, many(3, row(state(3, 0, 0), 0, 9)), 0, api.ErrRange}, {"a state of less than nothing", w, many(3, row(state(-1, 0, 0), 0, 0)), 0, api.ErrRange},
		{"a state that is short for too long", w, many(3, row(state(2, 1, 0), 0, 0)), 0, api.ErrRange}, {"a state that is too dry", w, many(3, row(state(2, 0, 2), 0, 0)), 0, api.ErrRange},
		{"a ration that is too great, then another error", w, rows(row(empty, 0, 0), row(empty, 0, 1), row(state(3, 0, 0), 0, 0)), 0, api.ErrFull}, {"no such ration, then another error", w, rows(row(full, 0, 1), row(full, -1, 0)), 0, api.ErrNot},
		{"less than no bad harvests, then another error", w, rows(row(full, -1, 0), row(full, 0, 1)), 0, api.ErrRange},
		{"496 rows", w, many(496), 0, api.ErrTwice}, {"497 rows", w, many(497), 0, api.ErrMany}, {"497 rows that are not allowed", w, make([]bread.Row, 497), 0, api.ErrMany}, {"a million rows", w, make([]bread.Row, 1000000), 0, api.ErrMany},
	} {
		if n, e := bread.Feeds(x.w, x.table); n != x.n || e != x.e {
			t.Error(x.name, "feeds", n, e, "and should feed", x.n, x.e)
		}
		if n, e := fed(x.w, x.table); n != x.n || e != x.e {
			t.Error(x.name, "feeds", n, e, "by the words of the chapter")
		}
	}
}

// TestFeedsOfAllStates has a table of as many rows as is allowed.
func TestFeedsOfAllStates(t *testing.T) {
	w := bread.Town{Now: state(30, 3, 3), Holds: 30, Patience: 3, Run: 3, Rations: []bread.Ration{sold(0, 9)}}
	var all []bread.Row
	for _, s := range allStates(w) {
		all = append(all, row(s, ever, 0))
	}
	if n, e := bread.Feeds(w, all); len(all) != 496 || n != ever || e != api.OK {
		t.Error(len(all), "rows feed", n, e)
	}
	if table, e := bread.Table(w); e != api.OK || len(table) > 496 {
		t.Error("there are", len(table), "rows", e)
	}
}

// someTable is rows of all states that last, or of those to which a town comes, some of them changed.
func someTable(r *rand.Rand, w bread.Town) []bread.Row {
	lasts := lastsOf(w)
	less := r.IntN(4)
	var table []bread.Row
	for _, s := range allStates(w) {
		if can := chosen(at(w, s), lasts); len(can) > 0 {
			n := lasts[s]
			if n != ever || less == 1 {
				n = max(0, n-less)
			}
			table = append(table, row(s, n, can[r.IntN(len(can))]))
		}
	}
	r.Shuffle(len(table), func(i, j int) { table[i], table[j] = table[j], table[i] })
	for range max(0, r.IntN(5)-2) {
		table = spoil(r, w, table)
	}
	return table
}

// spoil changes a table by one row.
func spoil(r *rand.Rand, w bread.Town, table []bread.Row) []bread.Row {
	if len(table) == 0 {
		return rows(row(someState(r, w), r.IntN(3), 0))
	}
	k := r.IntN(len(table))
	switch r.IntN(8) {
	case 0:
		table[k].Lasts += r.IntN(3) - 1
	case 1:
		table[k].Lasts = list(0, 1, ever-2, ever-1, ever)[r.IntN(5)]
	case 2:
		table[k].Ration += r.IntN(3) - 1
	case 3:
		table[k].State = someState(r, w)
	case 4:
		table = append(table, table[k])
	case 5:
		table[k].State.Dry++
	default:
		table = slices.Delete(table, k, k+1)
	}
	return table
}

func TestFeedsByTheWords(t *testing.T) {
	errors := map[api.Errno]int{}
	var classes [4]int
	trials(t, 400, func(r *rand.Rand, w bread.Town) {
		table := someTable(r, w)
		want, e := fed(w, table)
		n, f := bread.Feeds(w, table)
		if n != want || f != e {
			t.Error("in", w, table, "feeds", n, f, "and should feed", want, e)
		}
		if errors[e]++; e == api.OK {
			classes[class(n)]++
		}
	})
	for _, e := range []api.Errno{api.ErrNot, api.ErrRange, api.ErrTwice, api.ErrFull, api.ErrWrong, api.ErrNone} {
		if errors[e] < 20 {
			t.Error("just", errors[e], "have error", e)
		}
	}
	if !isMixed([4]int{errors[api.OK], classes[1], classes[2], classes[3]}, 80) {
		t.Error("so many of each class:", classes)
	}
}
