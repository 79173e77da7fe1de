package tray

import (
	"slices"

	"aigrette/api"
)

func isCount(dyes int) bool {
	return dyes >= 1 && dyes <= MaxDyes
}

func isSize(dyes, size int) bool {
	return size >= 0 && size <= dyes
}

// lay returns the trays of a shelf, or its error.
func lay(s Shelf) ([]set, api.Errno) {
	if !isCount(s.Dyes) {
		return nil, api.ErrRange
	}
	var trays []set
	for _, tray := range s.Trays {
		if e := checkTray(s.Dyes, tray); e != api.OK {
			return nil, e
		}
		laid := setOf(tray...)
		if slices.Contains(trays, laid) {
			return nil, api.ErrTwice
		}
		trays = append(trays, laid)
	}
	return trays, api.OK
}

// layOne returns a tray that is alone on its shelf, or the error of that shelf.
func layOne(dyes int, tray ...int) (set, api.Errno) {
	trays, e := lay(Shelf{Dyes: dyes, Trays: [][]int{tray}})
	if e != api.OK {
		return 0, e
	}
	return trays[0], api.OK
}

// checkTray returns the error of the first element of a tray that has one.
func checkTray(dyes int, tray []int) api.Errno {
	for i, dye := range tray {
		if dye < 0 || dye >= dyes {
			return api.ErrNone
		}
		if i > 0 && dye <= tray[i-1] {
			return api.ErrOrder
		}
	}
	return api.OK
}

// those returns all wanted trays. As they come in the order of the sets, those with as many dyes come in
// the order of their numbers.
func those(dyes int, wanted func(tray set) bool) []set {
	var trays []set
	for tray := range full(dyes) + 1 {
		if wanted(tray) {
			trays = append(trays, tray)
		}
	}
	return trays
}

// ofSize returns all trays with as many dyes, in the order of their numbers.
func ofSize(dyes, size int) []set {
	return those(dyes, func(tray set) bool { return tray.size() == size })
}

// shadowOf returns the trays that are just inside one of some trays.
func shadowOf(dyes int, trays []set) []set {
	return those(dyes, func(tray set) bool { return slices.ContainsFunc(trays, tray.isJustInside) })
}

// shadeOf returns the trays that one of some trays is just inside of.
func shadeOf(dyes int, trays []set) []set {
	return those(dyes, func(tray set) bool {
		return slices.ContainsFunc(trays, func(inner set) bool { return inner.isJustInside(tray) })
	})
}

// ascending returns the trays in the order of their lists, which is not that of the sets.
func ascending(trays []set) []set {
	return slices.SortedFunc(slices.Values(trays), func(one, other set) int {
		return slices.Compare(one.list(), other.list())
	})
}

// collect returns what is made of each of some trays.
func collect[T any](trays []set, made func(tray set) T) []T {
	var all []T
	for _, tray := range trays {
		all = append(all, made(tray))
	}
	return all
}

// ordersPast returns the number of orders that pass none of some trays. To each tray lead the orders of
// its dyes that lead to it without the last one.
func ordersPast(dyes int, trays []set) int {
	orders := make([]int, full(dyes)+1)
	for tray := range full(dyes) + 1 {
		switch {
		case slices.Contains(trays, tray):
			orders[tray] = 0
		case tray == 0:
			orders[tray] = 1
		default:
			for _, last := range tray.list() {
				orders[tray] += orders[tray.without(setOf(last))]
			}
		}
	}
	return orders[full(dyes)]
}
