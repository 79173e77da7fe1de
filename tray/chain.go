package tray

// freeDyes returns the free dyes of a tray.
func freeDyes(dyes int, tray set) set {
	free := full(dyes)
	// The bracket that was opened last is that of the greatest dye, as the dyes are gone through in order.
	var open set
	for dye := range dyes {
		if !tray.has(dye) {
			open = open.with(dye)
			continue
		}
		if open == 0 {
			continue
		}
		last := open.greatest()
		open = open.without(setOf(last))
		free = free.without(setOf(last, dye))
	}
	return free
}

// chainOf returns the chain of a tray.
func chainOf(dyes int, tray set) []set {
	free := freeDyes(dyes, tray)
	next := tray.without(free)
	chain := []set{next}
	for _, dye := range free.list() {
		next = next.with(dye)
		chain = append(chain, next)
	}
	return chain
}

// firstOfChains returns the first trays of all chains: those without a free dye.
func firstOfChains(dyes int) []set {
	return those(dyes, func(tray set) bool { return tray.without(freeDyes(dyes, tray)) == tray })
}
