package packet

import "aigrette/api"

// noFilling stands for the number of packets where there is no filling: more packets than any has.
const noFilling = MaxTotal + 1

// enough returns a stock that lacks nothing to fill n.
func enough(sizes []int, n int) []int {
	stock := make([]int, len(sizes))
	for i, size := range sizes {
		stock[i] = n / size
	}
	return stock
}

// bestFilling returns the best filling of n from a stock, which may be greater than MaxStock here.
// It takes of each size, one after the other, as few packets as leave the whole number the fewest:
// so the filling is the smallest list of those with so few packets.
func bestFilling(sizes, stock []int, n int) ([]int, api.Errno) {
	fewest := fewestPackets(sizes, stock, n)
	if fewest[0][n] == noFilling {
		return nil, api.ErrLost
	}
	filling := make([]int, len(sizes))
	rest := n
search:
	for i, size := range sizes {
		for packets := range stock[i] + 1 {
			left := rest - packets*size
			if left >= 0 && packets+fewest[i+1][left] == fewest[i][rest] {
				filling[i] = packets
				rest = left
				continue search
			}
		}
	}
	return filling, api.OK
}

// fewestPackets returns, for each index i of sizes and the one behind them, and for each number up
// to n, how few packets of the sizes from i on fill it, or noFilling.
func fewestPackets(sizes, stock []int, n int) [][]int {
	table := make([][]int, len(sizes)+1)
	table[len(sizes)] = make([]int, n+1)
	for m := 1; m <= n; m++ {
		table[len(sizes)][m] = noFilling
	}
	for i := len(sizes) - 1; i >= 0; i-- {
		table[i] = fewestWith(table[i+1], sizes[i], stock[i])
	}
	return table
}

// fewestWith returns what becomes of a row of fewestPackets with so many packets of one more size.
func fewestWith(without []int, size, packets int) []int {
	with := make([]int, len(without))
	for n := range with {
		with[n] = noFilling
		for p := 0; p <= packets && p*size <= n; p++ {
			with[n] = min(with[n], p+without[n-p*size])
		}
	}
	return with
}

// countFillings returns, for each number up to last, how many fillings from the stock it has.
func countFillings(sizes, stock []int, last int) []int {
	ways := make([]int, last+1)
	ways[0] = 1
	for i, size := range sizes {
		ways = countWith(ways, size, stock[i])
	}
	return ways
}

// countWith returns what becomes of a row of countFillings with so many packets of one more size.
// The fillings of n are those without this size, and those of n - size with a packet more; but
// those that have one packet too many then are taken away again.
func countWith(without []int, size, packets int) []int {
	with := make([]int, len(without))
	tooMany := (packets + 1) * size
	for n := range with {
		with[n] = without[n]
		if n >= size {
			with[n] += with[n-size]
		}
		if n >= tooMany {
			with[n] -= without[n-tooMany]
		}
	}
	return with
}

// fillable returns a function that tells of a number up to last whether it has a filling from the stock.
func fillable(sizes, stock []int, last int) func(n int) bool {
	ways := countFillings(sizes, stock, last)
	return func(n int) bool { return n >= 0 && n <= last && ways[n] > 0 }
}
