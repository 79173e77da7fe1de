package packet

// The tests compare the package with a search through all fillings, which follows chapter 1 word by word.

import (
	"math/rand"
	"slices"
)

func list(numbers ...int) []int { return numbers }

// allFillings returns all fillings of n from the stock, in ascending order.
func allFillings(sizes, stock []int, n int) [][]int {
	if len(sizes) == 0 {
		if n == 0 {
			return [][]int{{}}
		}
		return nil
	}
	var all [][]int
	for packets := 0; packets <= stock[0] && packets*sizes[0] <= n; packets++ {
		for _, rest := range allFillings(sizes[1:], stock[1:], n-packets*sizes[0]) {
			all = append(all, append([]int{packets}, rest...))
		}
	}
	return all
}

func sum(numbers []int) int {
	s := 0
	for _, x := range numbers {
		s += x
	}
	return s
}

func weight(sizes, packets []int) int {
	s := 0
	for i := range sizes {
		s += sizes[i] * packets[i]
	}
	return s
}

// best returns the best one of fillings that are in ascending order, or nil.
func best(all [][]int) []int {
	var found []int
	for _, filling := range all {
		if found == nil || sum(filling) < sum(found) {
			found = filling
		}
	}
	return found
}

// plenty returns a stock that has, of each size, as many packets as n has feathers, divided by the size.
func plenty(sizes []int, n int) []int {
	stock := make([]int, len(sizes))
	for i, size := range sizes {
		stock[i] = (n + size - 1) / size
	}
	return stock
}

// madeUpTo returns which numbers up to last can be made, found number by number.
func madeUpTo(sizes []int, last int) []bool {
	made := make([]bool, last+1)
	made[0] = true
	for n := 1; n <= last; n++ {
		for _, size := range sizes {
			if size <= n && made[n-size] {
				made[n] = true
			}
		}
	}
	return made
}

// someSizes returns all lists of at most three sizes up to 8, the greatest ones, and some others, the same in each run.
func someSizes() [][]int {
	lists := [][]int{{30}, {29, 30}, {28, 29, 30}, {1, 30}, {26, 27, 28, 29, 30}, {6, 10, 15}, {6, 10, 15, 30}, {12, 20, 30}, {1, 2, 3, 4, 5}, {10, 15, 20, 25, 30}}
	for a := 1; a <= 8; a++ {
		lists = append(lists, list(a))
		for b := a + 1; b <= 8; b++ {
			lists = append(lists, list(a, b))
			for c := b + 1; c <= 8; c++ {
				lists = append(lists, list(a, b, c))
			}
		}
	}
	r := rand.New(rand.NewSource(1))
	for range 60 {
		sizes := r.Perm(MaxSize)[:1+r.Intn(MaxKinds)]
		slices.Sort(sizes)
		for i := range sizes {
			sizes[i]++
		}
		lists = append(lists, sizes)
	}
	return lists
}

// someStocks returns small stocks for sizes, the same in each run.
func someStocks(sizes []int) [][]int {
	r := rand.New(rand.NewSource(int64(sum(sizes))))
	stocks := [][]int{make([]int, len(sizes))}
	for range 3 {
		stock := make([]int, len(sizes))
		for i := range stock {
			stock[i] = r.Intn(5)
		}
		stocks = append(stocks, stock)
	}
	return stocks
}
