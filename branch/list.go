package branch

import "slices"

// places returns how many numbers the list of a tree has.
func places(knots int) int {
	return max(knots-2, 0)
}

// written returns the list of a tree. While more than two knots are left, the outer ones are the leaves.
func written(t Tree) []int {
	w := workOn(t)
	var list []int
	for range places(t.Knots) {
		leaf := w.outer()[0]
		list = append(list, w.neighbours(leaf)[0])
		w.do(takeOff{leaf})
	}
	return list
}

// read returns the tidy tree with a list. Of the knots that are left those that the rest of the list does not
// name are the leaves, since a knot is named once for each tie that it loses before it is a leaf.
func read(knots int, list []int) Tree {
	w := loose(knots)
	var left []int
	for knot := range knots {
		left = append(left, knot)
	}
	for i, knot := range list {
		at := slices.IndexFunc(left, func(knot int) bool { return !slices.Contains(list[i:], knot) })
		w.do(join{[2]int{left[at], knot}})
		left = slices.Delete(left, at, at+1)
	}
	if len(left) == 2 {
		w.do(join{[2]int(left)})
	}
	return w.tidy()
}

// count returns the number of trees: each place of a list can have each knot.
func count(knots int) int {
	trees := 1
	for range places(knots) {
		trees *= knots
	}
	return trees
}

// numberOf returns the number of a list: its knots are the digits.
func numberOf(knots int, list []int) int {
	number := 0
	for _, knot := range list {
		number = number*knots + knot
	}
	return number
}

// listOf returns the list with a number.
func listOf(knots, number int) []int {
	list := make([]int, places(knots))
	for i := range list {
		list[len(list)-1-i] = number % knots
		number /= knots
	}
	return list
}

// with returns the number of trees with some degrees, that is the number of orders of a list in which each
// knot occurs once less than its degree says.
func with(degrees []int) int {
	if len(degrees) == 1 {
		return 1
	}
	if slices.Contains(degrees, 0) {
		return 0
	}
	trees := product(len(degrees) - 2)
	for _, degree := range degrees {
		trees /= product(degree - 1)
	}
	return trees
}

// product returns the product of all numbers from 1 to a number.
func product(number int) int {
	if number < 2 {
		return 1
	}
	return number * product(number-1)
}
