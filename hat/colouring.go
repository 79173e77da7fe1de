package hat

// isCount tells whether there can be so many helpers.
func isCount(helpers int) bool {
	return helpers >= 1 && helpers <= MaxHelpers
}

// colourings returns how many colourings there are.
func colourings(helpers int) int {
	return 1 << helpers
}

// views returns how many numbers each helper can see.
func views(helpers int) int {
	return colourings(helpers - 1)
}

func isColouring(helpers, colouring int) bool {
	return colouring >= 0 && colouring < colourings(helpers)
}

// hatOf returns the colour of a helper's hat.
func hatOf(colouring, helper int) int {
	if colouring>>helper&1 == 1 {
		return Black
	}
	return White
}

// changed returns the colouring with the other hat for one helper.
func changed(colouring, helper int) int {
	return colouring ^ 1<<helper
}

// seen returns what a helper sees: the colouring without the digit of this one's hat.
func seen(colouring, helper int) int {
	below := colouring % (1 << helper)
	above := colouring >> (helper + 1)
	return above<<helper + below
}

// bothOf returns the colourings in which a helper sees this, with a white and with a black hat.
func bothOf(view, helper int) (white, black int) {
	below := view % (1 << helper)
	above := view >> helper
	white = above<<(helper+1) + below
	return white, changed(white, helper)
}
