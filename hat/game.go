package hat

// game is a plan that is played with one colouring.
type game struct {
	Plan
	colouring int
}

// games returns the games of a plan with all colourings, in their order.
func games(p Plan) []game {
	var all []game
	for colouring := range colourings(p.Helpers) {
		all = append(all, game{p, colouring})
	}
	return all
}

// isUnknown tells whether this is nothing that a helper can say.
func isUnknown(said int) bool {
	return said != White && said != Black && said != Pass
}

// say returns what each helper says.
func (g game) say() []int {
	said := make([]int, g.Helpers)
	for helper, says := range g.Says {
		said[helper] = says[seen(g.colouring, helper)]
	}
	return said
}

// guesses returns how many helpers name a colour that is right, and how many one that is wrong.
func (g game) guesses() (right, wrong int) {
	for helper, said := range g.say() {
		switch said {
		case Pass:
		case hatOf(g.colouring, helper):
			right++
		default:
			wrong++
		}
	}
	return right, wrong
}

func (g game) isWon() bool {
	right, wrong := g.guesses()
	return right > 0 && wrong == 0
}
