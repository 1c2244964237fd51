package cost

import "tripwire/api"

// weight is that of an expression whose nodes may all be.
func weight(n api.Node) int {
	sum := 0
	weigh(n, func(more int) { sum += more })
	return sum
}

// weigh hands the weights of an expression's parts to add, which knows what they are for.
func weigh(n api.Node, add func(more int)) {
	switch n.Kind {
	case api.NodeConv:
		weigh(n.Kids[0], add)
	case api.NodeCond:
		add(2)
		weigh(n.Kids[0], add)
		// Only one of the two is ever reckoned.
		add(greatest(n.Kids[1:], weight))
	default:
		add(1)
		for _, kid := range n.Kids {
			weigh(kid, add)
		}
	}
}

// greatest is the greatest number that is told of one of these things; without things it is 0.
func greatest[T any](things []T, told func(T) int) int {
	most := 0
	for _, x := range things {
		most = max(most, told(x))
	}
	return most
}
