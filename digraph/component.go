package digraph

// postorder answers every node once, behind all nodes that a search of the deepest nodes first finds from it.
func postorder(g [][]int) []int {
	var order, open []int
	entered := make([]bool, len(g))
	followed := make([]int, len(g)) // how many of a node's successors have been looked at
	enter := func(v int) {
		entered[v] = true
		open = append(open, v)
	}
	for root := range g {
		if !entered[root] {
			enter(root)
		}
	visit:
		for len(open) > 0 {
			v := open[len(open)-1]
			for followed[v] < len(g[v]) {
				w := g[v][followed[v]]
				followed[v]++
				if isNode(g, w) && !entered[w] {
					enter(w)
					continue visit
				}
			}
			open = open[:len(open)-1]
			order = append(order, v)
		}
	}
	return order
}

// components answers for each node one that stands for all nodes from which paths lead to it and back
// (by the algorithm of Kosaraju and Sharir).
func components(g [][]int) []int {
	component := filled(len(g), none)
	reversed := Reverse(g)
	order := postorder(g)
	for i := len(order) - 1; i >= 0; i-- {
		root := order[i]
		if component[root] != none {
			continue
		}
		component[root] = root
		search(reversed, root, none, func(_, w int) bool {
			if component[w] != none {
				return false
			}
			component[w] = root
			return true
		})
	}
	return component
}

// smallestOnCycle answers the smallest node that lies on a cycle, or none. A node lies on one exactly if an edge leads
// from it to a node of its component.
func smallestOnCycle(g [][]int) int {
	component := components(g)
	for v, successors := range g {
		for _, w := range successors {
			if isNode(g, w) && component[v] == component[w] {
				return v
			}
		}
	}
	return none
}
