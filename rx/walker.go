package rx

import "hackle/api"

// walker goes along the nodes of trees, each ahead of its Subs, from the left.
type walker []api.Re

// nodes tells each node, and how deep it stands.
// What is still ahead stands in rows, not in nested calls: a tree that may not be can be deeper than those go.
func (w walker) nodes(yield func(n *api.Re, deep int) bool) {
	rows := [][]api.Re{w}
	for len(rows) > 0 {
		deep := len(rows)
		row := rows[deep-1]
		if len(row) == 0 {
			rows = rows[:deep-1]
			continue
		}
		rows[deep-1] = row[1:]
		if !yield(&row[0], deep) {
			return
		}
		// Only now, so that who was told the node may have given it other Subs.
		rows = append(rows, row[0].Sub)
	}
}

// clone is l in new memory, down to the last node.
func clone(l []api.Re) []api.Re {
	w := append(walker(nil), l...)
	for n := range w.nodes {
		n.Sub = append([]api.Re(nil), n.Sub...)
	}
	return w
}
