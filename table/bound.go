package table

import "tripwire/api"

// boundOf is how many steps and actions one state can need: all its guards may be asked, and one of them is done.
func boundOf(guards []api.Guard) api.Cost {
	asked, done, acts := 0, 0, 0
	for _, g := range guards {
		asked += length(g.When)
		done = max(done, steps(g.Rows))
		acts = max(acts, actions(g.Rows))
	}
	return api.Cost{Steps: asked + done, Acts: acts}
}

func length(x api.Span) int { return x.To - x.From }

func steps(rows []api.Row) int {
	n := 0
	for _, row := range rows {
		for _, x := range has(row) {
			n += length(x)
		}
	}
	return n
}

func actions(rows []api.Row) int {
	n := 0
	for _, row := range rows {
		switch row.Kind {
		case api.DoSubmit, api.DoAmend, api.DoCancel:
			n++
		}
	}
	return n
}
