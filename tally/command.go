package tally

import (
	"tallyhouse/api"
	"tallyhouse/plan"
	"tallyhouse/token"
)

// obey a command. All that stands in it is read ahead of anything that is done:
// where it can't be read the command ends.
func (m *Machine) obey(line string) api.Result {
	word, parts := headed(line)
	switch word {
	case "make":
		want(len(parts) == 2)
		return m.makeTable(nameIn(parts[0]), token.Each(listed(parts[1]), columnIn))
	case "add":
		want(len(parts) >= 1)
		return m.add(nameIn(parts[0]), token.Each(parts[1:], rowIn))
	case "take":
		want(len(parts) >= 1)
		return m.take(nameIn(parts[0]), token.Each(parts[1:], rowIn))
	case "view":
		want(len(parts) == 2)
		return m.makeView(nameIn(parts[0]), planIn(parts[1]))
	case "drop":
		return m.drop(nameIn(only(parts)))
	case "show":
		return m.show(nameIn(only(parts)))
	case "ask":
		return m.ask(planIn(only(parts)))
	case "explain":
		return m.explain(planIn(only(parts)))
	case "merge":
		return m.merge(nameIn(only(parts)))
	}
	panic(end{api.ErrText})
}

// want this of a line, or it is no command.
func want(so bool) { refuse(!so, api.ErrText) }

// sure of what was read, if it could be.
func sure[T any](what T, ok bool) T {
	want(ok)
	return what
}

// headed: the word that a command begins with, and what stands behind it.
func headed(line string) (string, []token.Tree) {
	refuse(len(line) > api.MaxLine, api.ErrLarge)
	parts := listed(sure(token.Read(line)))
	want(len(parts) > 0 && parts[0].Kind == token.Word)
	return parts[0].S, parts[1:]
}

// only one part: this.
func only(parts []token.Tree) token.Tree {
	want(len(parts) == 1)
	return parts[0]
}

// listed: the parts of a tree that is a list.
func listed(tree token.Tree) []token.Tree {
	want(tree.Kind == token.List)
	return tree.Parts
}

func nameIn(tree token.Tree) string { return sure(plan.NameIn(tree)) }

func columnIn(tree token.Tree) api.Column {
	parts := listed(tree)
	want(len(parts) == 2)
	return api.Column{Name: nameIn(parts[0]), Kind: sure(plan.KindIn(parts[1]))}
}

func rowIn(tree token.Tree) []api.Value { return token.Each(listed(tree), valueIn) }

func valueIn(tree token.Tree) api.Value { return sure(plan.ValueIn(tree)) }

// planIn a tree; it is built.
func planIn(tree token.Tree) api.Plan {
	p := sure(plan.PlanIn(tree))
	why := plan.Built(p)
	refuse(why != api.OK, why)
	return p
}
