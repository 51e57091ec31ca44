package ties

import (
	"slices"

	"gatehouse/api"
	"gatehouse/words"
)

// A crowd has a bit for each user that stands in a node.
type crowd uint64

// There are no more users than tuples: this does not compile if a crowd has too few bits for them.
const _ crowd = 1 << (api.MaxTuples - 1)

func only(user int) crowd {
	return 1 << user
}

func (c crowd) has(user int) bool {
	return c&only(user) != 0
}

// settle lets the crowds grow, from nobody on, until none does any more: so they are the least. A crowd that grew can let only those grow that name it.
func (t *Ties) settle(nodes []complex128) {
	namers := t.namers(nodes)
	for len(nodes) > 0 {
		next := counted[complex128]()
		for _, node := range slices.Backward(nodes) {
			if !t.grows(node) {
				continue
			}
			for _, namer := range namers[node] {
				next.number(namer)
			}
		}
		nodes = next.values
	}
}

// namers tells for each node which of the nodes name it.
func (t *Ties) namers(nodes []complex128) map[complex128][]complex128 {
	namers := map[complex128][]complex128{}
	for _, node := range nodes {
		for _, name := range t.names(node) {
			namers[name] = append(namers[name], node)
		}
	}
	return namers
}

func (t *Ties) grows(node complex128) bool {
	before := t.who[node]
	t.who[node] = t.told(node, t.way(node))
	return t.who[node] != before
}

// told is who stands in a node by a way, as far as the crowds have grown.
func (t *Ties) told(node complex128, way words.Way) crowd {
	switch way.Is {
	case words.Any:
		return t.inOne(node, way.Parts)
	case words.All:
		return t.inEach(node, way.Parts)
	}
	var all crowd
	for _, name := range t.named(node, way) {
		all |= t.who[name]
	}
	return all
}

func (t *Ties) inOne(node complex128, ways []words.Way) crowd {
	var all crowd
	for _, way := range ways {
		all |= t.told(node, way)
	}
	return all
}

func (t *Ties) inEach(node complex128, ways []words.Way) crowd {
	each := ^crowd(0)
	for _, way := range ways {
		each &= t.told(node, way)
	}
	return each
}
