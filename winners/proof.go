package winners

import "acequia/api"

// node is a place in a branch tree for a set of a value: the offers before next are decided.
type node struct{ next, chosen int }

// isCut reports whether nothing better can follow a node.
func (v *evaluator) isCut(at node, value int) bool {
	most := v.value(at.chosen)
	for _, o := range v.Offers[at.next:] {
		most += max(0, o.Price)
	}
	return most <= value
}

// isLeaf reports whether what is chosen after the last offer is not better.
func (v *evaluator) isLeaf(at node, value int) bool {
	return at.next == len(v.Offers) && (v.value(at.chosen) <= value || !v.isFeasible(at.chosen))
}

// kids returns the nodes in which the next offer is chosen and left out.
func (at node) kids() [2]node {
	return [2]node{{at.next + 1, at.chosen | 1<<at.next}, {at.next + 1, at.chosen}}
}

// Prove returns a branch tree for a set.
func Prove(m api.Market, set int) (proof []int, ok bool, e api.Errno) {
	v, e := checkSet(m, set)
	if e != api.OK || !v.isFeasible(set) {
		return nil, false, e
	}
	value := v.value(set)
	var write func(at node) bool
	write = func(at node) bool {
		switch {
		case v.isCut(at, value):
			proof = append(proof, api.CutP)
			return true
		case v.isLeaf(at, value):
			proof = append(proof, api.LeafP)
			return true
		case at.next == len(v.Offers):
			return false
		}
		proof = append(proof, api.BranchP)
		kids := at.kids()
		return write(kids[0]) && write(kids[1])
	}
	if !write(node{}) {
		return nil, false, api.OK
	}
	return proof, true, api.OK
}

// wrong is the panic of a reader: the numbers are no branch tree.
type wrong struct{}

// Accepts reports whether a set can be carried out, and some numbers are a branch tree for it.
func Accepts(m api.Market, set int, proof []int) (ok bool, e api.Errno) {
	v, e := checkSet(m, set)
	if e != api.OK {
		return false, e
	}
	if len(proof) > mostProof {
		return false, api.ErrLimit
	}
	return v.isFeasible(set) && v.isTree(v.value(set), proof), api.OK
}

func (v *evaluator) isTree(value int, proof []int) (ok bool) {
	defer func() {
		if recover() != nil {
			ok = false
		}
	}()
	require := func(ok bool) {
		if !ok {
			panic(wrong{})
		}
	}
	var read func(at node)
	read = func(at node) {
		require(len(proof) > 0)
		kind := proof[0]
		proof = proof[1:]
		switch kind {
		case api.BranchP:
			require(at.next < len(v.Offers))
			for _, kid := range at.kids() {
				read(kid)
			}
		case api.CutP:
			require(v.isCut(at, value))
		case api.LeafP:
			require(v.isLeaf(at, value))
		default:
			panic(wrong{})
		}
	}
	read(node{})
	return len(proof) == 0
}
