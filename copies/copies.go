// Package copies copies blocks, for those who keep some and hand some out: of a copy nobody else has a list.
package copies

import (
	"bytes"
	"slices"

	"sporran/api"
)

// Block is a copy of a block.
func Block(b api.Block) api.Block {
	b.Txs = all(b.Txs, transaction)
	return b
}

func transaction(t api.Tx) api.Tx {
	t.In, t.Out = all(t.In, input), all(t.Out, output)
	return t
}

func input(in api.In) api.In {
	in.Script, in.Witness = bytes.Clone(in.Script), all(in.Witness, bytes.Clone)
	return in
}

func output(out api.Out) api.Out {
	out.Script = bytes.Clone(out.Script)
	return out
}

// all is a copy of each of a list.
func all[T any](list []T, one func(T) T) []T {
	list = slices.Clone(list)
	for i, x := range list {
		list[i] = one(x)
	}
	return list
}
