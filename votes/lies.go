package votes

import (
	"slices"
	"strconv"

	"sporran/api"
	"sporran/filter"
	"sporran/header"
)

const dataMark = 0x6a // what begins no item of a block

// claim is a filter that is said to be a block's.
type claim struct {
	id     api.Hash
	whole  []byte
	values []uint64 // rising
}

// Lies tells whether bytes are not of a sum, or can't be a block's filter. Which scripts the block spends it does not say; so the filter may have others beside its items.
func Lies(b api.Block, f []byte, sum api.Hash) bool {
	if filter.Sum(f) != sum {
		return true
	}
	values, e := filter.Values(f)
	if e != api.OK {
		return true
	}
	c := claim{id: header.ID(b.Header), whole: f, values: values}
	return c.lacks(filter.Items(b, nil))
}

// lacks tells whether one of a block's items does not match. Match goes through the whole filter for each item; so it is asked of one only where many at once can't be cleared.
func (c claim) lacks(items [][]byte) bool {
	switch {
	case len(items) == 0:
		return false
	case len(items) == 1:
		match, _ := filter.Match(c.id, c.whole, items) // no error: its values have been read
		return !match
	case c.clears(items):
		return false
	}
	half := len(items) / 2
	return c.lacks(items[:half]) || c.lacks(items[half:])
}

// clears tells whether all items match for certain; false is no answer. An item's number hangs on how many values a filter has; so items are built into one of as many as the claim has, filled up, and once more with another filling. An item's number that is lacking is so both times; numbers of two fillings are hardly ever the same.
func (c claim) clears(items [][]byte) bool {
	free := len(c.values) - len(items)
	if free < 0 {
		return false
	}
	one := c.lacking(items, filling(0, free))
	two := c.lacking(items, filling(free, free))
	return !slices.ContainsFunc(one, func(n uint64) bool {
		_, found := slices.BinarySearch(two, n)
		return found
	})
}

// lacking is the numbers of items, and of what fills up, that are not among the claim's values, rising.
func (c claim) lacking(items, fill [][]byte) []uint64 {
	b, _ := filter.Build(c.id, slices.Concat(items, fill)) // no error: no more than a filter has
	numbers, _ := filter.Values(b)
	return slices.DeleteFunc(numbers, c.has)
}

func (c claim) has(n uint64) bool {
	_, found := slices.BinarySearch(c.values, n)
	return found
}

// filling is n texts from the first one on, unlike each other and all items of a block.
func filling(first, n int) [][]byte {
	texts := make([][]byte, n)
	for i := range texts {
		texts[i] = strconv.AppendInt([]byte{dataMark}, int64(first+i), 10)
	}
	return texts
}
