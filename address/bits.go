package address

import (
	"slices"
	"strings"

	"sporran/api"
	"sporran/script"
)

// An address of bits is all of small letters, or all of great ones. Its beginning has letters, and so tells which.
const (
	smallStart   = "bc1"
	smallLetters = "qpzry9x8gf2tvdw0s3jn54khce6mua7l"
	greatStart   = "BC1"
	greatLetters = "QPZRY9X8GF2TVDW0S3JN54KHCE6MUA7L"
)

const (
	oldVersion  = 0
	oldEnd      = 1 // what the check of an address of this version comes to
	rootVersion = 1
	rootEnd     = 0x2bc830a3
)

const (
	shortBytes  = 20
	longBytes   = 32
	byteBits    = 8
	groupBits   = 5
	longGroups  = (longBytes*byteBits + groupBits - 1) / groupBits
	checkGroups = 6
	checkTop    = groupBits * (checkGroups - 1) // where the highest group of a check sum begins
	longText    = len(smallStart) + 1 + longGroups + checkGroups
)

// checkWords are what the bits that leave a check sum come back as.
var checkWords = [groupBits]uint32{0x3b6a57b2, 0x26508e6d, 0x1ea119fa, 0x3d4233dd, 0x2a1462b3}

// parseBits is the script of an address of bits; false, if it is none.
func parseBits(s string) ([]byte, bool) {
	if len(s) > longText { // a long text is not gone through
		return nil, false
	}
	all, ok := numbers(s)
	if !ok || len(all) < 1+checkGroups {
		return nil, false
	}
	version := all[0]
	if check(all) != endOf(version) {
		return nil, false
	}
	groups := all[1 : len(all)-checkGroups]
	b := regroup(groups, groupBits, byteBits)[:len(groups)*groupBits/byteBits]
	if !slices.Equal(regroup(b, byteBits, groupBits), groups) { // there is a group too many, or other bits than noughts behind
		return nil, false
	}
	return script.Make(kindOf(version, len(b)), b)
}

// bitsText is an address of bits.
func bitsText(version byte, b []byte) string {
	all := append([]byte{version}, regroup(b, byteBits, groupBits)...)
	sum := check(slices.Concat(all, make([]byte, checkGroups))) ^ endOf(version)
	for i := range checkGroups {
		all = append(all, byte(sum>>(checkTop-groupBits*i)&(1<<groupBits-1)))
	}
	for i, x := range all {
		all[i] = smallLetters[x]
	}
	return smallStart + string(all)
}

// numbers are what the letters behind an address's beginning stand for; false, if it begins otherwise, or one is no letter.
func numbers(s string) ([]byte, bool) {
	if letters, ok := strings.CutPrefix(s, smallStart); ok {
		return places(letters, smallLetters)
	}
	if letters, ok := strings.CutPrefix(s, greatStart); ok {
		return places(letters, greatLetters)
	}
	return nil, false
}

// check is the number that an address's beginning and the numbers behind it come to.
func check(behind []byte) uint32 {
	sum := uint32(1)
	for _, x := range append([]byte{3, 3, 0, 2, 3}, behind...) {
		top := sum >> checkTop
		sum = sum<<groupBits&(1<<(checkTop+groupBits)-1) ^ uint32(x)
		for i, word := range checkWords {
			if top>>i&1 == 1 {
				sum ^= word
			}
		}
	}
	return sum
}

// endOf is what the check of a right address comes to.
func endOf(version byte) uint32 {
	if version == oldVersion {
		return oldEnd
	}
	return rootEnd
}

// kindOf is the kind of the scripts that a version and so many bytes stand for.
func kindOf(version byte, count int) int {
	switch {
	case version == oldVersion && count == shortBytes:
		return api.ScriptKey0
	case version == oldVersion && count == longBytes:
		return api.ScriptHash0
	case version == rootVersion && count == longBytes:
		return api.ScriptRoot
	}
	return api.ScriptOther
}

// regroup writes bits that stand in parts of some width, the highest first, in parts of another one. Noughts fill the last part.
func regroup(parts []byte, width, other int) []byte {
	var all []byte
	held, count := uint32(0), 0 // bits that fill no part yet
	for _, part := range parts {
		held = held<<width | uint32(part)
		count += width
		for count >= other {
			count -= other
			all = append(all, byte(held>>count))
			held &= 1<<count - 1
		}
	}
	if count > 0 {
		all = append(all, byte(held<<(other-count)))
	}
	return all
}
