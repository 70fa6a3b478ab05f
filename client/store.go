package client

import (
	"math"

	"sporran/api"
	"sporran/parts"
)

// load takes all that the journal has; false, if that can't be.
func (s *state) load() bool {
	for _, key := range s.journal.Keys("") {
		value, _ := s.journal.Get(key)
		if !s.loadPair(key, value) {
			return false
		}
	}
	_, known := s.tree.Header(s.cursor) // only now, as its key stands ahead of the headers'
	return known
}

// loadPair takes one key and its value, as they stand by rising keys.
func (s *state) loadPair(key string, value []byte) bool {
	switch key[:1] {
	case cursorMark:
		return key == cursorMark && s.loadCursor(value)
	case didMark:
		_, ok := readWhole(value, readDid)
		return ok && len(key) == len(didMark)+hashBytes
	case headerMark:
		return s.loadHeader(key, value)
	case coinMark:
		return s.loadCoin(key[len(coinMark):], value)
	case scriptMark:
		return s.loadScript(key, value)
	}
	return false
}

func (s *state) loadCursor(value []byte) bool {
	id, ok := readWhole(value, (*parts.Reader).Hash)
	s.cursor = id
	return ok
}

func (s *state) loadHeader(key string, value []byte) bool {
	h, ok := readWhole(value, readHeader)
	if !ok || key != headerKey(s.headers+1) {
		return false
	}
	s.headers++
	isNew, e := s.tree.Accept(h, math.MaxUint32)
	return isNew && e == api.OK
}

func (s *state) loadCoin(point string, value []byte) bool {
	if len(point) != hashBytes+shortBytes {
		return false
	}
	c, ok := readWhole(append([]byte(point), value...), readLoose)
	return ok && s.purse.Load(c) == api.OK
}

func (s *state) loadScript(key string, script []byte) bool {
	known := len(s.purse.Watched())
	return key == scriptKey(known) && s.purse.Watch(script) == api.OK && len(s.purse.Watched()) > known
}

// didOf is what a block did; false, if that is nothing.
func (s *state) didOf(id api.Hash) (did, bool) {
	b, _ := s.journal.Get(didKey(id)) // no bytes, if it did nothing: these can't be read
	return readWhole(b, readDid)
}

// commit does a batch; false: that has halted the client, and its peers are gone.
func (s *state) commit(b api.Batch) bool {
	s.fault = s.journal.Commit(b)
	if s.fault != api.OK {
		s.peers, s.next, s.sent = nil, nil, nil
	}
	return s.fault == api.OK
}

// move has the cursor be another block, in one batch with what else that changes.
func (s *state) move(to api.Hash, more api.Batch) bool {
	b := api.Batch{Puts: append([]api.Pair{cursorPair(to)}, more.Puts...), Deletes: more.Deletes}
	if !s.commit(b) {
		return false
	}
	s.cursor, s.next = to, nil
	return true
}

// coinChanges is a batch of all coins, and of those that are no more.
func (s *state) coinChanges(before []api.Coin) api.Batch {
	var b api.Batch
	there := map[api.Point]struct{}{}
	for _, c := range s.purse.Coins() {
		there[c.Point] = struct{}{}
		b.Puts = append(b.Puts, coinPair(c))
	}
	for _, c := range before {
		if _, ok := there[c.Point]; !ok {
			b.Deletes = append(b.Deletes, coinKey(c.Point))
		}
	}
	return b
}

// restore has the coins be those that were there before.
func (s *state) restore(before []api.Coin) {
	s.purse.Reset()
	for _, c := range before {
		s.purse.Load(c)
	}
}
