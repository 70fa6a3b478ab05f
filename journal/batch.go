package journal

import (
	"sporran/api"
	"sporran/parts"
	"sporran/sha"
	"sporran/size"
)

const (
	mostKey   = 100     // bytes of a key
	mostBytes = 1 << 20 // of a batch
	sumBytes  = 8
)

// Where a frame's parts begin; how many bytes the batch has stands at its beginning.
const (
	sumAt   = 4
	batchAt = sumAt + sumBytes
)

// canBe tells whether a batch can be. It counts the batch's bytes without writing them, as they might be some thousand times too many.
func canBe(b api.Batch) bool {
	if len(b.Puts) > api.MaxCount || len(b.Deletes) > api.MaxCount {
		return false
	}
	n := countBytes(len(b.Puts)) + countBytes(len(b.Deletes))
	for _, p := range b.Puts {
		if !isKey(p.Key) || len(p.Value) > api.MaxValue {
			return false
		}
		n += textBytes(len(p.Key)) + textBytes(len(p.Value))
	}
	for _, key := range b.Deletes {
		if !isKey(key) {
			return false
		}
		n += textBytes(len(key))
	}
	return n <= mostBytes
}

func isKey(text string) bool {
	return len(text) > 0 && len(text) <= mostKey
}

// textBytes is how many bytes a text has with its count ahead.
func textBytes(length int) int {
	return countBytes(length) + length
}

func countBytes(n int) int {
	return len(size.Encode(uint64(n)))
}

// frameOf is a batch's frame.
func frameOf(b api.Batch) []byte {
	batch := parts.PutList(nil, b.Puts, putPair)
	batch = parts.PutList(batch, b.Deletes, putKey)
	sum := sumOf(batch)
	frame := make([]byte, 0, batchAt+len(batch))
	frame = parts.PutNumber(frame, uint64(len(batch)), sumAt)
	frame = append(frame, sum[:]...)
	return append(frame, batch...)
}

func putPair(b []byte, p api.Pair) []byte {
	return putTexts(b, []byte(p.Key), p.Value)
}

func putKey(b []byte, key string) []byte {
	return putTexts(b, []byte(key))
}

// putTexts puts texts, one behind the other.
func putTexts(b []byte, texts ...[]byte) []byte {
	for _, text := range texts {
		b = append(b, size.Text(text)...)
	}
	return b
}

// readFrame is the batch of the frame at the beginning of bytes, and how many of them are the frame's; false, if it is no frame of a batch that can be.
func readFrame(b []byte) (api.Batch, int, bool) {
	if len(b) < batchAt {
		return api.Batch{}, 0, false
	}
	length := parts.Number(b[:sumAt])
	if length > uint64(len(b)-batchAt) {
		return api.Batch{}, 0, false
	}
	end := batchAt + int(length)
	if sumOf(b[batchAt:end]) != [sumBytes]byte(b[sumAt:batchAt]) {
		return api.Batch{}, 0, false
	}
	batch, _, e := parts.Read(b[batchAt:end], readBatch)
	if e != api.OK || !canBe(batch) {
		return api.Batch{}, 0, false
	}
	return batch, end, true
}

// readBatch reads what may be a batch: which ones can be, canBe tells.
func readBatch(r *parts.Reader) api.Batch {
	puts := parts.List(r, api.MaxCount, readPair)
	deletes := parts.List(r, api.MaxCount, readKey)
	r.End()
	return api.Batch{Puts: puts, Deletes: deletes}
}

func readPair(r *parts.Reader) api.Pair {
	key := readKey(r)
	return api.Pair{Key: key, Value: r.Text(api.MaxValue)}
}

func readKey(r *parts.Reader) string {
	return string(r.Text(mostKey))
}

// sumOf is a batch's check sum.
func sumOf(batch []byte) [sumBytes]byte {
	sum := sha.Double(batch)
	return [sumBytes]byte(sum[:sumBytes])
}
