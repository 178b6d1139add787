package algo

import (
	"slices"

	"palfrey/aead"
	"palfrey/aes"
	"palfrey/api"
	"palfrey/cbc"
	"palfrey/ctr"
	"palfrey/gcm"
	"palfrey/hmac"
	"palfrey/sha"
)

// The classes.
const (
	classNone = iota
	classHash
	classCTR
	classCBC
	classGCM
	classChacha
)

const (
	sumLen = 32   // bytes of a hash
	tagLen = 16   // bytes of a tag
	aadLen = 1000 // the most bytes of an aad
)

// kind is what is known of an algorithm; that of none is the zero value.
type kind struct {
	class          int
	key, iv        fit
	aad            int // the most bytes that it may have
	sealed, opened way
}

// way is one direction of an algorithm; one that it has not is the zero value.
type way struct {
	room room
	do   work
}

// fit tells whether something may have n bytes.
type fit func(n int) bool

// room tells how many bytes come out of n at most.
type room func(n int) (int, api.Errno)

// work is what is done by params that Check found OK, with bytes that Room found OK.
type work func(p Params, b []byte) ([]byte, api.Errno)

// kinds is what is known of each algorithm.
func kinds() map[int]kind {
	empty, aesKey := either(0), either(16, 32)
	count := way{less(0), byAES(crypt)}
	return map[int]kind{
		api.SHA:  {class: classHash, key: empty, iv: empty, sealed: way{always(sumLen), hash}},
		api.HMAC: {class: classHash, key: among(1, 100), iv: empty, sealed: way{always(sumLen), keyedHash}},
		api.CTR:  {class: classCTR, key: aesKey, iv: either(16), sealed: count, opened: count},
		api.CBC: {class: classCBC, key: aesKey, iv: either(16),
			sealed: way{padded, byAES(chain)}, opened: way{whole, byAES(unchain)}},
		api.GCM: {class: classGCM, key: aesKey, iv: among(1, 64), aad: aadLen,
			sealed: way{more(tagLen), byAES(gcm.Seal)}, opened: way{less(tagLen), byAES(gcm.Open)}},
		api.CHACHA: {class: classChacha, key: either(32), iv: either(12), aad: aadLen,
			sealed: way{more(tagLen), byKey(aead.Seal)}, opened: way{less(tagLen), byKey(aead.Open)}},
	}
}

// known is what is known of an algorithm, and of that direction: ErrAlg, if it is none, or has not that one.
func known(alg int, open bool) (kind, way, api.Errno) {
	k := kinds()[alg]
	w := k.sealed
	if open {
		w = k.opened
	}
	if w.do == nil {
		return kind{}, way{}, api.ErrAlg
	}
	return k, w, api.OK
}

// either lets in these numbers alone.
func either(lengths ...int) fit {
	return func(n int) bool { return slices.Contains(lengths, n) }
}

// among lets in the numbers from least to most.
func among(least, most int) fit {
	return func(n int) bool { return least <= n && n <= most }
}

// always is the room of what has one length.
func always(length int) room {
	return func(int) (int, api.Errno) { return length, api.OK }
}

// more is the room of what gets so many bytes behind.
func more(many int) room {
	return func(n int) (int, api.Errno) { return n + many, api.OK }
}

// less is the room of what has so many bytes taken off.
func less(many int) room {
	return func(n int) (int, api.Errno) {
		if n < many {
			return 0, api.ErrShort
		}
		return n - many, api.OK
	}
}

// padded is the room of what is padded to whole blocks.
func padded(n int) (int, api.Errno) { return n - n%16 + 16, api.OK }

// whole is the room of whole blocks: how long a padding is stands in it, so nothing is taken off.
func whole(n int) (int, api.Errno) {
	if n == 0 || n%16 != 0 {
		return 0, api.ErrShort
	}
	return n, api.OK
}

// byAES does it by the key, expanded.
func byAES(done func(k *aes.Keys, iv, aad, b []byte) ([]byte, api.Errno)) work {
	return func(p Params, b []byte) ([]byte, api.Errno) {
		k, errno := aes.Expand(p.Key)
		if errno != api.OK {
			return nil, errno
		}
		return done(k, p.IV, p.Aad, b)
	}
}

// byKey does it by the key as it is.
func byKey(done func(key, iv, aad, b []byte) ([]byte, api.Errno)) work {
	return func(p Params, b []byte) ([]byte, api.Errno) { return done(p.Key, p.IV, p.Aad, b) }
}

// hash, and what stands below it, lets each layer be called in the same way. Check has seen to it that an IV has 16 bytes where it is made an array.
func hash(_ Params, b []byte) ([]byte, api.Errno) {
	sum := sha.Sum(b)
	return sum[:], api.OK
}

func keyedHash(p Params, b []byte) ([]byte, api.Errno) {
	sum := hmac.Sum(p.Key, b)
	return sum[:], api.OK
}

func crypt(k *aes.Keys, iv, _, b []byte) ([]byte, api.Errno) {
	return ctr.Crypt(k, [16]byte(iv), b), api.OK
}

func chain(k *aes.Keys, iv, _, b []byte) ([]byte, api.Errno) {
	return cbc.Seal(k, [16]byte(iv), b), api.OK
}

func unchain(k *aes.Keys, iv, _, b []byte) ([]byte, api.Errno) {
	return cbc.Open(k, [16]byte(iv), b)
}
