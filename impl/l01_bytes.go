package impl

import (
	"strconv"
	"strings"
)

const MaxCoord = 30000

const (
	maxFold  = 1000000000
	maxNum   = 4000000000
	maxHalf  = 65535
	maxWoven = 4294967295
	maxRead  = 999999999
)

const (
	groupBits = 7
	groupMask = 127
	groupMore = 128
	// maxGroups is how many groups of seven bits maxNum takes.
	maxGroups = 5
)

const sumBase = 65521

func CoordOk(x int) bool { return -MaxCoord <= x && x <= MaxCoord }

func Fold(x int) int {
	if x < -maxFold || x > maxFold {
		return -1
	}
	if x < 0 {
		return -2*x - 1
	}
	return 2 * x
}

func Unfold(n int) int {
	if n < 0 || n > 2*maxFold {
		return 0
	}
	if n%2 == 1 {
		return -(n + 1) / 2
	}
	return n / 2
}

func PutNum(n int) string {
	if n < 0 || n > maxNum {
		return ""
	}
	var groups [maxGroups]byte
	rest := uint32(n)
	last := 0
	for rest > groupMask {
		groups[last] = byte(rest&groupMask) | groupMore
		rest >>= groupBits
		last++
	}
	groups[last] = byte(rest)
	return string(groups[:last+1])
}

func GetNum(s string, i int) (int, int) {
	if i < 0 || i >= len(s) {
		return 0, -1
	}
	// Five groups hold more than 32 bits, so an int takes them: in a uint32 a number that is too great would wrap round into a right one.
	n := 0
	for k := range min(maxGroups, len(s)-i) {
		group := s[i+k]
		n |= int(group&groupMask) << (groupBits * k)
		if group >= groupMore {
			continue
		}
		needless := group == 0 && k > 0
		if needless || n > maxNum {
			return 0, -1
		}
		return n, i + k + 1
	}
	return 0, -1
}

func Weave(x int, y int) int {
	if x < 0 || x > maxHalf || y < 0 || y > maxHalf {
		return -1
	}
	return int(spread(uint32(x)) | spread(uint32(y))<<1)
}

func Part(n int) (int, int) {
	if n < 0 || n > maxWoven {
		return -1, -1
	}
	both := uint32(n)
	return int(gather(both)), int(gather(both >> 1))
}

// spread moves bit k of the low half to bit 2 k, by halving the width of the runs that stay together.
func spread(half uint32) uint32 {
	half &= 0x0000ffff
	half = (half | half<<8) & 0x00ff00ff
	half = (half | half<<4) & 0x0f0f0f0f
	half = (half | half<<2) & 0x33333333
	half = (half | half<<1) & 0x55555555
	return half
}

// gather undoes spread; the odd bits, which are the other number's, are dropped.
func gather(both uint32) uint32 {
	both &= 0x55555555
	both = (both | both>>1) & 0x33333333
	both = (both | both>>2) & 0x0f0f0f0f
	both = (both | both>>4) & 0x00ff00ff
	both = (both | both>>8) & 0x0000ffff
	return both
}

func CheckSum(s string) uint32 {
	first, second := uint32(1), uint32(0)
	for i := range len(s) {
		first = (first + uint32(s[i])) % sumBase
		second = (second + first) % sumBase
	}
	return second<<16 | first
}

func DecText(n int) string { return strconv.Itoa(n) }

func ReadInt(s string) (int, bool) {
	n, err := strconv.Atoi(s)
	if err != nil || n < -maxRead || n > maxRead {
		return 0, false
	}
	// Atoi takes signs and noughts that are not needed; only the one text that DecText tells is right.
	if DecText(n) != s {
		return 0, false
	}
	return n, true
}

func Words(s string) []string {
	words := strings.Split(s, " ")
	for i, word := range words {
		// A part that Split tells lies in the bytes of s; an answer is new memory.
		words[i] = strings.Clone(word)
	}
	return words
}
