package tests

import (
	"math"
	"math/rand"
	"slices"
	"strings"

	"loop.example/g00549/impl"
)

const mostMixed = 40
const mostBlock = 65535

// roundThere is the chapter's sum, word for word.
func roundThere(key int, half int) int {
	x := (half + key%256) % 256
	return (x*x + x*(key/256) + 29) % 65521 % 256
}

func mixThere(keys []int, block int) int {
	upper, lower := byte(block/256), byte(block%256)
	for _, key := range keys {
		upper, lower = lower, upper^byte(roundThere(key, int(lower)))
	}
	return int(upper)*256 + int(lower)
}

func mixTextThere(keys []int, start int, s string) string {
	ahead := []byte{byte(start / 256), byte(start % 256)}
	out := ahead
	for i := range len(s) / 2 {
		upper, lower := s[2*i]^out[2*i], s[2*i+1]^out[2*i+1]
		block := mixThere(keys, int(upper)*256+int(lower))
		out = append(out, byte(block/256), byte(block%256))
	}
	return string(out[2:])
}

func blockAt(s string, i int) int {
	return int(s[2*i])*256 + int(s[2*i+1])
}

func textOfBlock(block int) string {
	return string([]byte{byte(block / 256), byte(block % 256)})
}

// keyLists have each number of keys, up to MaxRounds, and alike ones.
func keyLists() [][]int {
	r := rand.New(rand.NewSource(4))
	out := [][]int{nil, {0}, {mostBlock}, {256}, {255}, {1}, {256, 7}, {7, 256}, {9, 9}, {513, 513, 513},
		make([]int, impl.MaxRounds), slices.Repeat([]int{mostBlock}, impl.MaxRounds)}
	for many := 1; many <= impl.MaxRounds; many++ {
		for range 3 {
			var keys []int
			for range many {
				keys = append(keys, r.Intn(mostBlock+1))
			}
			out = append(out, keys)
		}
	}
	return out
}

func someBlocks() []int {
	r := rand.New(rand.NewSource(44))
	out := []int{0, 1, 2, 127, 128, 254, 255, 256, 257, 511, 512, 513, 0x7fff, 0x8000, 0xff00, 0xfe01, 0x00ff, mostBlock - 1, mostBlock}
	for range 60 {
		out = append(out, r.Intn(mostBlock+1))
	}
	return out
}

// mixableTexts have each even length up to the greatest, of noughts, of the
// greatest bytes, of one pair again and again, and of any bytes.
func mixableTexts() []string {
	r := rand.New(rand.NewSource(444))
	out := []string{"some text!", "héllo wörld€", "\xff\x00\x80\x7f", "a\nb\tc\r"}
	for long := 0; long <= mostMixed; long += 2 {
		out = append(out, strings.Repeat("\x00", long), strings.Repeat("\xff", long), strings.Repeat("ab", long/2))
		for range 6 {
			bytes := make([]byte, long)
			r.Read(bytes)
			out = append(out, string(bytes))
		}
	}
	every := make([]byte, 256)
	for i := range every {
		every[i] = byte(i)
	}
	for i := 0; i < 256; i += 32 {
		out = append(out, string(every[i:i+32]))
	}
	return out
}

func factorial(n int) int {
	if n == 0 {
		return 1
	}
	return n * factorial(n-1)
}

func risingOrder(many int) []int {
	var out []int
	for i := range many {
		out = append(out, i)
	}
	return out
}

// nextOrder makes of an order the one after it, number after number; false
// where it is the last one.
func nextOrder(order []int) bool {
	at := len(order) - 2
	for at >= 0 && order[at] > order[at+1] {
		at--
	}
	if at < 0 {
		return false
	}
	to := len(order) - 1
	for order[to] < order[at] {
		to--
	}
	order[at], order[to] = order[to], order[at]
	slices.Reverse(order[at+1:])
	return true
}

func wrongBlocks() []int {
	return []int{math.MinInt, math.MinInt + 1, -1 << 32, -mostBlock - 1, -mostBlock, -256, -1, mostBlock + 1, mostBlock + 2, 2 * mostBlock, 1 << 32, math.MaxInt - 1, math.MaxInt}
}

func wrongHalves() []int {
	return []int{math.MinInt, math.MinInt + 1, -256, -255, -1, 256, 257, 511, 512, mostBlock, 1 << 32, math.MaxInt - 1, math.MaxInt}
}

// wrongKeyLists have one wrong key among good ones, at each place, or more
// keys than there are rounds.
func wrongKeyLists() [][]int {
	out := [][]int{make([]int, impl.MaxRounds+1), slices.Repeat([]int{7}, impl.MaxRounds+1), make([]int, 2*impl.MaxRounds), make([]int, 10000)}
	for _, wrong := range wrongBlocks() {
		for _, many := range []int{1, 2, 3, impl.MaxRounds} {
			for at := range many {
				keys := slices.Repeat([]int{777}, many)
				keys[at] = wrong
				out = append(out, keys)
			}
		}
	}
	return out
}

func wrongMixed() []string {
	out := []string{"a", "\x00", "abc", "five!", strings.Repeat("x", mostMixed-1), strings.Repeat("x", mostMixed+1),
		strings.Repeat("x", mostMixed+2), strings.Repeat("\x00", mostMixed+2), strings.Repeat("é", mostMixed/2+1), strings.Repeat("x", 10000), strings.Repeat("x", 10001)}
	for long := 1; long < 100; long++ {
		if long%2 == 1 || long > mostMixed {
			out = append(out, strings.Repeat("q", long))
		}
	}
	return out
}

// wrongOrders have a number twice, below 0 or too great, or too many places.
func wrongOrders() [][]int {
	out := [][]int{{1}, {-1}, {2}, {math.MaxInt}, {math.MinInt}, {0, 0}, {1, 1}, {1, 2}, {0, 2}, {2, 0}, {-1, 0}, {0, -1}, {0, 1, 1}, {0, 1, 3}, {1, 2, 3},
		{0, 2, 2}, {2, 1, 2}, {0, -1, 1}, {math.MinInt, 0, 1}, {0, math.MaxInt, 1}, {-3, -2, -1}, {256, 0, 1}, {1 << 32, 1, 2}, {0, 1, 2, 3, 4, 5, 6, 7, 7}, {0, 1, 2, 3, 4, 5, 6, 7, 9},
		risingOrder(impl.MaxOrder + 1), risingOrder(impl.MaxOrder + 2), risingOrder(64), risingOrder(65), risingOrder(10000), make([]int, impl.MaxOrder), make([]int, impl.MaxOrder+1)}
	backwards := risingOrder(impl.MaxOrder + 1)
	slices.Reverse(backwards)
	return append(out, backwards)
}

func placesOf(many int) []string {
	var out []string
	for i := range many {
		out = append(out, string(rune('a'+i)))
	}
	return out
}
