package tests

import (
	"math"
	"math/rand"
	"slices"
	"strings"

	"loop.example/g00549/impl"
)

const mostLayered = 40
const mostHop = 250

// trail is all that BuildOnion takes but the body.
type trail struct {
	keys []int
	hops []int
}

// walked is all that WalkOnion tells.
type walked struct {
	hops []int
	body string
	ok   bool
}

func (x walked) isAlike(y walked) bool {
	return slices.Equal(x.hops, y.hops) && x.body == y.body && x.ok == y.ok
}

func padThere(key int, many int) string {
	return mixTextThere([]int{key, key, key}, key, strings.Repeat("\x00", many))
}

func xorThere(a string, b string) string {
	var out strings.Builder
	for i := range len(a) {
		out.WriteByte(a[i]&^b[i] | b[i]&^a[i])
	}
	return out.String()
}

// checkThere adds up what is left from each byte on: so each one is added as
// often as its place and 1 say.
func checkThere(s string) int {
	sum := 0
	for i := range len(s) {
		for k := i; k < len(s); k++ {
			sum = (sum + int(s[k])) % 251
		}
	}
	return sum
}

func paddedThere(s string) string {
	return s + "\x80" + strings.Repeat("\x00", impl.BodyLong-1-len(s))
}

// unpaddedThere tries each text that might have been padded.
func unpaddedThere(s string) (string, bool) {
	for long := range impl.BodyLong {
		if len(s) == impl.BodyLong && paddedThere(s[:long]) == s {
			return s[:long], true
		}
	}
	return "", false
}

func onionThere(w trail, body string) string {
	if len(w.keys) == 0 {
		return paddedThere(body) + strings.Repeat("\x00", 8)
	}
	rest := onionThere(trail{w.keys[1:], w.hops[1:]}, body)
	head := string([]byte{byte(w.hops[0]), byte(checkThere(rest[:16]))})
	return xorThere(head+rest[:22], padThere(w.keys[0], 24))
}

func peeledThere(key int, s string) (impl.Peeled, bool) {
	plain := xorThere(s, padThere(key, 24))
	if plain[0] < 1 || plain[0] > mostHop || int(plain[1]) != checkThere(plain[2:18]) {
		return impl.Peeled{}, false
	}
	body, _ := unpaddedThere(plain[2:18])
	return impl.Peeled{Next: int(plain[0]), Rest: plain[2:] + "\x00\x00", Body: body}, true
}

func walkedThere(keys []int, s string) walked {
	out := walked{ok: true}
	for _, key := range keys {
		p, ok := peeledThere(key, s)
		if !ok {
			return walked{}
		}
		out.hops, out.body, s = append(out.hops, p.Next), p.Body, p.Rest
	}
	return out
}

// onionOfPlain is the onion that becomes plain once its layer is off.
func onionOfPlain(key int, plain string) string {
	return xorThere(plain, padThere(key, impl.OnionLong))
}

// turnedAt is s with one bit turned, the lowest one of byte 0 being bit 0.
func turnedAt(s string, bit int) string {
	bytes := []byte(s)
	bytes[bit/8] ^= 1 << (bit % 8)
	return string(bytes)
}

func randomText(r *rand.Rand, long int) string {
	bytes := make([]byte, long)
	r.Read(bytes)
	return string(bytes)
}

// someBodies have each length up to the greatest: of bytes 0, 128 and 255
// alone, ending in such, and of any bytes.
func someBodies() []string {
	r := rand.New(rand.NewSource(7))
	out := []string{"", "hello", "\x80", "\x00", "\x80\x00", "\x00\x80", "\x80\x80\x00\x00", "a\x80", "a\x00", "a\x80\x00", "a\x00\x80", "a\x80\x00b", "héé€", "\xff\x7f\x81\x01"}
	for long := range impl.BodyLong {
		for _, b := range []string{"\x00", "\x80", "\xff", "a"} {
			out = append(out, strings.Repeat(b, long))
		}
		for _, end := range []string{"\x80", "\x00", "\x80\x00", "\x00\x80", "\x80\x00\x00\x00"} {
			if long >= len(end) {
				out = append(out, strings.Repeat("b", long-len(end))+end)
			}
		}
		out = append(out, randomText(r, long), randomText(r, long))
	}
	return out
}

// someTrails have each number of hands: keys of 0, of the greatest, one key for
// all, any keys; hops of 1, of the greatest, any hops.
func someTrails() []trail {
	r := rand.New(rand.NewSource(77))
	out := []trail{{[]int{11, 222, 3333}, []int{1, 1, 5}}, {[]int{0, mostBlock, 0, mostBlock}, []int{1, mostHop, 1, mostHop}}, {[]int{9, 8, 9, 8}, []int{128, 129, 130, 131}}}
	for many := 1; many <= impl.MaxHops; many++ {
		for _, key := range []int{0, 1, 255, 256, 43981, mostBlock} {
			out = append(out, trail{slices.Repeat([]int{key}, many), slices.Repeat([]int{1 + key%mostHop}, many)})
		}
		for _, hop := range []int{1, 2, 127, 128, mostHop - 1, mostHop} {
			out = append(out, trail{randomBelow(r, 0, mostBlock, many), slices.Repeat([]int{hop}, many)})
		}
		for range 8 {
			out = append(out, trail{randomBelow(r, 0, mostBlock, many), randomBelow(r, 1, mostHop, many)})
		}
	}
	return out
}

func randomBelow(r *rand.Rand, least int, most int, many int) []int {
	var out []int
	for range many {
		out = append(out, least+r.Intn(most-least+1))
	}
	return out
}

// noOnions have another length than an onion.
func noOnions() []string {
	out := []string{strings.Repeat("x", 100000), strings.Repeat("é", impl.OnionLong)}
	for long := range 60 {
		if long != impl.OnionLong {
			out = append(out, strings.Repeat("x", long), strings.Repeat("\x00", long))
		}
	}
	return out
}

// noPadded are no padded bodies: of another length, or the byte ahead of the
// last bytes 0 is not 128, or there is none.
func noPadded() []string {
	var out []string
	for long := range 50 {
		if long != impl.BodyLong {
			out = append(out, strings.Repeat("\x80", long), strings.Repeat("\x00", long), "\x80"+strings.Repeat("\x00", long+impl.BodyLong), strings.Repeat("a", long))
		}
	}
	for long := range impl.BodyLong {
		for _, end := range []byte{1, 2, 64, 127, 129, 192, 255} {
			out = append(out, strings.Repeat("\x80", long)+string([]byte{end})+strings.Repeat("\x00", impl.BodyLong-1-long))
		}
	}
	return append(out, strings.Repeat("\x00", impl.BodyLong), strings.Repeat("\x80", impl.BodyLong-1)+"\x01", "\x80"+strings.Repeat("\x00", impl.BodyLong-2)+"\x7f", strings.Repeat("\x80", 100000))
}

func wrongPadLengths() []int {
	out := []int{math.MinInt, math.MinInt + 1, -1 << 32, -mostLayered, -24, -3, -2, -1, mostLayered + 1, mostLayered + 2, 64, 256, 258, 1 << 32, 1<<32 + 2, 1 << 62, math.MaxInt - 1, math.MaxInt}
	for odd := 1; odd < mostLayered; odd += 2 {
		out = append(out, odd)
	}
	return out
}

func wrongHops() []int {
	return []int{math.MinInt, math.MinInt + 1, -mostHop, -255, -2, -1, 0, mostHop + 1, mostHop + 2, 255, 256, 257, 256 + mostHop, 1 << 32, 1<<32 + 1, math.MaxInt - 1, math.MaxInt}
}

func tooLongBodies() []string {
	out := []string{strings.Repeat("\x00", impl.BodyLong), strings.Repeat("\x80", impl.BodyLong), paddedThere(""), paddedThere("hello"), strings.Repeat("é", impl.BodyLong/2), strings.Repeat("x", 100000)}
	for long := impl.BodyLong; long < 60; long++ {
		out = append(out, strings.Repeat("x", long))
	}
	return out
}
