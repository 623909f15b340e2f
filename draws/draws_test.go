package draws_test

import (
	"math"
	"math/big"
	"math/rand"
	"slices"
	"testing"

	"examboard/api"
	"examboard/draws"
)

// last is the greatest state.
const last = math.MaxUint64

// below are numbers that are negative, above those that are above all bounds of the package.
var (
	below = []int{-1, -2, -3, -1024, -api.MaxNumber, math.MinInt32, math.MinInt32 - 1, -1 << 32, math.MinInt + 1, math.MinInt}
	above = []int{1<<31 + 1, 1<<31 + 2, math.MaxUint32, 1 << 32, 1<<32 + 1, 1<<32 + 5, 1 << 62, math.MaxInt - 1, math.MaxInt}
)

func read(notation string) *big.Int {
	value, ok := new(big.Int).SetString(notation, 10)
	if !ok {
		panic(notation)
	}
	return value
}

// The transition, as the chapter defines it.
var (
	multiplier = read("6364136223846793005")
	increment  = read("1442695040888963407")
	modulus    = read("18446744073709551616")
)

func bigOf(d api.Draw) *big.Int { return new(big.Int).SetUint64(uint64(d)) }

// drawOf takes a state modulo 2^64.
func drawOf(s *big.Int) api.Draw { return api.Draw(new(big.Int).Mod(s, modulus).Uint64()) }

// after is the reference: the state after n transitions.
func after(d api.Draw, n int) api.Draw {
	for range n {
		s := bigOf(d)
		d = drawOf(s.Mul(s, multiplier).Add(s, increment))
	}
	return d
}

// before is the state that d follows by one transition.
func before(d api.Draw) api.Draw {
	s := bigOf(d)
	return drawOf(s.Sub(s, increment).Mul(s, new(big.Int).ModInverse(multiplier, modulus)))
}

// drawn is the reference: the draw of a state.
func drawn(d api.Draw) uint32 { return uint32(new(big.Int).Rsh(bigOf(after(d, 1)), 32).Uint64()) }

// drawing returns a state at which x is drawn; low is the lower half of the
// state behind the draw.
func drawing(x, low uint32) api.Draw { return before(api.Draw(x)<<32 | api.Draw(low)) }

// states returns edges, among them those at which the least and the greatest
// draws are drawn, and random states; the same ones in every run.
func states(seed int64, count int) []api.Draw {
	all := []api.Draw{0, last, 1, 2, 3, 5, 42, math.MaxUint32, 1 << 32, 1<<32 + 1, math.MaxInt64, 1 << 63, 1<<63 + 1, last - 1, before(0), before(last)}
	for _, x := range []uint32{0, 1, math.MaxInt32, 1 << 31, math.MaxUint32 - 1, math.MaxUint32} {
		all = append(all, drawing(x, 0), drawing(x, math.MaxUint32))
	}
	source := rand.New(rand.NewSource(seed))
	for range count {
		all = append(all, api.Draw(source.Uint64()))
	}
	return all
}

func TestP8_1New(t *testing.T) {
	for _, c := range []struct {
		seed uint64
		want api.Draw
	}{
		{0, 1442695040888963407}, {1, 7806831264735756412}, {42, 10481999410520546993}, {math.MaxUint32, 597015566704837154}, {1 << 32, 6961151790551630159},
		{math.MaxInt64, 4301930853896946210}, {1 << 63, 10666067077743739215}, {last, 13525302890751722018},
	} {
		if got := draws.New(c.seed); got != c.want {
			t.Errorf("New(%d): %d, expected %d", c.seed, got, c.want)
		}
	}
	for _, d := range states(1, 5000) {
		if got := draws.New(uint64(d)); got != after(d, 1) {
			t.Errorf("New(%d): %d, expected %d", d, got, after(d, 1))
		}
	}
}

func TestP8_2Next(t *testing.T) {
	for _, c := range []struct {
		d, next api.Draw
		x       uint32
	}{
		{0, 1442695040888963407, 335903614}, {1442695040888963407, 1876011003808476466, 436792849}, {1876011003808476466, 11166244414315200793, 2599843874},
		{last, 13525302890751722018, 3149104977}, {13525302890751722018, 12801857353207693129, 2980664687}, {1, 7806831264735756412, 1817669548},
		{1 << 63, 10666067077743739215, 2483387262}, {math.MaxInt64, 4301930853896946210, 1001621329}, {1 << 32, 6961151790551630159, 1620769451}, {math.MaxUint32, 597015566704837154, 139003518},
		{before(0), 0, 0}, {before(last), last, math.MaxUint32}, {before(math.MaxUint32), math.MaxUint32, 0}, {before(1 << 32), 1 << 32, 1},
	} {
		if x, next := draws.Next(c.d); x != c.x || next != c.next {
			t.Errorf("Next(%d): %d, %d; expected %d, %d", c.d, x, next, c.x, c.next)
		}
	}
	for _, d := range states(2, 5000) {
		if x, next := draws.Next(d); x != drawn(d) || next != after(d, 1) {
			t.Errorf("Next(%d): %d, %d; expected %d, %d", d, x, next, drawn(d), after(d, 1))
		}
	}
}

func TestP8_3Skip(t *testing.T) {
	for _, c := range []struct {
		d    api.Draw
		n    int
		want api.Draw
	}{
		{0, 1, 1442695040888963407}, {0, 2, 1876011003808476466}, {0, 3, 11166244414315200793}, {0, 4, 7401132627792533940}, {0, 1000, 902429759771004424},
		{last, 1, 13525302890751722018}, {last, 2, 12801857353207693129}, {last, 1000, 2590738312200969575}, {42, 1000, 3780446852550674546},
		{0, api.MaxNumber - 1, 3689095053785682462}, {0, api.MaxNumber, 12821070495620158101}, {1, api.MaxNumber, 18417268691269070138},
		{42, api.MaxNumber - 1, 8751502473628969144}, {42, api.MaxNumber, 8053721754650292647}, {last, api.MaxNumber - 1, 14548766349568908741}, {last, api.MaxNumber, 7224872299971246064},
	} {
		if got := draws.Skip(c.d, c.n); got != c.want {
			t.Errorf("Skip(%d, %d): %d, expected %d", c.d, c.n, got, c.want)
		}
	}
	for _, d := range states(3, 5) {
		want := d
		for n := range 300 {
			if got := draws.Skip(d, n); got != want {
				t.Errorf("Skip(%d, %d): %d, expected %d", d, n, got, want)
			}
			want = after(want, 1)
		}
	}
}

func TestP8_3SkipOutOfRange(t *testing.T) {
	for _, d := range states(4, 50) {
		for _, n := range append([]int{0}, below...) {
			if got := draws.Skip(d, n); got != d {
				t.Errorf("Skip(%d, %d): %d", d, n, got)
			}
		}
		want := draws.Skip(d, api.MaxNumber)
		for _, n := range append([]int{api.MaxNumber + 1, api.MaxNumber + 2, 2 * api.MaxNumber, math.MaxInt32}, above...) {
			if got := draws.Skip(d, n); got != want {
				t.Errorf("Skip(%d, %d): %d, expected %d", d, n, got, want)
			}
		}
	}
}

// calls returns the state after n calls of Next.
func calls(d api.Draw, n int) api.Draw {
	for range n {
		_, d = draws.Next(d)
	}
	return d
}

func TestP8_8SkipIsNext(t *testing.T) {
	for _, d := range states(5, 20) {
		for _, n := range []int{0, 1, 2, 7, 64, 1023, 1024, 10000} {
			if got, want := draws.Skip(d, n), calls(d, n); got != want {
				t.Errorf("Skip(%d, %d): %d, expected %d", d, n, got, want)
			}
		}
	}
	for _, d := range []api.Draw{0, last, 42} {
		for _, n := range []int{1 << 20, api.MaxNumber - 1, api.MaxNumber} {
			if got, want := draws.Skip(d, n), calls(d, n); got != want {
				t.Errorf("Skip(%d, %d): %d, expected %d", d, n, got, want)
			}
		}
	}
}

func TestP8_8SkipTwice(t *testing.T) {
	source := rand.New(rand.NewSource(6))
	for _, d := range states(6, 50) {
		sums := []int{0, 1, 2, 3, 1000, 1 << 23, api.MaxNumber - 1, api.MaxNumber, source.Intn(api.MaxNumber)}
		for _, sum := range sums {
			for _, m := range []int{0, 1, 2, sum / 2, sum - 1, sum, source.Intn(sum + 1)} {
				if m < 0 || m > sum {
					continue
				}
				got, want := draws.Skip(draws.Skip(d, m), sum-m), draws.Skip(d, sum)
				if got != want {
					t.Errorf("Skip(%d) by %d and %d: %d, expected %d", d, m, sum-m, got, want)
				}
			}
		}
	}
}

func TestP8_8Successors(t *testing.T) {
	found := map[api.Draw]api.Draw{}
	check := func(d api.Draw) {
		_, next := draws.Next(d)
		if other, ok := found[next]; ok && other != d {
			t.Errorf("%d and %d have the successor %d", d, other, next)
		}
		found[next] = d
		// Where each state follows from one that can be computed, no two
		// states have one successor.
		if before(next) != d {
			t.Errorf("the successor %d does not lead back to %d", next, d)
		}
	}
	for _, d := range states(7, 2000) {
		check(d)
		check(d + 1)
		check(^d)
		for bit := range 64 {
			check(d ^ 1<<bit)
		}
	}
}

// outcome is what all functions return for a state.
type outcome struct {
	x, skipped, made api.Draw
	number, index    int
	event            bool
	order            []int
	rests            [5]api.Draw
}

func outcomeOf(d api.Draw) outcome {
	var o outcome
	var x uint32
	o.made, o.skipped = draws.New(uint64(d)), draws.Skip(d, 77)
	x, o.rests[0] = draws.Next(d)
	o.x = api.Draw(x)
	o.number, o.rests[1] = draws.Below(d, 1000)
	o.event, o.rests[2] = draws.Chance(d, ratioOf(big.NewRat(1, 3)))
	o.order, o.rests[3] = draws.Shuffle(d, 12)
	o.index, o.rests[4] = draws.Pick(d, []int{3, 0, 4, 1})
	return o
}

func (o outcome) equals(other outcome) bool {
	return o.x == other.x && o.skipped == other.skipped && o.made == other.made && o.number == other.number && o.index == other.index &&
		o.event == other.event && slices.Equal(o.order, other.order) && o.rests == other.rests
}

func TestP8_8StateAlone(t *testing.T) {
	all := states(8, 200)
	first := make([]outcome, len(all))
	for i, d := range all {
		first[i] = outcomeOf(d)
	}
	// In another order, after other draws and with the same ones repeated.
	for i := len(all) - 1; i >= 0; i-- {
		for range 2 {
			if again := outcomeOf(all[i]); !again.equals(first[i]) {
				t.Errorf("state %d: %v, and before that %v", all[i], again, first[i])
			}
		}
	}
}
