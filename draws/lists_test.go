package draws_test

import (
	"math"
	"math/rand"
	"slices"
	"testing"

	"examboard/api"
	"examboard/draws"
)

// run returns the numbers from 0 to n - 1.
func run(n int) []int {
	numbers := make([]int, n)
	for i := range numbers {
		numbers[i] = i
	}
	return numbers
}

// shuffled is the definition.
func shuffled(d api.Draw, n int) ([]int, api.Draw) {
	order := run(n)
	for i := n - 1; i >= 1; i-- {
		other := share(drawn(d), i+1)
		order[i], order[other] = order[other], order[i]
		d = after(d, 1)
	}
	return order, d
}

func TestP8_6Shuffle(t *testing.T) {
	for _, c := range []struct {
		d, rest api.Draw
		want    []int
	}{
		{0, 0, nil}, {last, last, nil}, {0, 0, []int{0}}, {last, last, []int{0}},
		{0, 1442695040888963407, []int{1, 0}}, {0, 1876011003808476466, []int{1, 2, 0}}, {0, 11166244414315200793, []int{2, 1, 3, 0}}, {0, 8905969151499887831, []int{7, 3, 1, 8, 5, 6, 2, 4, 9, 0}},
		{last, 13525302890751722018, []int{0, 1}}, {last, 12801857353207693129, []int{0, 1, 2}}, {last, 10372369020401571876, []int{0, 1, 3, 2}}, {last, 2321725666317092618, []int{9, 0, 1, 8, 3, 5, 2, 4, 6, 7}},
		{42, 4159066171780167020, []int{2, 0, 1}}, {42, 11628791489956661374, []int{3, 4, 1, 0, 2}}, {42, 8743034423534012537, []int{1, 8, 7, 9, 0, 6, 4, 3, 2, 5}},
	} {
		if got, d := draws.Shuffle(c.d, len(c.want)); !slices.Equal(got, c.want) || d != c.rest {
			t.Errorf("Shuffle(%d, %d): %v, %d; expected %v, %d", c.d, len(c.want), got, d, c.want, c.rest)
		}
	}
	for _, d := range states(20, 20) {
		for _, n := range []int{0, 1, 2, 3, 4, 7, 31, 100, api.MaxKids - 1, api.MaxKids} {
			want, rest := shuffled(d, n)
			if got, end := draws.Shuffle(d, n); !slices.Equal(got, want) || end != rest {
				t.Errorf("Shuffle(%d, %d): %v, %d; expected %v, %d", d, n, got, end, want, rest)
			}
		}
	}
}

func TestP8_6ShuffleOfMaxKids(t *testing.T) {
	for _, c := range []struct {
		d, rest     api.Draw
		first, last []int
	}{
		{0, 5587696803768972309, []int{478, 854, 97, 431, 949, 73, 166, 972}, []int{409, 618, 104, 80}},
		{last, 1398855791739419504, []int{512, 400, 285, 150, 765, 782, 604, 27}, []int{428, 574, 709, 750}},
		{42, 15498322645624225575, []int{727, 651, 255, 145, 620, 776, 852, 1013}, []int{643, 421, 230, 581}},
	} {
		got, d := draws.Shuffle(c.d, api.MaxKids)
		if len(got) != api.MaxKids || !slices.Equal(got[:8], c.first) || !slices.Equal(got[len(got)-4:], c.last) || d != c.rest {
			t.Errorf("Shuffle(%d, MaxKids): %v, %d", c.d, got, d)
		}
	}
}

func TestP8_6ShuffleOutOfRange(t *testing.T) {
	for _, d := range states(21, 50) {
		for _, n := range slices.Concat([]int{api.MaxKids + 1, api.MaxKids + 2, 1 << 16, api.MaxNumber}, below, above) {
			if got, rest := draws.Shuffle(d, n); len(got) != 0 || rest != d {
				t.Errorf("Shuffle(%d, %d): %v, %d", d, n, got, rest)
			}
		}
	}
}

func TestP8_9Shuffle(t *testing.T) {
	for _, d := range states(22, 20) {
		for n := 0; n <= api.MaxKids; n += 1 + n/8 {
			order, _ := draws.Shuffle(d, n)
			slices.Sort(order)
			if !slices.Equal(order, run(n)) {
				t.Errorf("Shuffle(%d, %d) is not a permutation", d, n)
			}
		}
	}
	// Of three elements, each order is drawn.
	found := map[[3]int]bool{}
	for _, d := range states(23, 200) {
		order, _ := draws.Shuffle(d, 3)
		found[[3]int(order)] = true
	}
	if len(found) != 6 {
		t.Errorf("only the orders %v are drawn", found)
	}
}

// picked is the definition: the first index up to which the sum of the weights
// is greater than the draw below their sum.
func picked(d api.Draw, weights []int) int {
	sum := 0
	for _, weight := range weights {
		sum += weight
	}
	x := share(drawn(d), sum)
	sum = 0
	for i, weight := range weights {
		sum += weight
		if sum > x {
			return i
		}
	}
	panic("no index")
}

// most returns as many weights of MaxCoef.
func most(count int) []int { return slices.Repeat([]int{api.MaxCoef}, count) }

// fit returns lists of weights that can be drawn with, all the edges among them.
func fit(seed int64, count int) [][]int {
	zeros := make([]int, api.MaxKids)
	all := [][]int{
		{1}, {2}, {7}, {api.MaxCoef}, {1, 1}, {5, 5}, {api.MaxCoef, api.MaxCoef}, {1, api.MaxCoef}, {api.MaxCoef, 1}, {1, 2, 3, 4}, {9, 3, 1},
		{0, 1}, {1, 0}, {0, 5, 5}, {5, 0, 5}, {5, 5, 0}, {0, 0, 7}, {7, 0, 0}, {0, 7, 0}, {0, 2, 0, 0, 3, 0}, {0, api.MaxCoef, 0},
		most(api.MaxKids), slices.Repeat([]int{1}, api.MaxKids), append(slices.Clone(zeros[1:]), 1), append([]int{1}, zeros[1:]...), append([]int{0, 3, 0, 4}, zeros[4:]...), slices.Repeat([]int{0, 1}, api.MaxKids/2),
	}
	source := rand.New(rand.NewSource(seed))
	for range count {
		weights := make([]int, 1+source.Intn(1+api.MaxKids>>source.Intn(11))%api.MaxKids)
		for i := range weights {
			weights[i] = source.Intn(1+api.MaxCoef>>source.Intn(21)) * source.Intn(2)
		}
		some := source.Intn(len(weights))
		weights[some] = max(weights[some], 1)
		all = append(all, weights)
	}
	return all
}

func TestP8_7Pick(t *testing.T) {
	for _, c := range []struct {
		d       api.Draw
		weights []int
		want    int
	}{
		{0, []int{0, 5, 5}, 1}, {last, []int{0, 5, 5}, 2}, {0, []int{1}, 0}, {last, []int{1}, 0}, {0, []int{78, 1, 921}, 1}, {0, []int{79, 0, 921}, 0}, {0, []int{77, 1, 0, 922}, 3}, {last, []int{733, 1, 266}, 1}, {last, []int{734, 266}, 0}, {last, []int{732, 1, 267}, 2},
		{before(0), []int{0, 0, 1, 5, 0}, 2}, {before(last), []int{0, 5, 1, 0, 0}, 2}, {before(0), most(api.MaxKids), 0}, {before(last), most(api.MaxKids), api.MaxKids - 1}, {0, most(api.MaxKids), 80}, {last, most(api.MaxKids), 750},
	} {
		if got, d := draws.Pick(c.d, c.weights); got != c.want || d != after(c.d, 1) {
			t.Errorf("Pick(%d, %v): %d, %d; expected %d, %d", c.d, c.weights, got, d, c.want, after(c.d, 1))
		}
	}
	for _, weights := range fit(24, 100) {
		for _, d := range states(24, 20) {
			if got, rest := draws.Pick(d, weights); got != picked(d, weights) || rest != after(d, 1) {
				t.Errorf("Pick(%d, %v): %d, %d; expected %d, %d", d, weights, got, rest, picked(d, weights), after(d, 1))
			}
		}
	}
}

func TestP8_7PickOfEachNumber(t *testing.T) {
	for _, weights := range [][]int{{1}, {3}, {1, 1}, {0, 5, 5}, {0, 2, 0, 0, 3, 0}, {1, 2, 3, 4}, {9, 0, 1}} {
		// The index of each number below the sum.
		var indexes []int
		for i, weight := range weights {
			indexes = append(indexes, slices.Repeat([]int{i}, weight)...)
		}
		for x, want := range indexes {
			first := firstDraw(x, len(indexes))
			// Behind the last x, 0 less 1 is the greatest draw, as it should be.
			end := firstDraw(x+1, len(indexes)) - 1
			for _, draw := range []uint32{first, end} {
				if got, _ := draws.Pick(drawing(draw, 0), weights); got != want {
					t.Errorf("Pick of %v with the draw %d: %d, expected %d", weights, draw, got, want)
				}
			}
		}
	}
}

// unfit returns lists of weights with which nothing can be drawn.
func unfit() [][]int {
	all := [][]int{nil, {}, {0}, {0, 0}, {0, 0, 0, 0}, make([]int, api.MaxKids), make([]int, api.MaxKids+1), most(api.MaxKids + 1), slices.Repeat([]int{1}, api.MaxKids+1), slices.Repeat([]int{1}, 100000), slices.Repeat([]int{math.MaxInt}, 100000)}
	for _, bad := range slices.Concat([]int{api.MaxCoef + 1, api.MaxCoef + 2, api.MaxNumber, math.MaxInt32}, below, above) {
		all = append(all, []int{bad}, []int{bad, 1}, []int{1, bad}, []int{1, bad, 1}, []int{0, 0, bad}, []int{bad, bad}, []int{bad, -bad}, []int{1 - bad, bad})
		all = append(all, append(most(api.MaxKids-1), bad), append([]int{bad}, most(api.MaxKids-1)...), append(most(api.MaxKids), bad))
	}
	// Sums that wrap around to a number that would do.
	return append(all, []int{math.MaxInt, math.MaxInt, 5}, []int{5, math.MinInt, math.MinInt}, []int{math.MinInt, math.MinInt, 5}, []int{math.MinInt, math.MaxInt, 5})
}

func TestP8_7PickOfNothing(t *testing.T) {
	for _, weights := range unfit() {
		for _, d := range states(25, 5) {
			if got, rest := draws.Pick(d, weights); got != -1 || rest != d {
				t.Errorf("Pick(%d, %v): %d, %d", d, weights[:min(len(weights), 5)], got, rest)
			}
		}
	}
}

func TestP8_9Pick(t *testing.T) {
	for _, weights := range fit(26, 200) {
		for _, d := range states(26, 20) {
			if got, _ := draws.Pick(d, weights); got < 0 || got >= len(weights) || weights[got] == 0 {
				t.Errorf("Pick(%d, %v): %d", d, weights, got)
			}
		}
	}
	for _, weight := range []int{1, 2, 3, 10, 999, api.MaxCoef - 1, api.MaxCoef} {
		for _, n := range []int{1, 2, 3, 5, 64, 1000, api.MaxKids - 1, api.MaxKids} {
			for _, d := range states(27, 50) {
				want, rest := draws.Below(d, n)
				if got, end := draws.Pick(d, slices.Repeat([]int{weight}, n)); got != want || end != rest {
					t.Errorf("Pick(%d) with %d weights of %d: %d, %d; expected %d, %d", d, n, weight, got, end, want, rest)
				}
			}
		}
	}
}

func TestP8_10Consumption(t *testing.T) {
	for _, d := range states(28, 100) {
		_, one := draws.Next(d)
		for _, n := range bounds() {
			if _, rest := draws.Below(d, n); rest != one {
				t.Errorf("Below(%d, %d) leads to %d, expected %d", d, n, rest, one)
			}
		}
		for _, value := range chances(drawn(d)) {
			if _, rest := draws.Chance(d, ratioOf(value)); rest != one {
				t.Errorf("Chance(%d, %v) leads to %d, expected %d", d, value, rest, one)
			}
		}
		for _, weights := range fit(28, 5) {
			if _, rest := draws.Pick(d, weights); rest != one {
				t.Errorf("Pick(%d, %v) leads to %d, expected %d", d, weights, rest, one)
			}
		}
		for _, n := range []int{1, 2, 3, 10, 500, api.MaxKids - 1, api.MaxKids} {
			if _, rest := draws.Shuffle(d, n); rest != calls(d, n-1) || rest != draws.Skip(d, n-1) {
				t.Errorf("Shuffle(%d, %d) leads to %d, expected %d", d, n, rest, calls(d, n-1))
			}
		}
		if _, rest := draws.Shuffle(d, 0); rest != d {
			t.Errorf("Shuffle(%d, 0) leads to %d", d, rest)
		}
	}
}

func TestP2PickLeavesItsArgument(t *testing.T) {
	for _, weights := range append(fit(29, 50), unfit()...) {
		// With memory behind the weights, which is no part of the argument.
		whole := append(slices.Clone(weights), 4, 5, 6)
		want := slices.Clone(whole)
		for _, d := range states(29, 2) {
			index, rest := draws.Pick(d, whole[:len(weights)])
			if again, restAgain := draws.Pick(d, weights); again != index || restAgain != rest {
				t.Fatalf("Pick(%d) depends on more than the weights: %d, %d", d, index, again)
			}
		}
		if !slices.Equal(whole, want) {
			t.Fatalf("Pick changed %v to %v", want, whole)
		}
	}
}

func TestP2ShuffleSharesNoMemory(t *testing.T) {
	for _, n := range []int{1, 2, 5, api.MaxKids} {
		for _, d := range states(30, 5) {
			first, _ := draws.Shuffle(d, n)
			second, _ := draws.Shuffle(d, n)
			want := slices.Clone(second)
			first = first[:cap(first)]
			for i := range first {
				first[i] = -7
			}
			third, _ := draws.Shuffle(d, n)
			if !slices.Equal(second, want) || !slices.Equal(third, want) {
				t.Errorf("Shuffle(%d, %d) shares memory with another result", d, n)
			}
		}
	}
}

func TestExamplesOfTheChapter(t *testing.T) {
	if draws.New(0) != 1442695040888963407 {
		t.Error("New")
	}
	if x, d := draws.Next(0); x != 335903614 || d != 1442695040888963407 {
		t.Error("Next")
	}
	if n, _ := draws.Below(0, 1000); n != 78 {
		t.Error("Below")
	}
	if order, _ := draws.Shuffle(0, 2); !slices.Equal(order, []int{1, 0}) {
		t.Error("Shuffle")
	}
	if i, _ := draws.Pick(0, []int{0, 5, 5}); i != 1 {
		t.Error("Pick")
	}
	for _, d := range states(31, 1000) {
		if i, _ := draws.Pick(d, []int{0, 0, 7}); i != 2 {
			t.Errorf("Pick(%d) of one weight: %d", d, i)
		}
	}
}
