package rng_test

import (
	"fmt"
	"math"
	"math/big"
	"slices"
	"strings"
	"testing"

	"testbench/api"
	"testbench/hash"
	"testbench/rng"
)

const (
	last     = math.MaxUint64 // the greatest number of a stream
	step     = 0x9e3779b97f4a7c15
	maxBelow = 1 << 62
	// Of the bounds up to 2^62, this one rejects the most numbers: it is the least one of which 2^64 has no five multiples.
	wasteful = last/5 + 1
)

func at(key, count uint64) api.Rng {
	return api.Rng{Key: key, Count: count}
}

// seeds has small and great seeds, and some that follow a rule without a pattern.
func seeds() []uint64 {
	list := []uint64{step, last - step + 1, 1 << 63, 1<<63 - 1, last - 1, last}
	for n := range uint64(20) {
		list = append(list, n, n*n*n*0xd1342543de82ef95+1)
	}
	slices.Sort(list)
	return slices.Compact(list)
}

// streams has streams at their beginning, behind it, and where the count begins again.
func streams() []api.Rng {
	var list []api.Rng
	for _, key := range seeds() {
		for _, count := range []uint64{0, 1, 7, 1 << 32, 1 << 63, last - 3, last} {
			list = append(list, at(key, count))
		}
	}
	return list
}

// names has names of threads, and texts that are no names.
func names() []string {
	return []string{"", "a", "b", "ab", "ba", "0", "1", "0.1", "stim", "\x00", "\x00\x00", "\xff", "é", "日本", "a\n", strings.Repeat("x", 5000)}
}

// inverse returns the number whose product with x, which is odd, is 1: each step doubles the number of its lowest bits that are right.
func inverse(x uint64) uint64 {
	y := x
	for range 6 {
		y *= 2 - x*y
	}
	return y
}

// unshifted returns the number that has y as its exclusive or with itself, shifted to the right by n.
func unshifted(y uint64, n int) uint64 {
	x := y
	for range 64 / n {
		x = y ^ x>>n
	}
	return x
}

// unfinished returns the number whose result of hash.Finish is y.
func unfinished(y uint64) uint64 {
	y = unshifted(y, 31) * inverse(0x94d049bb133111eb)
	y = unshifted(y, 27) * inverse(0xbf58476d1ce4e5b9)
	return unshifted(y, 30)
}

// beginning returns the stream whose number with this count, which comes next, is x.
func beginning(x, count uint64) api.Rng {
	return at(unfinished(x)-step*(count+1), count)
}

// modelBelow is choosing below n by its definition, with numbers of any size.
func modelBelow(r api.Rng, n int) (int, api.Rng) {
	all := new(big.Int).Lsh(big.NewInt(1), 64)
	rest := new(big.Int).Mod(all, big.NewInt(int64(n)))
	bound := new(big.Int).Sub(all, rest)
	x := new(big.Int)
	for taken := 0; taken < 64; taken++ {
		x.SetUint64(hash.Mix(r.Key, r.Count))
		r.Count++
		if x.Cmp(bound) < 0 {
			break
		}
	}
	return int(x.Mod(x, big.NewInt(int64(n))).Int64()), r
}

// P6.1: the literal results of these tests were computed by another program, from the chapters alone.
func TestNew(t *testing.T) {
	for seed, key := range map[uint64]uint64{0: 0, 1: 0x5692161d100b05e5, 2: 0xdbd238973a2b148a, step: 0xe220a8397b1dcdaf, last: 0xb4d055fcf2cbbd7b} {
		if got := rng.New(seed); got != at(key, 0) {
			t.Errorf("New(%#x) = %#x; want the key %#x", seed, got, key)
		}
	}
	for _, seed := range seeds() {
		if got, want := rng.New(seed), at(hash.Finish(seed), 0); got != want {
			t.Errorf("New(%#x) = %#x; want %#x", seed, got, want)
		}
	}
}

// P6.1
func TestChild(t *testing.T) {
	for name, key := range map[string]uint64{"": 0xef9ead53f3d83e9f, "a": 0x3333778aa1400228, "0": 0x84e3da664a842373, "stim": 0x50107947eb2c446b, "é": 0x51f98079da3bd0ec} {
		if got := rng.Child(rng.New(0), name); got != at(key, 0) {
			t.Errorf("Child(New(0), %q) = %#x; want the key %#x", name, got, key)
		}
	}
	if got := rng.Child(rng.Child(rng.New(1), "a"), "b"); got != at(0x6c57e14f3e366686, 0) {
		t.Errorf("the child b of the child a of New(1) is %#x", got)
	}
	for _, r := range streams() {
		for _, name := range names() {
			if got, want := rng.Child(r, name), at(hash.Mix(r.Key, hash.Hash(name)), 0); got != want {
				t.Errorf("Child(%#x, %.20q) = %#x; want %#x", r, name, got, want)
			}
		}
	}
}

// P6.1: the first numbers are the published ones of the generator SplitMix64 with the seed 0.
func TestNext(t *testing.T) {
	r := rng.New(0)
	for i, want := range []uint64{0xe220a8397b1dcdaf, 0x6e789e6aa1b965f4, 0x06c45d188009454f} {
		got, behind := rng.Next(r)
		if got != want || behind != at(0, uint64(i)+1) {
			t.Errorf("Next(%#x) = %#x, %#x; want %#x", r, got, behind, want)
		}
		r = behind
	}
	for _, r := range streams() {
		got, behind := rng.Next(r)
		if want := hash.Mix(r.Key, r.Count); got != want || behind != at(r.Key, r.Count+1) {
			t.Errorf("Next(%#x) = %#x, %#x; want %#x", r, got, behind, want)
		}
	}
	if got, behind := rng.Next(at(5, last)); got != hash.Finish(5) || behind != at(5, 0) {
		t.Errorf("the last number is %#x, the stream behind it %#x", got, behind)
	}
}

// P6.1
func TestSkip(t *testing.T) {
	for _, c := range []struct {
		count uint64
		n     int
		want  uint64
	}{
		{0, 0, 0}, {0, 1, 1}, {7, 0, 7}, {7, 5, 12}, {0, math.MaxInt, math.MaxInt}, {math.MaxInt, math.MaxInt, last - 1},
		{last, 1, 0}, {last, 2, 1}, {last - 1, 5, 3}, {last, math.MaxInt, math.MaxInt - 1}, {1 << 63, math.MaxInt, last},
		{0, -1, 0}, {7, -1, 7}, {7, -7, 7}, {7, -8, 7}, {last, -1, last}, {7, math.MinInt, 7}, {0, math.MinInt, 0}, {1 << 63, math.MinInt, 1 << 63},
	} {
		for _, key := range seeds() {
			if got := rng.Skip(at(key, c.count), c.n); got != at(key, c.want) {
				t.Errorf("Skip(%#x, %d) = %#x; want the count %d", at(key, c.count), c.n, got, c.want)
			}
		}
	}
}

func checkBelow(t *testing.T, r api.Rng, n, want int, behind api.Rng) {
	t.Helper()
	if got, gotBehind, err := rng.Below(r, n); got != want || gotBehind != behind || err != api.OK {
		t.Errorf("Below(%#x, %d) = %d, %#x, %d; want %d, %#x", r, n, got, gotBehind, err, want, behind)
	}
}

// bounds has the bounds at and beside powers of two, those that reject many numbers, and the least and the greatest ones.
func bounds() []int {
	list := []int{3, 5, 6, 7, 9, 10, 11, 100, 1000, 4097, api.MaxCount, maxBelow - 1, maxBelow, wasteful - 1, wasteful, wasteful + 1, last / 7, last/7 + 1, 1e18, 6469693230}
	for shift := range 62 {
		list = append(list, 1<<shift, 1<<shift+1, 1<<(shift+1)-1)
	}
	return list
}

// P6.2
func TestBelow(t *testing.T) {
	for n, want := range map[int]int{1: 0, 2: 1, 3: 1, 6: 1, 10: 5, 100: 35, 1 << 40: 246878686639, 1 << 62: 2459150361376443823} {
		checkBelow(t, rng.New(0), n, want, at(0, 1))
	}
	for n, want := range map[int]int{1<<61 + 1: 1042757494553273841, wasteful: 581588892710535052} {
		checkBelow(t, rng.New(0), n, want, at(0, 2))
	}
	for _, r := range streams() {
		for _, n := range bounds() {
			want, behind := modelBelow(r, n)
			checkBelow(t, r, n, want, behind)
		}
	}
}

// P6.2: the first number of a stream is each one beside the borders between those that are taken and those that are rejected.
func TestBelowBorders(t *testing.T) {
	for _, n := range bounds() {
		size := uint64(n)
		greatest := last - (last%size+1)%size
		for d := range uint64(3) {
			for _, x := range []uint64{d, size - 1 - d, size + d, greatest - d, greatest + 1 + d, last - d} {
				r := beginning(x, last)
				want, behind := modelBelow(r, n)
				checkBelow(t, r, n, want, behind)
				if taken := x <= greatest; taken != (behind == at(r.Key, 0)) {
					t.Errorf("the model takes the numbers to %#x for %#x below %d", behind, r, n)
				}
			}
		}
	}
}

// P6.2: 2^64 - 1 is the only number that is rejected below 3, and no number is rejected below a power of two.
func TestBelowRejects(t *testing.T) {
	r := beginning(last, 0)
	second := hash.Mix(r.Key, 1)
	checkBelow(t, r, 3, int(second%3), at(r.Key, 2))
	checkBelow(t, r, 1, 0, at(r.Key, 1))
	checkBelow(t, r, 4, 3, at(r.Key, 1))
	checkBelow(t, r, maxBelow, maxBelow-1, at(r.Key, 1))
	r = beginning(last-1, 0)
	checkBelow(t, r, 3, 2, at(r.Key, 1))
}

// P6.2: several numbers are rejected one after the other, also where the count begins again.
func TestBelowRejectsMany(t *testing.T) {
	most := uint64(0)
	for seed := range uint64(20000) {
		r := rng.Skip(rng.New(seed), 5)
		r.Count -= seed % 9
		want, behind := modelBelow(r, wasteful)
		checkBelow(t, r, wasteful, want, behind)
		most = max(most, behind.Count-r.Count)
	}
	if most < 5 {
		t.Errorf("at most %d numbers were taken", most)
	}
}

// P6.2
func TestBelowErrors(t *testing.T) {
	for _, n := range []int{0, -1, -2, -maxBelow, math.MinInt, math.MinInt + 1, maxBelow + 1, maxBelow + 2, math.MaxInt - 1, math.MaxInt} {
		for _, r := range streams() {
			if got, behind, err := rng.Below(r, n); got != 0 || behind != (api.Rng{}) || err != api.ErrArg {
				t.Errorf("Below(%#x, %d) = %d, %#x, %d; want ErrArg", r, n, got, behind, err)
			}
		}
	}
}

// P6.2, example 1
func TestBelowOne(t *testing.T) {
	for _, r := range streams() {
		checkBelow(t, r, 1, 0, rng.Skip(r, 1))
	}
}

// lists has lists of weights without an error.
func lists() [][]int {
	list := [][]int{
		{1}, {5}, {api.MaxCount}, {1, 1}, {1, 2}, {2, 1}, {0, 1}, {1, 0}, {3, 0, 1, 4}, {0, 0, 7, 0, 0, 2, 0}, {1, 1, 1, 1, 1, 1, 1},
		{api.MaxCount - 1, 1}, {1, api.MaxCount - 1}, {0, api.MaxCount, 0}, {api.MaxCount / 2, api.MaxCount / 2}, {1, api.MaxCount - 2, 1}, {api.MaxCount / 3, api.MaxCount / 3, api.MaxCount / 3},
	}
	var long []int
	for i := range 1000 {
		long = append(long, i%7*(i%3))
	}
	return append(list, long, long[:21])
}

// modelIndex returns the index for x by the definition of the sums.
func modelIndex(weights []int, x int) int {
	sum := 0
	for k, weight := range weights {
		if sum <= x && x < sum+weight {
			return k
		}
		sum += weight
	}
	return -1
}

func sum(weights []int) int {
	total := 0
	for _, weight := range weights {
		total += weight
	}
	return total
}

func checkWeighted(t *testing.T, r api.Rng, weights []int, want int, behind api.Rng) {
	t.Helper()
	if got, gotBehind, err := rng.Weighted(r, weights); got != want || gotBehind != behind || err != api.OK {
		t.Errorf("Weighted(%#x, %v) = %d, %#x, %d; want %d, %#x", r, weights, got, gotBehind, err, want, behind)
	}
}

// P6.3
func TestWeighted(t *testing.T) {
	for seed, want := range [][]int{{3, 3, 3, 3, 2, 0, 0, 3, 2, 3}, {0, 3, 3, 3, 2, 3, 0, 3, 3, 3}, {3, 3, 3, 0, 0, 0, 3, 0, 3, 3}} {
		r := rng.New(uint64(seed))
		for _, k := range want {
			checkWeighted(t, r, []int{3, 0, 1, 4}, k, rng.Skip(r, 1))
			r = rng.Skip(r, 1)
		}
	}
	for _, r := range streams() {
		for _, weights := range lists() {
			x, behind := modelBelow(r, sum(weights))
			checkWeighted(t, r, weights, modelIndex(weights, x), behind)
		}
	}
}

// P6.3: x is each number below the sum, or, if there are too many, those beside the borders of the weights.
func TestWeightedChoices(t *testing.T) {
	for _, weights := range lists() {
		total := sum(weights)
		var choices []int
		for x := range min(total, 5000) {
			choices = append(choices, x, total-1-x)
		}
		border := 0
		for _, weight := range weights {
			choices = append(choices, border-1, border)
			border += weight
		}
		for _, x := range choices {
			if x < 0 || x >= total {
				continue
			}
			r := beginning(uint64(x), 3)
			checkWeighted(t, r, weights, modelIndex(weights, x), at(r.Key, 4))
		}
	}
}

// P6.3: a number that is rejected is not used.
func TestWeightedRejects(t *testing.T) {
	r := beginning(last, 0)
	weights := []int{1, 1, 1}
	checkWeighted(t, r, weights, int(hash.Mix(r.Key, 1)%3), at(r.Key, 2))
}

// P6.3
func TestWeightedErrors(t *testing.T) {
	const most = api.MaxCount
	for _, weights := range [][]int{
		nil, {}, {0}, {0, 0}, make([]int, 1000),
		{-1}, {5, -1}, {-1, 5}, {1, -1}, {0, -1, 2}, {-1, -1}, {math.MinInt}, {math.MinInt, math.MinInt}, {math.MinInt, math.MaxInt, 2}, {most + 1, -1}, {-1, most + 1}, {most, -most}, {2 * most, -most}, {3, math.MinInt},
		{most + 1}, {most, 1}, {1, most}, {0, most + 1}, {most, most}, {most / 2, most / 2, 1}, {math.MaxInt}, {math.MaxInt, 1}, {1, math.MaxInt}, {math.MaxInt, math.MaxInt, 2}, {math.MaxInt, math.MaxInt, 3}, {1 << 62, 1 << 62, 1 << 62, 1 << 62}, {1 << 62, 1 << 62, 1 << 62, 1 << 62, 1},
		[]int{0, 0, 5}[:2], []int{5}[:0],
	} {
		for _, r := range []api.Rng{{}, rng.New(1), at(last, last)} {
			if got, behind, err := rng.Weighted(r, weights); got != 0 || behind != (api.Rng{}) || err != api.ErrArg {
				t.Errorf("Weighted(%#x, %.20v) = %d, %#x, %d; want ErrArg", r, weights, got, behind, err)
			}
		}
	}
}

// P6.3: rules 0.4 and 0.8.
func TestWeightedKeepsArgument(t *testing.T) {
	array := []int{3, 0, 1, 4, -1, math.MaxInt}
	for _, r := range streams() {
		x, behind := modelBelow(r, 8)
		checkWeighted(t, r, array[:4], modelIndex(array[:4], x), behind)
	}
	if !slices.Equal(array, []int{3, 0, 1, 4, -1, math.MaxInt}) {
		t.Errorf("the weights are now %v", array)
	}
}

// modelShuffle is the order by its definition, and the stream behind.
func modelShuffle(r api.Rng, n int) ([]int, api.Rng) {
	var list []int
	for i := range n {
		list = append(list, i)
	}
	for i := n - 1; i >= 1; i-- {
		var j int
		j, r = modelBelow(r, i+1)
		list[i], list[j] = list[j], list[i]
	}
	return list, r
}

func checkShuffle(t *testing.T, r api.Rng, n int, want []int, behind api.Rng) {
	t.Helper()
	if got, gotBehind, err := rng.Shuffle(r, n); !slices.Equal(got, want) || gotBehind != behind || err != api.OK {
		t.Errorf("Shuffle(%#x, %d) = %.20v, %#x, %d; want %.20v, %#x", r, n, got, gotBehind, err, want, behind)
	}
}

// P6.4
func TestShuffle(t *testing.T) {
	for seed, want := range [][]int{{2, 5, 0, 3, 4, 6, 1, 7}, {5, 6, 0, 3, 4, 1, 7, 2}, {1, 2, 3, 4, 5, 0, 7, 6}} {
		r := rng.New(uint64(seed))
		checkShuffle(t, r, 8, want, at(r.Key, 7))
	}
	for seed, want := range [][]int{{2, 1, 0}, {1, 2, 0}, {1, 2, 0}} {
		r := rng.Skip(rng.New(uint64(seed)), 5)
		checkShuffle(t, r, 3, want, at(r.Key, 7))
	}
	for _, r := range streams() {
		for _, n := range []int{2, 3, 4, 5, 16, 100} {
			want, behind := modelShuffle(r, n)
			checkShuffle(t, r, n, want, behind)
		}
	}
	for _, n := range []int{4095, 4096} {
		want, behind := modelShuffle(rng.New(7), n)
		checkShuffle(t, rng.New(7), n, want, behind)
	}
}

// P6.4, example 3: the list without an element, and that with a single one, take no number.
func TestShuffleTakesNoNumber(t *testing.T) {
	for _, r := range streams() {
		checkShuffle(t, r, 0, nil, r)
		checkShuffle(t, r, 1, []int{0}, r)
	}
}

// P6.4: both j can be chosen for two elements, and a number that is rejected is not used.
func TestShuffleChoices(t *testing.T) {
	r := beginning(0, 0)
	checkShuffle(t, r, 2, []int{1, 0}, at(r.Key, 1))
	r = beginning(1, last)
	checkShuffle(t, r, 2, []int{0, 1}, at(r.Key, 0))
	r = beginning(last, 0)
	want, behind := modelShuffle(r, 3)
	if behind != at(r.Key, 3) {
		t.Errorf("the model takes the numbers to %#x", behind)
	}
	checkShuffle(t, r, 3, want, behind)
}

// P6.4
func TestShuffleErrors(t *testing.T) {
	for _, n := range []int{-1, -2, -4096, math.MinInt, math.MinInt + 1, 4097, 4098, 1 << 32, 1<<32 + 1, math.MaxInt} {
		for _, r := range []api.Rng{{}, rng.New(1), at(last, last)} {
			if got, behind, err := rng.Shuffle(r, n); len(got) != 0 || behind != (api.Rng{}) || err != api.ErrArg {
				t.Errorf("Shuffle(%#x, %d) = %.20v, %#x, %d; want ErrArg", r, n, got, behind, err)
			}
		}
	}
}

// P6.4: rule 0.4.
func TestShuffleIsNew(t *testing.T) {
	r := rng.New(0)
	first, _, _ := rng.Shuffle(r, 8)
	for i := range first {
		first[i] = -1
	}
	checkShuffle(t, r, 8, []int{2, 5, 0, 3, 4, 6, 1, 7}, at(0, 7))
}

// P6.5
func TestChildIgnoresCount(t *testing.T) {
	for _, r := range streams() {
		for _, name := range names() {
			if rng.Child(r, name) != rng.Child(at(r.Key, 0), name) || rng.Child(rng.Child(r, name), "a") != rng.Child(rng.Child(rng.Skip(r, 9), name), "a") {
				t.Errorf("the child %.20q of %#x depends on the count", name, r)
			}
		}
	}
	children := map[api.Rng]string{}
	for _, key := range seeds() {
		for _, name := range names() {
			children[rng.Child(at(key, 0), name)] = fmt.Sprint(key, name)
		}
	}
	if want := len(seeds()) * len(names()); len(children) != want {
		t.Errorf("%d streams have %d keys", want, len(children))
	}
}

// P6.5
func TestSkipIsNext(t *testing.T) {
	for _, start := range streams() {
		r := start
		for n := range 20 {
			if got := rng.Skip(start, n); got != r {
				t.Errorf("Skip(%#x, %d) = %#x; want %#x", start, n, got, r)
			}
			_, r = rng.Next(r)
		}
	}
}

// P6.5: what was called in between does not change what a stream gives.
func TestStreamIsDetermined(t *testing.T) {
	outcome := func(r api.Rng) string {
		x, afterNext := rng.Next(r)
		below, afterBelow, _ := rng.Below(r, wasteful)
		index, afterWeighted, _ := rng.Weighted(r, []int{3, 0, 1, 4})
		list, afterShuffle, _ := rng.Shuffle(r, 12)
		return fmt.Sprint(x, afterNext, below, afterBelow, index, afterWeighted, list, afterShuffle, rng.Child(r, "a"))
	}
	var before []string
	for _, r := range streams() {
		before = append(before, outcome(r))
	}
	all := streams()
	for i := len(all) - 1; i >= 0; i-- {
		if got := outcome(all[i]); got != before[i] {
			t.Errorf("%#x gives %s, and before %s", all[i], got, before[i])
		}
	}
}

// P6.6: the count is found again from each number.
func TestNumbersAreDifferent(t *testing.T) {
	for _, r := range streams() {
		for range 50 {
			count := r.Count
			var x uint64
			x, r = rng.Next(r)
			if got := (unfinished(x)-r.Key)*inverse(step) - 1; got != count {
				t.Errorf("the number %d of %#x is also its number %d", count, r, got)
			}
		}
	}
	seen := map[uint64]bool{}
	r := at(step, last-50000)
	for range 100000 {
		var x uint64
		x, r = rng.Next(r)
		seen[x] = true
	}
	if len(seen) != 100000 {
		t.Errorf("of 100000 numbers %d are different", len(seen))
	}
}

// P6.7, example 2
func TestWeightedNeverReturnsZeroWeight(t *testing.T) {
	weights := []int{0, 0, 2, 0, 1, 0, 0, 3, 0}
	found := map[int]bool{}
	for _, r := range streams() {
		for x := range 12 {
			k, _, _ := rng.Weighted(beginning(uint64(x), r.Count), weights)
			found[k] = true
			k, _, _ = rng.Weighted(r, weights)
			found[k] = true
		}
		checkWeighted(t, r, []int{0, 3, 0}, 1, rng.Skip(r, 1))
	}
	if len(found) != 3 || !found[2] || !found[4] || !found[7] {
		t.Errorf("the indexes %v were returned", found)
	}
	for k := range 20 {
		single := make([]int, 20)
		single[k] = 64 << k
		for _, r := range streams() {
			checkWeighted(t, r, single, k, rng.Skip(r, 1))
		}
	}
}

// P6.8
func TestShuffleIsPermutation(t *testing.T) {
	for _, r := range streams() {
		for _, n := range []int{0, 1, 2, 3, 10, 64, 65, 300} {
			checkPermutation(t, r, n)
		}
	}
	checkPermutation(t, rng.New(3), 4096)
}

func checkPermutation(t *testing.T, r api.Rng, n int) {
	t.Helper()
	list, _, err := rng.Shuffle(r, n)
	if err != api.OK || len(list) != n {
		t.Errorf("Shuffle(%#x, %d) has %d numbers and the error %d", r, n, len(list), err)
	}
	slices.Sort(list)
	for i, x := range list {
		if x != i {
			t.Fatalf("Shuffle(%#x, %d) lacks %d", r, n, i)
		}
	}
}

// P6.4, P6.8: all orders of four elements occur, and about equally often.
func TestShuffleOrders(t *testing.T) {
	counts := map[string]int{}
	for seed := range uint64(24000) {
		list, _, _ := rng.Shuffle(rng.New(seed), 4)
		counts[fmt.Sprint(list)]++
	}
	for order, count := range counts {
		if count < 850 || count > 1150 {
			t.Errorf("the order %s occurs %d times", order, count)
		}
	}
	if len(counts) != 24 {
		t.Errorf("%d orders occur", len(counts))
	}
}
