package word_test

import (
	"math"
	"testing"

	"testbench/api"
	"testbench/word"
)

const (
	least    = math.MinInt
	greatest = math.MaxInt
)

// samples has small numbers, those around the borders of words and of ints, and some in between, of both signs.
func samples() []int {
	list := []int{21845, 43690, 4660, 51966, 1000003, -1000003, least, least + 1, greatest - 1, greatest}
	for n := -20; n <= 20; n++ {
		list = append(list, n)
	}
	for _, border := range []int{1 << 8, 1 << 15, 1 << 16, 1 << 17, 1 << 31, 1 << 32, 1 << 62} {
		for d := -2; d <= 2; d++ {
			list = append(list, border+d, -border+d)
		}
	}
	return list
}

// numbers has the samples and every word.
func numbers() []int {
	list := samples()
	for n := range api.MaxWord + 1 {
		list = append(list, n)
	}
	return list
}

// places has all numbers of bits and widths, and numbers that are none.
func places() []int {
	list := []int{least, least + 1, least + 16, -65536, -17, -16, 64, 65, 256, 65535, 65536, 65537, 1 << 32, greatest - 1, greatest}
	for n := -3; n <= 20; n++ {
		list = append(list, n)
	}
	return list
}

// model is Wrap by its definition: the remainder that is not negative.
func model(n int) int {
	return (n%65536 + 65536) % 65536
}

func power(n int) int {
	product := 1
	for range n {
		product *= 2
	}
	return product
}

func modelBit(a, i int) int {
	return model(a) / power(i) % 2
}

type unaryCall struct{ a, want int }

func checkUnary(t *testing.T, name string, f func(a int) int, calls []unaryCall) {
	t.Helper()
	for _, c := range calls {
		if got := f(c.a); got != c.want {
			t.Errorf("%s(%d) = %d; want %d", name, c.a, got, c.want)
		}
	}
}

func checkUnaryModel(t *testing.T, name string, f, want func(a int) int) {
	t.Helper()
	for _, a := range numbers() {
		if f(a) != want(a) {
			t.Fatalf("%s(%d) = %d; want %d", name, a, f(a), want(a))
		}
	}
}

type binaryCall struct{ a, b, want int }

func checkBinary(t *testing.T, name string, f func(a, b int) int, calls []binaryCall) {
	t.Helper()
	for _, c := range calls {
		if got := f(c.a, c.b); got != c.want {
			t.Errorf("%s(%d, %d) = %d; want %d", name, c.a, c.b, got, c.want)
		}
	}
}

func checkBinaryModel(t *testing.T, name string, f, want func(a, b int) int, seconds []int) {
	t.Helper()
	for _, a := range samples() {
		for _, b := range seconds {
			if f(a, b) != want(a, b) {
				t.Fatalf("%s(%d, %d) = %d; want %d", name, a, b, f(a, b), want(a, b))
			}
		}
	}
}

// P2.1
func TestWrap(t *testing.T) {
	checkUnary(t, "Wrap", word.Wrap, []unaryCall{
		{0, 0}, {1, 1}, {65535, 65535}, {65536, 0}, {65537, 1}, {131071, 65535},
		{-1, 65535}, {-65535, 1}, {-65536, 0}, {-65537, 65535}, {-32768, 32768},
		{greatest, 65535}, {least, 0}, {least + 1, 1},
	})
	checkUnaryModel(t, "Wrap", word.Wrap, model)
}

// P2.2
func TestAdd(t *testing.T) {
	checkBinary(t, "Add", word.Add, []binaryCall{
		{65535, 2, 1}, {0, 0, 0}, {1, 2, 3}, {65535, 1, 0}, {32768, 32768, 0}, {-1, -1, 65534},
		{65536, 65537, 1}, {greatest, greatest, 65534}, {least, least, 0}, {least, 5, 5}, {greatest, 1, 0},
	})
	checkBinaryModel(t, "Add", word.Add, func(a, b int) int { return model(model(a) + model(b)) }, samples())
}

// P2.2
func TestSub(t *testing.T) {
	checkBinary(t, "Sub", word.Sub, []binaryCall{
		{1, 2, 65535}, {0, 0, 0}, {5, 3, 2}, {0, 65535, 1}, {-1, 1, 65534}, {65536, 65537, 65535},
		{least, 1, 65535}, {0, least, 0}, {greatest, least, 65535},
	})
	checkBinaryModel(t, "Sub", word.Sub, func(a, b int) int { return model(model(a) - model(b)) }, samples())
}

// P2.2
func TestMul(t *testing.T) {
	checkBinary(t, "Mul", word.Mul, []binaryCall{
		{256, 256, 0}, {0, 7, 0}, {3, 5, 15}, {65535, 65535, 1}, {-1, 2, 65534}, {257, 257, 513},
		{65537, 65538, 2}, {greatest, greatest, 1}, {least, 3, 0}, {-3, -5, 15},
	})
	checkBinaryModel(t, "Mul", word.Mul, func(a, b int) int { return model(model(a) * model(b)) }, samples())
}

// P2.2
func TestNeg(t *testing.T) {
	checkUnary(t, "Neg", word.Neg, []unaryCall{
		{1, 65535}, {0, 0}, {65535, 1}, {32768, 32768}, {-5, 5}, {65536, 0}, {65537, 65535}, {least, 0}, {greatest, 1},
	})
	checkUnaryModel(t, "Neg", word.Neg, func(a int) int { return model(-model(a)) })
}

// P2.3
func TestInv(t *testing.T) {
	checkUnary(t, "Inv", word.Inv, []unaryCall{
		{0, 65535}, {65535, 0}, {1, 65534}, {21845, 43690}, {-1, 0}, {65536, 65535}, {least, 65535}, {greatest, 0},
	})
	checkUnaryModel(t, "Inv", word.Inv, func(a int) int { return 65535 - model(a) })
}

// P2.4
func TestShl(t *testing.T) {
	checkBinary(t, "Shl", word.Shl, []binaryCall{
		{3, 15, 32768}, {1, 16, 0}, {1, 15, 32768}, {1, 0, 1}, {65535, 4, 65520}, {-1, 1, 65534}, {65537, 3, 8},
		{1, -1, 0}, {1, 65536, 0}, {1, -65536, 0}, {1, greatest, 0}, {1, least, 0}, {least, 0, 0}, {greatest, 0, 65535},
	})
	checkBinaryModel(t, "Shl", word.Shl, func(a, n int) int {
		if n < 0 || n > 15 {
			return 0
		}
		return model(model(a) * power(n))
	}, places())
}

// P2.4
func TestShr(t *testing.T) {
	checkBinary(t, "Shr", word.Shr, []binaryCall{
		{32768, 15, 1}, {32768, 16, 0}, {7, 1, 3}, {7, 0, 7}, {65535, 15, 1}, {-1, 1, 32767}, {65536, 1, 0},
		{65535, -1, 0}, {65535, 65536, 0}, {65535, -65536, 0}, {65535, greatest, 0}, {65535, least, 0}, {greatest, 8, 255},
	})
	checkBinaryModel(t, "Shr", word.Shr, func(a, n int) int {
		if n < 0 || n > 15 {
			return 0
		}
		return model(a) / power(n)
	}, places())
}

// P2.5
func TestOnes(t *testing.T) {
	checkUnary(t, "Ones", word.Ones, []unaryCall{
		{-1, 16}, {0, 0}, {1, 1}, {65535, 16}, {32768, 1}, {65536, 0}, {65537, 1}, {43690, 8}, {greatest, 16}, {least, 0},
	})
	checkUnaryModel(t, "Ones", word.Ones, func(a int) int {
		count := 0
		for i := range 16 {
			count += modelBit(a, i)
		}
		return count
	})
}

// P2.5
func TestBit(t *testing.T) {
	checkBinary(t, "Bit", word.Bit, []binaryCall{
		{4, 2, 1}, {4, 1, 0}, {4, 3, 0}, {1, 0, 1}, {32768, 15, 1}, {65536, 16, 0}, {65536, 0, 0}, {-1, 15, 1},
		{-1, 16, 0}, {-1, -1, 0}, {-1, 65536, 0}, {-1, least, 0}, {-1, greatest, 0}, {least, 15, 0}, {greatest, 15, 1},
	})
	checkBinaryModel(t, "Bit", word.Bit, func(a, i int) int {
		if i < 0 || i > 15 {
			return 0
		}
		return modelBit(a, i)
	}, places())
}

// P2.6
func TestMask(t *testing.T) {
	checkUnary(t, "Mask", word.Mask, []unaryCall{
		{8, 255}, {0, 0}, {1, 1}, {15, 32767}, {16, 65535}, {17, 0}, {64, 0}, {-1, 0}, {65537, 0}, {least, 0}, {greatest, 0},
	})
	for _, width := range places() {
		want := 0
		if width >= 0 && width <= 16 {
			want = power(width) - 1
		}
		if got := word.Mask(width); got != want {
			t.Errorf("Mask(%d) = %d; want %d", width, got, want)
		}
	}
}

// P2.6
func TestFits(t *testing.T) {
	for _, c := range []struct {
		a, width int
		want     bool
	}{
		{255, 8, true}, {256, 8, false}, {0, 0, false}, {0, 1, true}, {1, 1, true}, {2, 1, false},
		{65535, 16, true}, {65536, 16, false}, {0, 16, true}, {0, 17, false}, {0, -1, false},
		{-1, 8, false}, {-1, 16, false}, {-65536, 16, false}, {-65535, 16, false}, {65537, 8, false},
		{0, 65537, false}, {0, least, false}, {0, greatest, false}, {least, 16, false}, {greatest, 16, false},
	} {
		if got := word.Fits(c.a, c.width); got != c.want {
			t.Errorf("Fits(%d, %d) = %v; want %v", c.a, c.width, got, c.want)
		}
	}
	for _, a := range numbers() {
		for width := -1; width <= 18; width++ {
			want := width >= 1 && width <= 16 && a >= 0 && a < power(max(width, 0))
			if got := word.Fits(a, width); got != want {
				t.Fatalf("Fits(%d, %d) = %v; want %v", a, width, got, want)
			}
		}
	}
}

// modelReverse adds the lowest bits, each with the weight of its new number.
func modelReverse(a, width int) int {
	if width < 1 || width > 16 {
		return 0
	}
	sum := 0
	for i := range width {
		sum += modelBit(a, width-1-i) * power(i)
	}
	return sum
}

// P2.7
func TestReverse(t *testing.T) {
	checkBinary(t, "Reverse", word.Reverse, []binaryCall{
		{1, 8, 128}, {128, 8, 1}, {1, 1, 1}, {2, 1, 0}, {1, 16, 32768}, {6, 3, 3}, {256, 8, 0}, {257, 8, 128},
		{-1, 5, 31}, {65537, 16, 32768}, {-32768, 16, 1}, {least, 16, 0}, {greatest, 16, 65535},
		{65535, 0, 0}, {65535, 17, 0}, {65535, -1, 0}, {65535, 65544, 0}, {65535, least, 0}, {65535, greatest, 0},
	})
	checkBinaryModel(t, "Reverse", word.Reverse, modelReverse, places())
	for a := range api.MaxWord + 1 {
		for width := 1; width <= 16; width++ {
			if got := word.Reverse(a, width); got != modelReverse(a, width) {
				t.Fatalf("Reverse(%d, %d) = %d; want %d", a, width, got, modelReverse(a, width))
			}
		}
	}
}

// C2.1
func TestRing(t *testing.T) {
	for _, a := range samples() {
		checkNeutral(t, a)
		for _, b := range samples() {
			if word.Add(a, b) != word.Add(b, a) || word.Mul(a, b) != word.Mul(b, a) {
				t.Fatalf("Add or Mul of %d and %d is not commutative", a, b)
			}
			for _, c := range samples() {
				checkTriple(t, a, b, c)
			}
		}
	}
}

func checkNeutral(t *testing.T, a int) {
	t.Helper()
	if word.Add(a, 0) != word.Wrap(a) || word.Mul(a, 1) != word.Wrap(a) {
		t.Fatalf("0 or 1 is not neutral for %d", a)
	}
	if word.Add(a, word.Neg(a)) != 0 {
		t.Fatalf("Add(%d, Neg(%d)) = %d; want 0", a, a, word.Add(a, word.Neg(a)))
	}
}

func checkTriple(t *testing.T, a, b, c int) {
	t.Helper()
	if word.Add(word.Add(a, b), c) != word.Add(a, word.Add(b, c)) {
		t.Fatalf("Add of %d, %d, %d is not associative", a, b, c)
	}
	if word.Mul(word.Mul(a, b), c) != word.Mul(a, word.Mul(b, c)) {
		t.Fatalf("Mul of %d, %d, %d is not associative", a, b, c)
	}
	if word.Mul(a, word.Add(b, c)) != word.Add(word.Mul(a, b), word.Mul(a, c)) {
		t.Fatalf("Mul of %d is not distributive over Add of %d, %d", a, b, c)
	}
}

// C2.2
func TestNegIsInvPlusOne(t *testing.T) {
	checkUnaryModel(t, "Neg", word.Neg, func(a int) int { return word.Add(word.Inv(a), 1) })
}

// C2.2
func TestReverseTwice(t *testing.T) {
	for _, a := range numbers() {
		for width := 1; width <= 16; width++ {
			twice := word.Reverse(word.Reverse(a, width), width)
			if want := model(a) % power(width); twice != want {
				t.Fatalf("Reverse of %d with width %d twice = %d; want %d", a, width, twice, want)
			}
		}
	}
}
