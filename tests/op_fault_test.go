package tests

import (
	"testing"

	"loop.example/g00729/impl"
)

// rightOps is an op of each kind, in the order of the kinds.
func rightOps() []impl.Op {
	return []impl.Op{allocOf(3), zeroOf(64), freeAt(5), growAt(7, 20), readAt(9), writeAt(2, -7), sizeAt(4), statsOp()}
}

func checkOp(t *testing.T, name string, o impl.Op, code int64) {
	t.Helper()
	if got := impl.OpFault(o); got != code {
		t.Errorf("%s: fault %d, wanted %d, of %v", name, got, code, o)
	}
}

func TestP1OpFaultOfEachKind(t *testing.T) {
	for i, o := range rightOps() {
		if o.Kind != int64(i+1) {
			t.Errorf("the kind %d has the number %d", i+1, o.Kind)
		}
		checkOp(t, "an op of each kind", o, impl.OK)
	}
}

func TestP1OpFaultBoundsTheKind(t *testing.T) {
	for _, kind := range append(wrongNumbers(1, 8), 0, 9, -1, 10) {
		if kind >= 1 && kind <= 8 {
			continue
		}
		checkOp(t, "a kind that is none", impl.Op{Kind: kind}, impl.ErrForm)
		for _, o := range rightOps() {
			o.Kind = kind
			checkOp(t, "a kind that is none, with fields", o, impl.ErrForm)
		}
	}
	checkOp(t, "the zero value", impl.Op{}, impl.ErrForm)
}

func TestP1OpFaultOfWhatAKindDoesNotNeed(t *testing.T) {
	for _, number := range []int64{1, -1, 64, 65, impl.MaxValue, impl.MaxValue + 1, 1 << 8, 1 << 32, -1 << 32, greatest, least} {
		for _, o := range []impl.Op{allocOf(1), zeroOf(64), statsOp(), allocOf(0), zeroOf(65)} {
			o.At = number
			checkOp(t, "a place", o, impl.ErrForm)
		}
		for _, o := range []impl.Op{freeAt(0), readAt(-5), sizeAt(16), statsOp(), writeAt(0, 0), writeAt(3, impl.MaxValue+1)} {
			o.N = number
			checkOp(t, "how many words", o, impl.ErrForm)
		}
		for _, o := range []impl.Op{allocOf(1), zeroOf(64), freeAt(0), growAt(3, 9), readAt(-5), sizeAt(16), statsOp(), allocOf(0), growAt(3, 65)} {
			o.Value = number
			checkOp(t, "a word", o, impl.ErrForm)
		}
	}
}

func TestP1OpFaultBoundsHowManyWords(t *testing.T) {
	makers := []func(n int64) impl.Op{allocOf, zeroOf, func(n int64) impl.Op { return growAt(0, n) }, func(n int64) impl.Op { return growAt(least, n) }}
	for _, made := range makers {
		for n := int64(1); n <= impl.MaxSize; n++ {
			checkOp(t, "as many words as there may be", made(n), impl.OK)
		}
		for _, n := range append(wrongNumbers(1, impl.MaxSize), 0, impl.MaxSize+1) {
			if n < 1 || n > impl.MaxSize {
				checkOp(t, "too many words, or too few", made(n), impl.ErrRange)
			}
		}
	}
}

func TestP1OpFaultBoundsTheWord(t *testing.T) {
	for _, at := range []int64{0, 5, -1, greatest, least} {
		for _, value := range []int64{0, 1, -1, impl.MaxValue - 1, impl.MaxValue, 1 - impl.MaxValue, -impl.MaxValue} {
			checkOp(t, "a word", writeAt(at, value), impl.OK)
		}
		for _, value := range append(outside(-impl.MaxValue, impl.MaxValue), farOutside(-1, 1)...) {
			if value > impl.MaxValue || value < -impl.MaxValue {
				checkOp(t, "a number that is no word", writeAt(at, value), impl.ErrRange)
			}
		}
	}
}

func TestP1OpFaultOfAnyPlace(t *testing.T) {
	for _, at := range append(wrongNumbers(0, 0), 0, 1, -1, 639, 640, greatest, least) {
		for _, o := range []impl.Op{freeAt(at), growAt(at, 1), growAt(at, 64), readAt(at), writeAt(at, 1), sizeAt(at)} {
			checkOp(t, "a place of any number", o, impl.OK)
		}
	}
}

func TestP1OpFaultOfManyOps(t *testing.T) {
	numbers := []int64{0, 1, -1, 9, 64, 65, impl.MaxValue, impl.MaxValue + 1, -impl.MaxValue, -impl.MaxValue - 1, 1 << 32, greatest, least}
	codes := map[int64]int{}
	for kind := int64(-3); kind <= 12; kind++ {
		for _, at := range numbers {
			for _, n := range numbers {
				for _, value := range numbers {
					o := impl.Op{Kind: kind, At: at, N: n, Value: value}
					codes[wantedOpFault(o)]++
					checkOp(t, "an op", o, wantedOpFault(o))
				}
			}
		}
	}
	if codes[impl.OK] < 100 || codes[impl.ErrRange] < 100 || codes[impl.ErrForm] < 1000 || len(codes) != 3 {
		t.Error("the ops are too few:", codes)
	}
}
