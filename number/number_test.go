package number

import (
	"encoding/binary"
	"math"
	"slices"
	"testing"
)

func TestRead(t *testing.T) {
	for _, c := range []struct {
		b    []byte
		want uint64
	}{
		{nil, 0}, {[]byte{0}, 0}, {[]byte{255}, 255}, {[]byte{1, 2}, 258}, {[]byte{2, 1}, 513}, {[]byte{0, 0, 0, 7}, 7},
		{[]byte{255, 255, 255, 255}, math.MaxUint32}, {[]byte{128, 0, 0, 0, 0, 0, 0, 1}, 1<<63 + 1},
		{[]byte{255, 255, 255, 255, 255, 255, 255, 255}, math.MaxUint64}, {[]byte{9, 0, 0, 0, 0, 0, 0, 0, 5}, 5},
	} {
		if n := Read(c.b); n != c.want {
			t.Errorf("%v: %d, not %d", c.b, n, c.want)
		}
	}
}

func TestAppend(t *testing.T) {
	for _, n := range []uint64{0, 1, 255, 256, 65535, 1 << 16, math.MaxUint32, 1<<40 + 3, math.MaxUint64} {
		whole := binary.BigEndian.AppendUint64(nil, n)
		for size := range 9 {
			want := slices.Concat([]byte("ab"), whole[8-size:])
			if got := Append([]byte("ab"), n, size); !slices.Equal(got, want) {
				t.Errorf("%d in %d: %v, not %v", n, size, got, want)
			}
		}
		if got := Append(nil, n, 10); Read(got) != n || !slices.Equal(got, slices.Concat([]byte{0, 0}, whole)) {
			t.Errorf("%d in 10: %v", n, got)
		}
	}
}

func TestModulo(t *testing.T) {
	for _, c := range []struct{ n, below, want int }{
		{0, 1, 0}, {-1, 1, 0}, {math.MinInt, 1, 0}, {0, 3, 0}, {2, 3, 2}, {3, 3, 0}, {7, 3, 1}, {-1, 3, 2}, {-2, 3, 1}, {-3, 3, 0}, {-4, 3, 2},
		{math.MaxInt, 10, 7}, {math.MinInt, 10, 2}, {math.MaxInt, math.MaxInt, 0}, {math.MinInt, math.MaxInt, math.MaxInt - 1}, {-1, math.MaxInt, math.MaxInt - 1},
	} {
		if got := Modulo(c.n, c.below); got != c.want {
			t.Errorf("%d modulo %d: %d, not %d", c.n, c.below, got, c.want)
		}
	}
}
