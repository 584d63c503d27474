package number

import (
	"encoding/binary"
	"math"
	"slices"
	"testing"
)

func TestRead(t *testing.T) {
	for _, c := range []struct {
		b    []byte
		want uint64
	}{
		{nil, 0}, {[]byte{0}, 0}, {[]byte{255}, 255}, {[]byte{1, 2}, 258}, {[]byte{2, 1}, 513}, {[]byte{0, 0, 0, 7}, 7},
		{[]byte{255, 255, 255, 255}, math.MaxUint32}, {[]byte{128, 0, 0, 0, 0, 0, 0, 1}, 1<<63 + 1},
		{[]byte{255, 255, 255, 255, 255, 255, 255, 255}, math.MaxUint64}, {[]byte{9, 0, 0, 0, 0, 0, 0, 0, 5}, 5},
	} {
		if n := Read(c.b); n != c.want {
			t.Errorf("%v: %d, not %d", c.b, n, c.want)
		}
	}
}

func TestAppend(t *testing.T) {
	for _, n := range []uint64{0, 1, 255, 256, 65535, 1 << 16, math.MaxUint32, 1<<40 + 3, math.MaxUint64} {
		whole := binary.BigEndian.AppendUint64(nil, n)
		for size := range 9 {
			want := slices.Concat([]byte("ab"), whole[8-size:])
			if got := Append([]byte("ab"), n, size); !slices.Equal(got, want) {
				t.Errorf("%d in %d: %v, not %v", n, size, got, want)
			}
		}
		if got := Append(nil, n, 10); Read(got) != n || !slices.Equal(got, slices.Concat([]byte{0, 0}, whole)) {
			t.Errorf("%d in 10: %v", n, got)
		}
	}
}
