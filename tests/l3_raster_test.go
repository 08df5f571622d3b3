package tests

import (
	"bytes"
	"math"
	"slices"
	"testing"

	"loop.example/easel/impl"
)

// outOfRange are components that no pixel has; some of them become components if they are cut to a byte.
var outOfRange = []int{-1, -2, -255, -256, math.MinInt, impl.PixMax + 1, impl.PixMax + 2, 512, 1 << 16, 1 << 32, 1<<32 + 7, math.MaxInt}

// colors returns n pixels, no two adjacent ones equal and none the zero value.
func colors(n int, seed int) []impl.PixPix {
	list := make([]impl.PixPix, n)
	for k := range list {
		list[k] = impl.PixPix{R: (seed + 37*k) % 256, G: (3*seed + 11*k + k*k) % 256, B: (90 + 5*k) % 256, A: 1 + (seed+k)%255}
	}
	return list
}

func raster(w int, h int, seed int) impl.RasRaster {
	return impl.RasRaster{W: w, H: h, Pix: colors(w*h, seed)}
}

// plain returns a raster of a single color.
func plain(w int, h int, p impl.PixPix) impl.RasRaster {
	return impl.RasRaster{W: w, H: h, Pix: slices.Repeat([]impl.PixPix{p}, w*h)}
}

// rasters are valid: of each size, with different pixels, and with the smallest and largest components.
func rasters() []impl.RasRaster {
	var list []impl.RasRaster
	for w := 1; w <= impl.RasMost; w++ {
		for h := 1; h <= impl.RasMost; h++ {
			list = append(list, raster(w, h, w+9*h), plain(w, h, impl.PixPix{}),
				plain(w, h, impl.PixPix{R: impl.PixMax, G: impl.PixMax, B: impl.PixMax, A: impl.PixMax}))
		}
	}
	return list
}

func copyOf(r impl.RasRaster) impl.RasRaster {
	r.Pix = slices.Clone(r.Pix)
	return r
}

func sameRaster(a impl.RasRaster, b impl.RasRaster) bool {
	return a.W == b.W && a.H == b.H && slices.Equal(a.Pix, b.Pix)
}

// withPart returns a pixel with one of its components replaced.
func withPart(p impl.PixPix, part int, value int) impl.PixPix {
	*[]*int{&p.R, &p.G, &p.B, &p.A}[part] = value
	return p
}

// invalidRasters are wrong in their sides, in their number of pixels, or in one component.
func invalidRasters() []impl.RasRaster {
	list := []impl.RasRaster{{}, {Pix: colors(1, 1)}}
	for _, side := range []int{0, -1, -2, -6, math.MinInt, impl.RasMost + 1, impl.RasMost + 2, 12, 36, 256 + 2, 1 << 32, 1<<32 + 2, math.MaxInt} {
		for _, other := range []int{1, 2, impl.RasMost} {
			for _, n := range []int{0, 1, 2, 4, 6, 7, 12, 36, 42} {
				list = append(list, impl.RasRaster{W: side, H: other, Pix: colors(n, 3)}, impl.RasRaster{W: other, H: side, Pix: colors(n, 3)})
			}
		}
	}
	// The product of both sides, as it is or after an overflow, is the number of pixels.
	for _, c := range [][3]int{{0, 0, 0}, {-1, -1, 1}, {-2, -3, 6}, {-6, -6, 36}, {math.MaxInt, math.MaxInt, 1}, {1 << 32, 1 << 32, 0}, {math.MinInt, 2, 0}, {2, math.MinInt, 0}, {7, 7, 49}, {12, 3, 36}, {3, 12, 36}, {36, 1, 36}, {1, 36, 36}} {
		list = append(list, impl.RasRaster{W: c[0], H: c[1], Pix: colors(c[2], 3)})
	}
	for _, r := range rasters() {
		n := len(r.Pix)
		list = append(list, impl.RasRaster{W: r.W, H: r.H}, impl.RasRaster{W: r.W, H: r.H, Pix: r.Pix[:n-1]},
			impl.RasRaster{W: r.W, H: r.H, Pix: append(slices.Clone(r.Pix), impl.PixPix{})}, impl.RasRaster{W: r.W, H: r.H, Pix: slices.Repeat(r.Pix, 2)})
		for part := range 4 {
			for _, value := range outOfRange {
				for _, k := range []int{0, n / 2, n - 1} {
					wrong := copyOf(r)
					wrong.Pix[k] = withPart(wrong.Pix[k], part, value)
					list = append(list, wrong)
				}
			}
		}
	}
	return list
}

// Promise 19: a raster has as many pixels as positions.

func TestPixelsAreInRange(t *testing.T) {
	for _, p := range []impl.PixPix{{}, {R: 255}, {G: 255}, {B: 255}, {A: 255}, {R: 255, G: 255, B: 255, A: 255}, {R: 1, G: 2, B: 3, A: 4}} {
		for part := range 4 {
			for value := range impl.PixMax + 1 {
				if one := withPart(p, part, value); !impl.PixOk(one) {
					t.Fatalf("%v is invalid", one)
				}
			}
			for _, value := range outOfRange {
				if one := withPart(p, part, value); impl.PixOk(one) {
					t.Fatalf("%v is valid", one)
				}
			}
		}
	}
	if impl.PixOk(impl.PixPix{R: -1, G: -1, B: -1, A: -1}) || impl.PixOk(impl.PixPix{R: 256, G: 256, B: 256, A: 256}) || impl.PixOk(impl.PixPix{R: -1, G: 256}) {
		t.Error("a pixel with several wrong components is valid")
	}
}

func TestRastersOfEachSizeAreValid(t *testing.T) {
	for _, r := range rasters() {
		if !impl.RasOk(r) {
			t.Errorf("%v is invalid", r)
		}
		for _, p := range r.Pix {
			if !impl.PixOk(p) {
				t.Errorf("%v of a valid raster is invalid", p)
			}
		}
	}
}

func TestRastersWithAPixelMoreOrLess(t *testing.T) {
	for _, r := range rasters() {
		for n := range 2*len(r.Pix) + 2 {
			other := impl.RasRaster{W: r.W, H: r.H, Pix: colors(n, 2)}
			if impl.RasOk(other) != (n == len(r.Pix)) {
				t.Errorf("%d by %d with %d pixels: valid is %v", r.W, r.H, n, impl.RasOk(other))
			}
		}
	}
}

func TestRastersWithAnInvalidPixel(t *testing.T) {
	for _, r := range rasters() {
		for k := range r.Pix {
			for part := range 4 {
				for _, value := range outOfRange {
					other := copyOf(r)
					other.Pix[k] = withPart(other.Pix[k], part, value)
					if impl.RasOk(other) {
						t.Fatalf("%d by %d with pixel %d of %v is valid", r.W, r.H, k, other.Pix[k])
					}
				}
			}
		}
	}
}

func TestRastersWithInvalidSides(t *testing.T) {
	for w := -2; w <= impl.RasMost+3; w++ {
		for h := -2; h <= impl.RasMost+3; h++ {
			want := w >= 1 && w <= 6 && h >= 1 && h <= 6
			if r := (impl.RasRaster{W: w, H: h, Pix: colors(max(w*h, 0), 4)}); impl.RasOk(r) != want {
				t.Errorf("%d by %d: valid is %v", w, h, impl.RasOk(r))
			}
		}
	}
	for _, r := range invalidRasters() {
		if impl.RasOk(r) {
			t.Fatalf("%v is valid", r)
		}
	}
}

// Promise 20: each position has its pixel.

func TestEachPositionHasItsPixel(t *testing.T) {
	for _, r := range rasters() {
		var got []impl.PixPix
		for y := range r.H {
			for x := range r.W {
				got = append(got, impl.RasAt(r, x, y))
			}
		}
		if !slices.Equal(got, r.Pix) {
			t.Errorf("the positions of %v have %v", r, got)
		}
	}
}

func TestPixelsOfAKnownRaster(t *testing.T) {
	r := impl.RasRaster{W: 3, H: 2, Pix: []impl.PixPix{{R: 1}, {G: 2}, {B: 3}, {A: 4}, {R: 5, A: 255}, {R: 255, G: 255, B: 255, A: 255}}}
	for _, c := range []struct {
		x, y int
		want impl.PixPix
	}{
		{0, 0, impl.PixPix{R: 1}}, {2, 0, impl.PixPix{B: 3}}, {0, 1, impl.PixPix{A: 4}}, {1, 1, impl.PixPix{R: 5, A: 255}}, {2, 1, impl.PixPix{R: 255, G: 255, B: 255, A: 255}},
	} {
		if got := impl.RasAt(r, c.x, c.y); got != c.want {
			t.Errorf("column %d of row %d is %v, not %v", c.x, c.y, got, c.want)
		}
	}
}

func TestPositionsOutsideHaveNoPixel(t *testing.T) {
	far := []int{math.MinInt, math.MinInt + 1, -1 << 32, -1 << 61, 1 << 32, 1 << 61, 1 << 62, math.MaxInt - 1, math.MaxInt}
	for i := -40; i <= 40; i++ {
		far = append(far, i)
	}
	for _, r := range rasters() {
		for _, x := range far {
			for _, y := range far {
				inside := x >= 0 && x < r.W && y >= 0 && y < r.H
				if got := impl.RasAt(r, x, y); !inside && got != (impl.PixPix{}) {
					t.Fatalf("column %d of row %d of %d by %d is %v", x, y, r.W, r.H, got)
				}
			}
		}
	}
}

func TestInvalidRastersHaveNoPixels(t *testing.T) {
	for _, r := range invalidRasters() {
		for _, at := range [][2]int{{0, 0}, {1, 0}, {0, 1}, {1, 1}, {5, 5}, {6, 0}, {0, 6}, {35, 0}, {0, 35}, {-1, 0}, {0, -1}, {math.MaxInt, math.MaxInt}, {math.MinInt, math.MinInt}} {
			if got := impl.RasAt(r, at[0], at[1]); got != (impl.PixPix{}) {
				t.Fatalf("column %d of row %d of %v is %v", at[0], at[1], r, got)
			}
		}
	}
}

// Promise 21: the bytes of a raster are read back.

// bytesOf lists the bytes of a raster as the chapter describes them.
func bytesOf(r impl.RasRaster) []byte {
	list := []byte{byte(r.W), byte(r.H)}
	for _, p := range r.Pix {
		for _, part := range []int{p.R, p.G, p.B, p.A} {
			list = append(list, byte(part))
		}
	}
	return list
}

func TestBytesOfAKnownRaster(t *testing.T) {
	r := impl.RasRaster{W: 1, H: 2, Pix: []impl.PixPix{{R: 1, G: 2, B: 3, A: 4}, {R: 255, G: 128, B: 127, A: 0}}}
	if got := impl.RasBytes(r); !bytes.Equal(got, []byte{1, 2, 1, 2, 3, 4, 255, 128, 127, 0}) {
		t.Errorf("the bytes are %v", got)
	}
}

func TestRastersAreReadBack(t *testing.T) {
	for _, r := range rasters() {
		list := impl.RasBytes(r)
		if !bytes.Equal(list, bytesOf(r)) {
			t.Errorf("the bytes of %v are %v", r, list)
		}
		if got, ok := impl.RasRead(list); !ok || !sameRaster(got, r) {
			t.Errorf("%v is read as %v, %v", list, got, ok)
		}
	}
}

func TestEachComponentIsReadBack(t *testing.T) {
	for value := range impl.PixMax + 1 {
		for part := range 4 {
			r := raster(2, 1, 8)
			r.Pix[1] = withPart(r.Pix[1], part, value)
			if got, ok := impl.RasRead(impl.RasBytes(r)); !ok || !sameRaster(got, r) {
				t.Fatalf("%v is read back as %v, %v", r, got, ok)
			}
		}
	}
}

func TestWhatIsReadIsTheBytesOfARaster(t *testing.T) {
	for w := range impl.RasMost + 4 {
		for h := range impl.RasMost + 4 {
			for n := range 2 + 4*w*h + 9 {
				list := filled(n, w+h)
				copy(list, []byte{byte(w), byte(h)})
				want := w >= 1 && w <= 6 && h >= 1 && h <= 6 && n == 2+4*w*h
				r, ok := impl.RasRead(list)
				if ok != want {
					t.Fatalf("%d bytes with %d and %d first: accepted is %v", n, w, h, ok)
				}
				if ok && (!impl.RasOk(r) || !bytes.Equal(impl.RasBytes(r), list)) {
					t.Fatalf("%v is read as %v", list, r)
				}
				if !ok && (r.W != 0 || r.H != 0 || len(r.Pix) != 0) {
					t.Fatalf("%v is not accepted and read as %v", list, r)
				}
			}
		}
	}
}

func TestShortestAndLongestBytes(t *testing.T) {
	for _, c := range []struct{ side, size int }{{1, 6}, {impl.RasMost, 146}} {
		list := impl.RasBytes(raster(c.side, c.side, 5))
		if len(list) != c.size {
			t.Errorf("%d by %d has %d bytes", c.side, c.side, len(list))
		}
		if _, ok := impl.RasRead(list); !ok {
			t.Errorf("%d by %d is not read", c.side, c.side)
		}
	}
}

func TestBytesWithOneMoreOrLess(t *testing.T) {
	for _, r := range rasters() {
		list := impl.RasBytes(r)
		for n := range list {
			if _, ok := impl.RasRead(list[:n]); ok {
				t.Fatalf("%d of %d bytes are accepted", n, len(list))
			}
		}
		for _, more := range [][]byte{{0}, {1}, {255}, {0, 0, 0, 0}, {1, 2, 3, 4}, list, make([]byte, 1000)} {
			if _, ok := impl.RasRead(slices.Concat(list, more)); ok {
				t.Fatalf("%d bytes and %d more are accepted", len(list), len(more))
			}
		}
	}
}

func TestReadingOfInvalidBytes(t *testing.T) {
	lists := [][]byte{nil, {}, {0}, {1}, {6}, {255}, {0, 0}, {1, 1}, {6, 6}, {0, 1}, {1, 0}, {255, 255}, make([]byte, 6), filled(100000, 1)}
	for _, side := range []int{0, 7, 8, 12, 64, 128, 129, 255} {
		for other := range impl.RasMost + 1 {
			for _, sides := range [][]byte{{byte(side), byte(other)}, {byte(other), byte(side)}} {
				lists = append(lists, sides, append(sides, make([]byte, 4*side*other)...), append(sides, filled(4, 1)...), append(sides, filled(144, 1)...))
			}
		}
		lists = append(lists, append([]byte{byte(side), byte(side)}, make([]byte, 4*side*side)...))
	}
	for _, list := range lists {
		if r, ok := impl.RasRead(list); ok || r.W != 0 || r.H != 0 || len(r.Pix) != 0 {
			t.Errorf("%d bytes that begin with %v are read as %v, %v", len(list), list[:min(2, len(list))], r, ok)
		}
	}
}

func TestInvalidRastersHaveNoBytes(t *testing.T) {
	for _, r := range invalidRasters() {
		if got := impl.RasBytes(r); got != nil {
			t.Fatalf("the bytes of %v are %v", r, got)
		}
	}
}

// The general rules: arguments are not written to, and results are new memory.

func TestArgumentsOfRastersStay(t *testing.T) {
	for _, r := range append(rasters(), raster(7, 6, 1), impl.RasRaster{W: 2, H: 2, Pix: colors(3, 1)}) {
		whole := append(slices.Clone(r.Pix), colors(50, 6)...)
		before := slices.Clone(whole)
		r.Pix = whole[:len(r.Pix)]
		impl.RasOk(r)
		impl.RasAt(r, r.W-1, r.H-1)
		impl.RasAt(r, r.W, r.H)
		list := impl.RasBytes(r)
		memory := append(slices.Clone(list), filled(50, 7)...)
		memoryBefore := bytes.Clone(memory)
		got, _ := impl.RasRead(memory[:len(list)])
		clear(list[:cap(list)])
		clear(got.Pix[:cap(got.Pix)])
		if !slices.Equal(whole, before) || !bytes.Equal(memory, memoryBefore) {
			t.Errorf("an argument is written to, for %d by %d", r.W, r.H)
		}
	}
}

func TestResultsOfRastersAreNew(t *testing.T) {
	for _, r := range rasters() {
		first, other := impl.RasBytes(r), impl.RasBytes(r)
		clear(other[:cap(other)])
		one, _ := impl.RasRead(first)
		two, _ := impl.RasRead(first)
		clear(two.Pix[:cap(two.Pix)])
		third, ok := impl.RasRead(first)
		if !bytes.Equal(first, bytesOf(r)) || !sameRaster(one, r) || !ok || !sameRaster(third, r) {
			t.Errorf("writing to a result of %v changes others", r)
		}
	}
}
