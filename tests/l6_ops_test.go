package tests

import (
	"bytes"
	"math"
	"slices"
	"testing"

	"loop.example/easel/impl"
)

// The operations without parameters.
var (
	flipX = impl.OpOp{Kind: impl.OpFlipX}
	flipY = impl.OpOp{Kind: impl.OpFlipY}
	turn  = impl.OpOp{Kind: impl.OpTurn}
	gray  = impl.OpOp{Kind: impl.OpGray}
	blur  = impl.OpOp{Kind: impl.OpBlur}
)

func crop(a int, b int, c int, d int) impl.OpOp {
	return impl.OpOp{Kind: impl.OpCrop, A: a, B: b, C: c, D: d}
}

func size(a int, b int) impl.OpOp {
	return impl.OpOp{Kind: impl.OpSize, A: a, B: b}
}

func flat(a int, b int, c int) impl.OpOp {
	return impl.OpOp{Kind: impl.OpFlat, A: a, B: b, C: c}
}

// someOps are operations of each kind.
func someOps() []impl.OpOp {
	return []impl.OpOp{crop(0, 0, 1, 1), crop(1, 1, 2, 2), flipX, flipY, turn, gray, blur, size(3, 2), size(1, 1), flat(0, 0, 0), flat(9, 100, 255)}
}

func crops() []impl.OpOp {
	var list []impl.OpOp
	for n := range 6 * 6 * 6 * 6 {
		list = append(list, crop(n%6, n/6%6, 1+n/36%6, 1+n/216))
	}
	return list
}

func sizes() []impl.OpOp {
	var list []impl.OpOp
	for n := range 6 * 6 {
		list = append(list, size(1+n%6, 1+n/6))
	}
	return list
}

func flats() []impl.OpOp {
	var list []impl.OpOp
	values := []int{0, 1, 127, 200, 254, 255}
	for n := range 6 * 6 * 6 {
		list = append(list, flat(values[n%6], values[n/6%6], values[n/36]))
	}
	return list
}

// validOps are all valid operations, except for most colors of OpFlat.
func validOps() []impl.OpOp {
	return slices.Concat(crops(), []impl.OpOp{flipX, flipY, turn, gray, blur}, sizes(), flats())
}

// withParam returns an operation with one of its parameters replaced.
func withParam(o impl.OpOp, param int, value int) impl.OpOp {
	*[]*int{&o.A, &o.B, &o.C, &o.D}[param] = value
	return o
}

// paramRanges are the lowest and the highest values of the parameters that a kind has.
func paramRanges(kind int) [][2]int {
	switch kind {
	case impl.OpCrop:
		return [][2]int{{0, 5}, {0, 5}, {1, 6}, {1, 6}}
	case impl.OpSize:
		return [][2]int{{1, 6}, {1, 6}}
	case impl.OpFlat:
		return [][2]int{{0, 255}, {0, 255}, {0, 255}}
	}
	return nil
}

// extremeOps are the operations of each kind with the lowest and the highest values, in each combination.
func extremeOps() []impl.OpOp {
	var list []impl.OpOp
	for kind := impl.OpCrop; kind <= impl.OpFlat; kind++ {
		ops := []impl.OpOp{{Kind: kind}}
		for param, ends := range paramRanges(kind) {
			var more []impl.OpOp
			for _, o := range ops {
				more = append(more, withParam(o, param, ends[0]), withParam(o, param, ends[1]))
			}
			ops = more
		}
		list = append(list, ops...)
	}
	return list
}

// farNumbers are in no range; some of them are if they are cut to fewer bits.
var farNumbers = []int{math.MinInt, -1 << 32, -256, -255, -2, -1, 256, 257, 258, 512 + 3, 1 << 16, 1<<32 + 1, 1 << 62, math.MaxInt}

// invalidOps have an unknown kind, or one parameter that is wrong.
func invalidOps() []impl.OpOp {
	var list []impl.OpOp
	for _, kind := range append(slices.Clone(farNumbers), 0, 9, 10, 16, 255) {
		for _, o := range append(someOps(), impl.OpOp{}) {
			list = append(list, impl.OpOp{Kind: kind, A: o.A, B: o.B, C: o.C, D: o.D})
		}
	}
	for _, o := range extremeOps() {
		ranges := paramRanges(o.Kind)
		for param, ends := range ranges {
			for _, value := range append(slices.Clone(farNumbers), ends[0]-1, ends[1]+1) {
				list = append(list, withParam(o, param, value))
			}
		}
		for param := len(ranges); param < 4; param++ {
			for _, value := range append(slices.Clone(farNumbers), 1, 2, 5, 6, 255) {
				list = append(list, withParam(o, param, value))
			}
		}
	}
	return list
}

// shown returns a raster with the same alpha component everywhere.
func shown(r impl.RasRaster, alpha int) impl.RasRaster {
	r = copyOf(r)
	for k := range r.Pix {
		r.Pix[k].A = alpha
	}
	return r
}

// opRasters are of each size, with pixels that are opaque, transparent and between.
func opRasters() []impl.RasRaster {
	list := rasters()
	for w := 1; w <= impl.RasMost; w++ {
		for h := 1; h <= impl.RasMost; h++ {
			r := raster(w, h, 100+5*w+h)
			for k := range r.Pix {
				r.Pix[k].A = []int{0, 255, 128, 255, 0}[k%5]
			}
			list = append(list, r, shown(r, 255), shown(r, 0))
		}
	}
	return list
}

// fewRasters are of one pixel, of one row, of one column, of RasMost by RasMost, and some between.
func fewRasters() []impl.RasRaster {
	return []impl.RasRaster{raster(1, 1, 1), raster(6, 1, 2), raster(1, 6, 3), raster(2, 2, 4), raster(4, 3, 5), raster(3, 5, 6), raster(6, 6, 7), plain(5, 6, veiled), shown(raster(6, 5, 8), 0)}
}

// pixelDone is the pixel at a position after an operation, as the table of the chapter describes it.
func pixelDone(r impl.RasRaster, o impl.OpOp, x int, y int) impl.PixPix {
	at := func(x int, y int) impl.PixPix { return r.Pix[y*r.W+x] }
	switch o.Kind {
	case impl.OpCrop:
		return at(o.A+x, o.B+y)
	case impl.OpFlipX:
		return at(r.W-1-x, y)
	case impl.OpFlipY:
		return at(x, r.H-1-y)
	case impl.OpTurn:
		return at(y, r.H-1-x)
	case impl.OpGray:
		p := at(x, y)
		g := (77*p.R + 150*p.G + 29*p.B) / 256
		return impl.PixPix{R: g, G: g, B: g, A: p.A}
	case impl.OpBlur:
		return meanOf(around(r, x, y))
	case impl.OpSize:
		return at((2*x+1)*r.W/(2*o.A), (2*y+1)*r.H/(2*o.B))
	}
	p := at(x, y)
	rest := 255 - p.A
	return impl.PixPix{R: (p.R*p.A + o.A*rest) / 255, G: (p.G*p.A + o.B*rest) / 255, B: (p.B*p.A + o.C*rest) / 255, A: 255}
}

// around lists the pixels whose column and row differ by at most 1.
func around(r impl.RasRaster, x int, y int) []impl.PixPix {
	var list []impl.PixPix
	for k, p := range r.Pix {
		dx, dy := k%r.W-x, k/r.W-y
		if dx*dx <= 1 && dy*dy <= 1 {
			list = append(list, p)
		}
	}
	return list
}

func meanOf(list []impl.PixPix) impl.PixPix {
	var sum impl.PixPix
	for _, p := range list {
		sum.R += p.R
		sum.G += p.G
		sum.B += p.B
		sum.A += p.A
	}
	n := len(list)
	return impl.PixPix{R: sum.R / n, G: sum.G / n, B: sum.B / n, A: sum.A / n}
}

// rasterDone is the raster after a valid operation, as the chapter describes it.
func rasterDone(r impl.RasRaster, o impl.OpOp) (impl.RasRaster, bool) {
	out := impl.RasRaster{W: r.W, H: r.H}
	switch o.Kind {
	case impl.OpCrop:
		if o.A+o.C > r.W || o.B+o.D > r.H {
			return impl.RasRaster{}, false
		}
		out.W, out.H = o.C, o.D
	case impl.OpTurn:
		out.W, out.H = r.H, r.W
	case impl.OpSize:
		out.W, out.H = o.A, o.B
	}
	for k := range out.W * out.H {
		out.Pix = append(out.Pix, pixelDone(r, o, k%out.W, k/out.W))
	}
	return out, true
}

// does performs operations one by one; all of them must be possible.
func does(t *testing.T, r impl.RasRaster, ops ...impl.OpOp) impl.RasRaster {
	t.Helper()
	for _, o := range ops {
		next, ok := impl.OpDo(r, o)
		if !ok {
			t.Fatalf("%v of %v is not possible", o, r)
		}
		r = next
	}
	return r
}

func wantRaster(t *testing.T, what any, got impl.RasRaster, want impl.RasRaster) {
	t.Helper()
	if !sameRaster(got, want) {
		t.Fatalf("%v: %v is not %v", what, got, want)
	}
}

// wantEqual checks that two lists of operations have the same effect, or that both are not possible.
func wantEqual(t *testing.T, r impl.RasRaster, first []impl.OpOp, other []impl.OpOp) {
	t.Helper()
	one, ok := oneByOne(r, first)
	two, ok2 := oneByOne(r, other)
	if ok != ok2 || !sameRaster(one, two) {
		t.Fatalf("of %v, %v is %v, %v, but %v is %v, %v", r, first, one, ok, other, two, ok2)
	}
}

// oneByOne performs operations with OpDo alone.
func oneByOne(r impl.RasRaster, ops []impl.OpOp) (impl.RasRaster, bool) {
	for _, o := range ops {
		next, ok := impl.OpDo(r, o)
		if !ok {
			return impl.RasRaster{}, false
		}
		r = next
	}
	return r, true
}

func nothing(r impl.RasRaster) bool {
	return r.W == 0 && r.H == 0 && len(r.Pix) == 0
}

// Promise 24: operations give rasters.

func TestOperationsOnAKnownRaster(t *testing.T) {
	p := func(k int) impl.PixPix { return impl.PixPix{R: k, G: 2 * k, B: 3 * k, A: 4 * k} }
	r := impl.RasRaster{W: 3, H: 2, Pix: []impl.PixPix{p(1), p(2), p(3), p(4), p(5), p(60)}}
	for _, c := range []struct {
		o    impl.OpOp
		w, h int
		want []impl.PixPix
	}{
		{crop(1, 0, 2, 2), 2, 2, []impl.PixPix{p(2), p(3), p(5), p(60)}},
		{crop(0, 1, 1, 1), 1, 1, []impl.PixPix{p(4)}},
		{flipX, 3, 2, []impl.PixPix{p(3), p(2), p(1), p(60), p(5), p(4)}},
		{flipY, 3, 2, []impl.PixPix{p(4), p(5), p(60), p(1), p(2), p(3)}},
		{turn, 2, 3, []impl.PixPix{p(4), p(1), p(5), p(2), p(60), p(3)}},
		{gray, 3, 2, []impl.PixPix{{R: 1, G: 1, B: 1, A: 4}, {R: 3, G: 3, B: 3, A: 8}, {R: 5, G: 5, B: 5, A: 12}, {R: 7, G: 7, B: 7, A: 16}, {R: 9, G: 9, B: 9, A: 20}, {R: 108, G: 108, B: 108, A: 240}}},
		{blur, 3, 2, []impl.PixPix{{R: 3, G: 6, B: 9, A: 12}, {R: 12, G: 25, B: 37, A: 50}, {R: 17, G: 35, B: 52, A: 70}, {R: 3, G: 6, B: 9, A: 12}, {R: 12, G: 25, B: 37, A: 50}, {R: 17, G: 35, B: 52, A: 70}}},
		{size(1, 1), 1, 1, []impl.PixPix{p(5)}},
		{size(2, 1), 2, 1, []impl.PixPix{p(4), p(60)}},
		{size(4, 1), 4, 1, []impl.PixPix{p(4), p(5), p(5), p(60)}},
		{flat(255, 0, 100), 3, 2, []impl.PixPix{{R: 251, G: 0, B: 98, A: 255}, {R: 247, G: 0, B: 97, A: 255}, {R: 243, G: 0, B: 95, A: 255}, {R: 239, G: 0, B: 94, A: 255}, {R: 235, G: 0, B: 93, A: 255}, {R: 71, G: 112, B: 175, A: 255}}},
	} {
		wantRaster(t, c.o, does(t, r, c.o), impl.RasRaster{W: c.w, H: c.h, Pix: c.want})
	}
}

func TestEachOperationOnEachRaster(t *testing.T) {
	for _, o := range validOps() {
		for _, r := range opRasters() {
			want, possible := rasterDone(r, o)
			got, ok := impl.OpDo(r, o)
			if ok != possible || !sameRaster(got, want) {
				t.Fatalf("%v of %v is %v, %v, not %v, %v", o, r, got, ok, want, possible)
			}
			if ok != impl.RasOk(got) || !ok && o.Kind != impl.OpCrop {
				t.Fatalf("%v of %v is %v, %v", o, r, got, ok)
			}
		}
	}
}

func TestPartsBeyondTheRaster(t *testing.T) {
	for _, r := range opRasters() {
		for a := range r.W {
			for b := range r.H {
				c, d := r.W-a, r.H-b
				does(t, r, crop(a, b, c, d))
				for _, o := range []impl.OpOp{crop(a, b, c+1, d), crop(a, b, c, d+1), crop(a, b, c+1, d+1), crop(a+1, b, c, d), crop(a, b+1, c, d), crop(a+1, b+1, c, d)} {
					if got, ok := impl.OpDo(r, o); ok || !nothing(got) {
						t.Fatalf("%v of %d by %d is %v, %v", o, r.W, r.H, got, ok)
					}
				}
			}
		}
	}
}

func TestInvalidOperationsAreNotDone(t *testing.T) {
	for _, o := range invalidOps() {
		for _, r := range fewRasters() {
			if got, ok := impl.OpDo(r, o); ok || !nothing(got) {
				t.Fatalf("%v of %v is %v, %v", o, r, got, ok)
			}
			if got, ok := impl.OpsDo(r, []impl.OpOp{o}); ok || !nothing(got) {
				t.Fatalf("%v of %v is %v, %v", o, r, got, ok)
			}
		}
	}
}

func TestNothingIsDoneWithInvalidRasters(t *testing.T) {
	for _, r := range invalidRasters() {
		for _, o := range append(someOps(), impl.OpOp{}) {
			if got, ok := impl.OpDo(r, o); ok || !nothing(got) {
				t.Fatalf("%v of %v is %v, %v", o, r, got, ok)
			}
		}
		for _, list := range [][]impl.OpOp{nil, {turn}, {crop(0, 0, 1, 1), size(2, 2)}} {
			if got, ok := impl.OpsDo(r, list); ok || !nothing(got) {
				t.Fatalf("%v of %v is %v, %v", list, r, got, ok)
			}
		}
	}
}

// Promise 25: four rotations are the identity.

func TestRotations(t *testing.T) {
	for _, r := range opRasters() {
		wantRaster(t, "four rotations", does(t, r, turn, turn, turn, turn), r)
		wantEqual(t, r, []impl.OpOp{turn, turn}, []impl.OpOp{flipX, flipY})
		wantEqual(t, r, []impl.OpOp{turn, flipX}, []impl.OpOp{flipY, turn})
	}
}

func TestRotationIsClockwise(t *testing.T) {
	for _, r := range opRasters() {
		got := does(t, r, turn)
		if got.W != r.H || got.H != r.W {
			t.Fatalf("%d by %d is rotated to %d by %d", r.W, r.H, got.W, got.H)
		}
		for y := range r.H {
			for x := range r.W {
				if p := impl.RasAt(got, r.H-1-y, x); p != impl.RasAt(r, x, y) {
					t.Fatalf("the pixel at column %d of row %d of %v is %v afterwards", x, y, r, p)
				}
			}
		}
	}
}

// Promise 26: flips are involutions.

func TestFlips(t *testing.T) {
	for _, r := range opRasters() {
		wantRaster(t, "two OpFlipX", does(t, r, flipX, flipX), r)
		wantRaster(t, "two OpFlipY", does(t, r, flipY, flipY), r)
		wantEqual(t, r, []impl.OpOp{flipX, flipY}, []impl.OpOp{flipY, flipX})
	}
}

func TestFlippedPixelsAreOpposite(t *testing.T) {
	for _, r := range opRasters() {
		columns, rows := does(t, r, flipX), does(t, r, flipY)
		for y := range r.H {
			for x := range r.W {
				p := impl.RasAt(r, x, y)
				if impl.RasAt(columns, r.W-1-x, y) != p || impl.RasAt(rows, x, r.H-1-y) != p {
					t.Fatalf("the pixel at column %d of row %d of %v is not the opposite one of %v and %v", x, y, r, columns, rows)
				}
			}
		}
	}
}

// Promise 27: a part of a part is a part.

// partsOf are all parts that a raster of this size has.
func partsOf(w int, h int) []impl.OpOp {
	return slices.DeleteFunc(crops(), func(o impl.OpOp) bool { return o.A+o.C > w || o.B+o.D > h })
}

func TestPartsHaveTheOriginalPixels(t *testing.T) {
	for _, r := range fewRasters() {
		for _, o := range partsOf(r.W, r.H) {
			part := does(t, r, o)
			if part.W != o.C || part.H != o.D {
				t.Fatalf("%v is %d by %d", o, part.W, part.H)
			}
			for y := range part.H {
				for x := range part.W {
					if impl.RasAt(part, x, y) != impl.RasAt(r, o.A+x, o.B+y) {
						t.Fatalf("%v of %v is %v", o, r, part)
					}
				}
			}
		}
	}
}

func TestTheWholeRasterIsAPart(t *testing.T) {
	for _, r := range opRasters() {
		wantRaster(t, "the whole raster", does(t, r, crop(0, 0, r.W, r.H)), r)
	}
}

func TestPartsOfParts(t *testing.T) {
	for _, r := range fewRasters() {
		for _, outer := range partsOf(r.W, r.H) {
			part := does(t, r, outer)
			for _, inner := range partsOf(outer.C, outer.D) {
				wantRaster(t, inner, does(t, part, inner), does(t, r, crop(outer.A+inner.A, outer.B+inner.B, inner.C, inner.D)))
			}
		}
	}
}

// The second part lies within the raster, but not within the first part.
func TestPartsBeyondAPart(t *testing.T) {
	r := raster(6, 6, 3)
	for _, c := range [][2]impl.OpOp{
		{crop(0, 0, 3, 3), crop(0, 0, 4, 3)},
		{crop(0, 0, 3, 3), crop(0, 0, 3, 4)},
		{crop(1, 1, 3, 3), crop(1, 0, 3, 1)},
		{crop(1, 1, 3, 3), crop(0, 3, 1, 1)},
		{crop(0, 0, 1, 1), crop(0, 0, 6, 6)},
	} {
		does(t, r, c[1])
		if got, ok := impl.OpsDo(r, c[:]); ok || !nothing(got) {
			t.Errorf("%v is %v, %v", c, got, ok)
		}
	}
}

// Promise 28: parts commute with flips and rotations.

func TestPartsCommuteWithMoves(t *testing.T) {
	for _, r := range fewRasters() {
		for _, o := range partsOf(r.W, r.H) {
			a, b, c, d := o.A, o.B, o.C, o.D
			wantEqual(t, r, []impl.OpOp{o, flipX}, []impl.OpOp{flipX, crop(r.W-a-c, b, c, d)})
			wantEqual(t, r, []impl.OpOp{o, flipY}, []impl.OpOp{flipY, crop(a, r.H-b-d, c, d)})
			wantEqual(t, r, []impl.OpOp{o, turn}, []impl.OpOp{turn, crop(r.H-b-d, a, d, c)})
		}
	}
}

// Promise 29: gray stays gray.

func TestGray(t *testing.T) {
	for _, r := range opRasters() {
		got := does(t, r, gray)
		for k, p := range got.Pix {
			if p.R != p.G || p.G != p.B || p.A != r.Pix[k].A {
				t.Fatalf("%v becomes %v", r.Pix[k], p)
			}
		}
		wantRaster(t, "gray twice", does(t, got, gray), got)
		wantEqual(t, r, []impl.OpOp{gray, turn}, []impl.OpOp{turn, gray})
	}
}

func TestGrayOfKnownColors(t *testing.T) {
	for _, c := range []struct {
		p    impl.PixPix
		want int
	}{
		{impl.PixPix{}, 0}, {impl.PixPix{R: 255}, 76}, {impl.PixPix{G: 255}, 149}, {impl.PixPix{B: 255}, 28}, {white, 255}, {veiled, 255},
		{impl.PixPix{R: 3}, 0}, {impl.PixPix{R: 4}, 1}, {impl.PixPix{G: 1}, 0}, {impl.PixPix{G: 2}, 1}, {impl.PixPix{B: 8}, 0}, {impl.PixPix{B: 9}, 1}, {impl.PixPix{R: 10, G: 20, B: 30, A: 7}, 18},
	} {
		want := impl.PixPix{R: c.want, G: c.want, B: c.want, A: c.p.A}
		wantRaster(t, c.p, does(t, plain(1, 1, c.p), gray), plain(1, 1, want))
	}
	for value := range impl.PixMax + 1 {
		p := impl.PixPix{R: value, G: value, B: value, A: 255 - value}
		wantRaster(t, p, does(t, plain(1, 1, p), gray), plain(1, 1, p))
	}
}

// Promise 30: the background shows where it can.

func TestFlatPixelsAreOpaque(t *testing.T) {
	for _, o := range flats() {
		back := impl.PixPix{R: o.A, G: o.B, B: o.C, A: 255}
		for _, r := range opRasters() {
			got := does(t, r, o)
			for k, p := range got.Pix {
				if was := r.Pix[k]; p.A != 255 || was.A == 255 && p != was || was.A == 0 && p != back {
					t.Fatalf("%v becomes %v, before %v", was, p, back)
				}
			}
			wantRaster(t, "OpFlat twice", does(t, got, o), got)
		}
	}
}

func TestFlatOfKnownColors(t *testing.T) {
	for _, c := range []struct {
		p    impl.PixPix
		o    impl.OpOp
		want impl.PixPix
	}{
		{impl.PixPix{R: 255, G: 255, B: 255, A: 128}, flat(0, 0, 0), impl.PixPix{R: 128, G: 128, B: 128, A: 255}},
		{impl.PixPix{A: 128}, flat(255, 254, 1), impl.PixPix{R: 127, G: 126, B: 0, A: 255}},
		{impl.PixPix{R: 100, G: 50, B: 25, A: 51}, flat(10, 20, 30), impl.PixPix{R: 28, G: 26, B: 29, A: 255}},
		{impl.PixPix{R: 1, G: 1, B: 1, A: 254}, flat(0, 1, 255), impl.PixPix{R: 0, G: 1, B: 1, A: 255}},
		{impl.PixPix{R: 9, G: 8, B: 7, A: 0}, flat(1, 2, 3), impl.PixPix{R: 1, G: 2, B: 3, A: 255}},
		{impl.PixPix{R: 9, G: 8, B: 7, A: 255}, flat(1, 2, 3), impl.PixPix{R: 9, G: 8, B: 7, A: 255}},
	} {
		wantRaster(t, c.p, does(t, plain(1, 1, c.p), c.o), plain(1, 1, c.want))
	}
}

// Promise 31: a blurred component is between the original ones.

// ends returns the smallest and the largest components of pixels.
func ends(list []impl.PixPix) (impl.PixPix, impl.PixPix) {
	low, high := list[0], list[0]
	for _, p := range list {
		low = impl.PixPix{R: min(low.R, p.R), G: min(low.G, p.G), B: min(low.B, p.B), A: min(low.A, p.A)}
		high = impl.PixPix{R: max(high.R, p.R), G: max(high.G, p.G), B: max(high.B, p.B), A: max(high.A, p.A)}
	}
	return low, high
}

func TestBlurredComponentsAreBetween(t *testing.T) {
	for _, r := range opRasters() {
		got := does(t, r, blur)
		for k, p := range got.Pix {
			low, high := ends(around(r, k%r.W, k/r.W))
			if first, _ := ends([]impl.PixPix{low, p}); first != low {
				t.Fatalf("%v is below %v", p, low)
			}
			if _, last := ends([]impl.PixPix{high, p}); last != high {
				t.Fatalf("%v is above %v", p, high)
			}
		}
	}
}

func TestASingleColorIsNotBlurred(t *testing.T) {
	for w := 1; w <= impl.RasMost; w++ {
		for h := 1; h <= impl.RasMost; h++ {
			for _, p := range []impl.PixPix{{}, black, white, veiled, {R: 1, G: 2, B: 3, A: 4}} {
				wantRaster(t, p, does(t, plain(w, h, p), blur), plain(w, h, p))
			}
		}
	}
}

func TestBlurCommutesWithMoves(t *testing.T) {
	for _, r := range opRasters() {
		for _, move := range []impl.OpOp{turn, flipX, flipY} {
			wantEqual(t, r, []impl.OpOp{blur, move}, []impl.OpOp{move, blur})
		}
	}
}

// One bright pixel spreads over those around it; at a border the mean is of fewer pixels.
func TestBlurOfOnePixel(t *testing.T) {
	for _, c := range []struct {
		w, h, at int
		want     []int
	}{
		{1, 1, 0, []int{100}},
		{2, 1, 0, []int{50, 50}},
		{4, 1, 1, []int{50, 33, 33, 0}},
		{1, 4, 3, []int{0, 0, 33, 50}},
		{2, 2, 2, []int{25, 25, 25, 25}},
		{3, 3, 4, []int{25, 16, 25, 16, 11, 16, 25, 16, 25}},
		{3, 3, 0, []int{25, 16, 0, 16, 11, 0, 0, 0, 0}},
		{4, 3, 3, []int{0, 0, 16, 25, 0, 0, 11, 16, 0, 0, 0, 0}},
	} {
		r := plain(c.w, c.h, impl.PixPix{})
		r.Pix[c.at] = impl.PixPix{R: 100, G: 100, B: 100, A: 100}
		want := impl.RasRaster{W: c.w, H: c.h}
		for _, n := range c.want {
			want.Pix = append(want.Pix, impl.PixPix{R: n, G: n, B: n, A: n})
		}
		wantRaster(t, r, does(t, r, blur), want)
	}
}

// Promise 32: resizing adds no colors.

func TestResizedPixelsAreOriginal(t *testing.T) {
	for _, r := range opRasters() {
		for _, o := range sizes() {
			got := does(t, r, o)
			if got.W != o.A || got.H != o.B {
				t.Fatalf("%v is %d by %d", o, got.W, got.H)
			}
			for _, p := range got.Pix {
				if !slices.Contains(r.Pix, p) {
					t.Fatalf("%v of %v has %v", o, r, p)
				}
			}
			wantEqual(t, r, []impl.OpOp{o, gray}, []impl.OpOp{gray, o})
		}
		wantRaster(t, "the same size", does(t, r, size(r.W, r.H)), r)
	}
}

// wantColumnsAndRows checks which columns and rows of a raster a resized one has.
func wantColumnsAndRows(t *testing.T, r impl.RasRaster, got impl.RasRaster, columns []int, rows []int) {
	t.Helper()
	want := impl.RasRaster{W: len(columns), H: len(rows)}
	for _, y := range rows {
		for _, x := range columns {
			want.Pix = append(want.Pix, impl.RasAt(r, x, y))
		}
	}
	wantRaster(t, "resized", got, want)
}

func TestHalfTheSize(t *testing.T) {
	odd := []int{1, 3, 5}
	for w := 2; w <= impl.RasMost; w += 2 {
		for h := 2; h <= impl.RasMost; h += 2 {
			r := raster(w, h, w*h)
			wantColumnsAndRows(t, r, does(t, r, size(w/2, h/2)), odd[:w/2], odd[:h/2])
		}
	}
}

func TestKnownSizes(t *testing.T) {
	for _, c := range []struct {
		from int
		want []int // which columns, or rows, there are afterwards
	}{
		{1, []int{0}}, {1, []int{0, 0, 0, 0, 0, 0}}, {2, []int{1}}, {3, []int{1}}, {4, []int{2}}, {5, []int{2}}, {6, []int{3}},
		{2, []int{0, 1, 1}}, {3, []int{0, 2}}, {3, []int{0, 1, 1, 2}}, {4, []int{0, 2, 3}}, {5, []int{1, 3}}, {5, []int{0, 2, 4}}, {6, []int{0, 2, 3, 5}},
		{4, []int{0, 1, 2, 2, 3}}, {5, []int{0, 1, 2, 2, 3, 4}}, {6, []int{0, 1, 3, 4, 5}}, {2, []int{0, 0, 1, 1, 1}}, {3, []int{0, 0, 1, 1, 2, 2}},
	} {
		n := len(c.want)
		for other := 1; other <= impl.RasMost; other++ {
			all := []int{0, 1, 2, 3, 4, 5}[:other]
			r := raster(c.from, other, 3)
			wantColumnsAndRows(t, r, does(t, r, size(n, other)), c.want, all)
			r = raster(other, c.from, 4)
			wantColumnsAndRows(t, r, does(t, r, size(other, n)), all, c.want)
		}
	}
}

// Promise 33: doubling the size repeats each pixel.

func TestTwiceTheSize(t *testing.T) {
	for _, r := range opRasters() {
		if r.W > impl.RasMost/2 || r.H > impl.RasMost/2 {
			continue
		}
		twice := does(t, r, size(2*r.W, 2*r.H))
		for y := range 2 * r.H {
			for x := range 2 * r.W {
				if impl.RasAt(twice, x, y) != impl.RasAt(r, x/2, y/2) {
					t.Fatalf("twice the size of %v is %v", r, twice)
				}
			}
		}
		wantRaster(t, "half of twice the size", does(t, twice, size(r.W, r.H)), r)
	}
}

// Promise 34: operations are performed in order.

// wordsOfOps are lists of operations, some of which are not possible.
func wordsOfOps() [][]impl.OpOp {
	return append(words(5, turn, flipX, size(3, 2), crop(1, 0, 2, 2)), words(3, append(someOps(), crop(5, 5, 1, 1))...)...)
}

func TestListsArePerformedInOrder(t *testing.T) {
	for _, r := range []impl.RasRaster{raster(1, 1, 1), raster(4, 3, 5), raster(6, 6, 7), raster(1, 6, 3)} {
		for _, list := range wordsOfOps() {
			want, possible := oneByOne(r, list)
			if got, ok := impl.OpsDo(r, list); ok != possible || !sameRaster(got, want) {
				t.Fatalf("%v of %v is %v, %v, not %v, %v", list, r, got, ok, want, possible)
			}
		}
	}
}

func TestListsCanBeSplit(t *testing.T) {
	for _, r := range []impl.RasRaster{raster(4, 3, 5), raster(6, 6, 7)} {
		for _, list := range wordsOfOps() {
			all, ok := impl.OpsDo(r, list)
			for k := range len(list) + 1 {
				first, ok1 := impl.OpsDo(r, list[:k])
				second, ok2 := impl.OpsDo(first, list[k:])
				if ok != (ok1 && ok2) || !sameRaster(all, second) {
					t.Fatalf("%v of %v, split at %d, is %v, %v, not %v, %v", list, r, k, second, ok2, all, ok)
				}
			}
		}
	}
}

func TestNoOperationsAreTheRaster(t *testing.T) {
	for _, r := range opRasters() {
		for _, list := range [][]impl.OpOp{nil, {}} {
			if got, ok := impl.OpsDo(r, list); !ok || !sameRaster(got, r) {
				t.Fatalf("no operations of %v are %v, %v", r, got, ok)
			}
		}
	}
}

func TestTheOrderOfOperationsMatters(t *testing.T) {
	r := impl.RasRaster{W: 2, H: 1, Pix: []impl.PixPix{black, white}}
	for _, c := range []struct {
		list []impl.OpOp
		want impl.RasRaster
	}{
		{[]impl.OpOp{flipX, crop(0, 0, 1, 1)}, plain(1, 1, white)},
		{[]impl.OpOp{crop(0, 0, 1, 1), flipX}, plain(1, 1, black)},
		{[]impl.OpOp{size(6, 6), crop(0, 0, 3, 2), turn, size(1, 1), turn}, plain(1, 1, black)},
		{[]impl.OpOp{turn, size(2, 2), crop(1, 1, 1, 1), flipY, size(6, 1)}, plain(6, 1, white)},
	} {
		if got, ok := impl.OpsDo(r, c.list); !ok || !sameRaster(got, c.want) {
			t.Errorf("%v is %v, %v, not %v", c.list, got, ok, c.want)
		}
	}
}

func TestListsThatAreTooLong(t *testing.T) {
	for _, o := range []impl.OpOp{crop(0, 0, 1, 1), flipX, flipY, turn, gray, blur, size(3, 2), flat(9, 100, 255)} {
		for n := range 2*impl.OpsMost + 3 {
			got, ok := impl.OpsDo(raster(6, 6, 2), slices.Repeat([]impl.OpOp{o}, n))
			if ok != (n <= 5) || !ok && !nothing(got) {
				t.Errorf("%d times %v is %v, %v", n, o, got, ok)
			}
		}
	}
	if got, ok := impl.OpsDo(raster(6, 6, 2), slices.Repeat([]impl.OpOp{turn}, 100000)); ok || !nothing(got) {
		t.Errorf("many rotations are %v, %v", got, ok)
	}
}

// The invalid operation stands at each place: behind valid ones, before them, and behind one that is not possible.
func TestListsWithAnInvalidOperation(t *testing.T) {
	r := raster(3, 4, 2)
	for _, wrong := range invalidOps() {
		for _, list := range [][]impl.OpOp{
			{wrong, turn}, {turn, wrong}, {turn, wrong, turn}, {flipX, flipX, gray, blur, wrong}, {wrong, wrong},
			{crop(5, 5, 6, 6), wrong}, {wrong, crop(5, 5, 6, 6)}, {turn, crop(0, 0, 6, 6), gray, gray, wrong},
		} {
			if got, ok := impl.OpsDo(r, list); ok || !nothing(got) {
				t.Fatalf("%v is %v, %v", list, got, ok)
			}
			if got := impl.OpsFold(list); got != nil {
				t.Fatalf("%v is simplified to %v", list, got)
			}
		}
	}
}

func TestListsThatAreNotPossible(t *testing.T) {
	for _, r := range fewRasters() {
		beyond := crop(r.W-1, r.H-1, 2, 2)
		for _, list := range [][]impl.OpOp{{beyond}, {gray, beyond}, {beyond, size(6, 6)}, {flipX, flipY, gray, blur, beyond}, {beyond, turn, turn, turn, turn}} {
			if got, ok := impl.OpsDo(r, list); ok || !nothing(got) {
				t.Fatalf("%v of %v is %v, %v", list, r, got, ok)
			}
		}
	}
}

// Promise 68: bottom-up files are flipped.

func TestBottomUpFilesAreFlipped(t *testing.T) {
	for _, r := range formRasters() {
		for _, note := range [][]byte{nil, []byte("note"), filled(impl.NoteMost, 1)} {
			up, down := impl.FormWrite(impl.FormUp, note, r), impl.FormWrite(impl.FormDown, note, does(t, r, flipY))
			if len(up) == 0 || len(up) != len(down) || up[0] != 'U' || down[0] != 'D' || !bytes.Equal(up[1:], down[1:]) {
				t.Fatalf("of %v, %v is not %v", r, up, down)
			}
		}
	}
}

// Promise 71: there are eight symmetries.

func TestSymmetries(t *testing.T) {
	for _, r := range opRasters() {
		wantEqual(t, r, []impl.OpOp{flipX, turn, flipX}, []impl.OpOp{turn, turn, turn})
		wantEqual(t, r, []impl.OpOp{turn, turn, turn, turn}, nil)
		wantEqual(t, r, []impl.OpOp{flipY}, []impl.OpOp{flipX, turn, turn})
	}
}

func TestThereAreEightSymmetries(t *testing.T) {
	for _, r := range []impl.RasRaster{raster(2, 2, 1), raster(3, 3, 2), raster(3, 2, 3), raster(6, 6, 4)} {
		var found []impl.RasRaster
		for _, list := range words(5, flipX, flipY, turn) {
			got, ok := impl.OpsDo(r, list)
			if !ok {
				t.Fatalf("%v is not possible", list)
			}
			if !slices.ContainsFunc(found, func(other impl.RasRaster) bool { return sameRaster(got, other) }) {
				found = append(found, got)
			}
		}
		if len(found) != 8 {
			t.Errorf("%d by %d has %d symmetries", r.W, r.H, len(found))
		}
	}
}

// Promise 72: moves preserve the pixels.

// countsOf says how often each pixel occurs.
func countsOf(r impl.RasRaster) map[impl.PixPix]int {
	counts := map[impl.PixPix]int{}
	for _, p := range r.Pix {
		counts[p]++
	}
	return counts
}

func TestMovesPreserveThePixels(t *testing.T) {
	for _, r := range formRasters() {
		want := countsOf(r)
		for _, move := range []impl.OpOp{flipX, flipY, turn} {
			got := does(t, r, move)
			counts := countsOf(got)
			if len(got.Pix) != len(r.Pix) || len(counts) != len(want) {
				t.Fatalf("%v of %v is %v", move, r, got)
			}
			for p, n := range want {
				if counts[p] != n {
					t.Fatalf("%v occurs %d times in %v, not %d times", p, counts[p], got, n)
				}
			}
		}
	}
}

// Promise 73: operations on single pixels commute with moves.

func TestPixelOperationsCommuteWithMoves(t *testing.T) {
	moves := slices.Concat(crops(), sizes(), []impl.OpOp{turn, flipX, flipY})
	for _, r := range fewRasters() {
		for _, move := range moves {
			for _, o := range []impl.OpOp{gray, flat(0, 0, 0), flat(255, 1, 128), flat(255, 255, 255)} {
				wantEqual(t, r, []impl.OpOp{o, move}, []impl.OpOp{move, o})
			}
		}
	}
}

// Promise 74: opaque pixels stay opaque.

func wantAlpha(t *testing.T, r impl.RasRaster, alpha int) {
	t.Helper()
	for _, p := range r.Pix {
		if p.A != alpha {
			t.Fatalf("a pixel of %v has not the alpha component %d", r, alpha)
		}
	}
}

func TestOpaquePixelsStayOpaque(t *testing.T) {
	for _, r := range opRasters() {
		for _, back := range []impl.OpOp{flat(0, 0, 0), flat(255, 128, 1)} {
			covered := does(t, r, back)
			wantAlpha(t, covered, 255)
			for _, list := range words(2, someOps()...) {
				if got, ok := impl.OpsDo(covered, list); ok {
					wantAlpha(t, got, 255)
				}
			}
		}
	}
}

func TestTransparentPixelsStayTransparent(t *testing.T) {
	for _, r := range opRasters() {
		hidden := shown(r, 0)
		for _, o := range slices.Concat(crops(), sizes(), []impl.OpOp{flipX, flipY, turn, gray, blur}) {
			if got, ok := impl.OpDo(hidden, o); ok {
				wantAlpha(t, got, 0)
			}
		}
	}
}

// Promise 75: resizing is idempotent.

func TestResizingTwice(t *testing.T) {
	for _, r := range opRasters() {
		for _, o := range sizes() {
			once := does(t, r, o)
			wantRaster(t, o, does(t, once, o), once)
		}
	}
}

// The middle of an even number of columns lies between two of them, and both are as near; the table of the chapter takes the second one.
func TestOnePixelIsNearestToTheMiddle(t *testing.T) {
	for _, r := range opRasters() {
		wantRaster(t, "one pixel", does(t, r, size(1, 1)), plain(1, 1, impl.RasAt(r, r.W/2, r.H/2)))
	}
}

// Promise 76: columns and rows are resized independently.

func TestColumnsAndRowsAreIndependent(t *testing.T) {
	for _, r := range opRasters() {
		for _, o := range sizes() {
			wantEqual(t, r, []impl.OpOp{size(o.A, r.H), o}, []impl.OpOp{o})
			wantEqual(t, r, []impl.OpOp{size(r.W, o.B), o}, []impl.OpOp{o})
		}
	}
}

// Promise 77: blurring is local.

func TestBlurringIsLocal(t *testing.T) {
	for _, r := range opRasters() {
		blurred := does(t, r, blur)
		for y := range r.H {
			for x := range r.W {
				left, top := max(x-1, 0), max(y-1, 0)
				right, bottom := min(x+1, r.W-1), min(y+1, r.H-1)
				part := does(t, r, crop(left, top, right-left+1, bottom-top+1), blur)
				if impl.RasAt(part, x-left, y-top) != impl.RasAt(blurred, x, y) {
					t.Fatalf("column %d of row %d of %v, blurred, is not that of %v", x, y, r, part)
				}
			}
		}
	}
}

// A pixel that is farther away makes no difference.
func TestBlurringIgnoresPixelsFartherAway(t *testing.T) {
	for _, r := range []impl.RasRaster{raster(6, 6, 7), raster(1, 6, 3), raster(6, 1, 2), raster(4, 3, 5)} {
		before := does(t, r, blur)
		for far := range r.Pix {
			other := copyOf(r)
			p := other.Pix[far]
			other.Pix[far] = impl.PixPix{R: (p.R + 128) % 256, G: (p.G + 128) % 256, B: (p.B + 128) % 256, A: (p.A + 128) % 256}
			after := does(t, other, blur)
			for k := range r.Pix {
				dx, dy := far%r.W-k%r.W, far/r.W-k/r.W
				near := dx*dx <= 1 && dy*dy <= 1
				if (before.Pix[k] != after.Pix[k]) != near {
					t.Fatalf("pixel %d of %d by %d changes with pixel %d: %v", k, r.W, r.H, far, !near)
				}
			}
		}
	}
}

// Promise 78: operations have no further parameters.

func TestOperationsOfTheDocument(t *testing.T) {
	for k, kind := range []int{impl.OpCrop, impl.OpFlipX, impl.OpFlipY, impl.OpTurn, impl.OpGray, impl.OpBlur, impl.OpSize, impl.OpFlat} {
		if kind != k+1 {
			t.Errorf("kind %d is %d", k+1, kind)
		}
	}
	if impl.OpsMost != 5 {
		t.Errorf("there are at most %d operations", impl.OpsMost)
	}
}

func TestValidOperations(t *testing.T) {
	for _, o := range append(validOps(), extremeOps()...) {
		if !impl.OpOk(o) {
			t.Fatalf("%v is invalid", o)
		}
	}
}

func TestInvalidOperations(t *testing.T) {
	for _, o := range append(invalidOps(), impl.OpOp{}) {
		if impl.OpOk(o) {
			t.Fatalf("%v is valid", o)
		}
	}
}

func TestEachParameterHasARange(t *testing.T) {
	for _, o := range extremeOps() {
		ranges := append(paramRanges(o.Kind), [2]int{}, [2]int{}, [2]int{}, [2]int{})
		for param := range 4 {
			for value := -300; value <= 600; value++ {
				want := value >= ranges[param][0] && value <= ranges[param][1]
				if one := withParam(o, param, value); impl.OpOk(one) != want {
					t.Fatalf("%v: valid is %v", one, !want)
				}
			}
		}
	}
}

func TestAFourthParameter(t *testing.T) {
	for _, o := range validOps() {
		if o.Kind == impl.OpCrop {
			continue
		}
		for _, value := range []int{-1, 1, 2, 6, 255, 256, math.MaxInt, math.MinInt} {
			if one := withParam(o, 3, value); impl.OpOk(one) {
				t.Fatalf("%v is valid", one)
			}
		}
	}
}

// The kinds with parameters have one that is not 0 at least, except for OpFlat.
func TestKindsWithoutParameters(t *testing.T) {
	for kind := -3; kind <= 20; kind++ {
		want := kind >= impl.OpFlipX && kind <= impl.OpBlur || kind == impl.OpFlat
		if got := impl.OpOk(impl.OpOp{Kind: kind}); got != want {
			t.Errorf("kind %d without parameters: valid is %v", kind, got)
		}
	}
}

// Promise 93: a simplified list is not longer and cannot be simplified further.

// folded simplifies a valid list as the rules of the chapter say.
func folded(list []impl.OpOp) []impl.OpOp {
	for k := range list {
		if k+4 <= len(list) && slices.Equal(list[k:k+4], []impl.OpOp{turn, turn, turn, turn}) {
			return folded(slices.Concat(list[:k], list[k+4:]))
		}
		if k+2 > len(list) || list[k].Kind != list[k+1].Kind {
			continue
		}
		a, b := list[k], list[k+1]
		switch a.Kind {
		case impl.OpFlipX, impl.OpFlipY:
			return folded(slices.Concat(list[:k], list[k+2:]))
		case impl.OpGray, impl.OpFlat:
			return folded(slices.Concat(list[:k+1], list[k+2:]))
		case impl.OpSize:
			if a == b {
				return folded(slices.Concat(list[:k+1], list[k+2:]))
			}
		case impl.OpCrop:
			if b.A+b.C <= a.C && b.B+b.D <= a.D && a.A+b.A < 6 && a.B+b.B < 6 {
				return folded(slices.Concat(list[:k], []impl.OpOp{crop(a.A+b.A, a.B+b.B, b.C, b.D)}, list[k+2:]))
			}
		}
	}
	return list
}

// foldLists are lists of each length in which much, and in which nothing, can be simplified.
func foldLists() [][]impl.OpOp {
	return slices.Concat(
		words(5, turn, flipX, flipY, gray, crop(1, 0, 3, 3)),
		words(5, crop(2, 0, 6, 6), crop(2, 1, 4, 4), crop(2, 0, 2, 2), flipY),
		words(5, size(2, 3), size(3, 2), flat(1, 2, 3), flat(3, 2, 1), blur),
		words(3, append(someOps(), extremeOps()...)...),
	)
}

func wantFolded(t *testing.T, list []impl.OpOp, want []impl.OpOp) {
	t.Helper()
	if got := impl.OpsFold(list); !slices.Equal(got, want) {
		t.Fatalf("%v is simplified to %v, not to %v", list, got, want)
	}
}

func TestSimplifiedLists(t *testing.T) {
	for _, list := range foldLists() {
		got := impl.OpsFold(list)
		if len(got) > len(list) {
			t.Fatalf("%v is simplified to %v", list, got)
		}
		for _, o := range got {
			if !impl.OpOk(o) {
				t.Fatalf("%v is simplified to %v, which has the invalid %v", list, got, o)
			}
		}
		wantFolded(t, got, got)
		wantFolded(t, list, folded(list))
	}
}

func TestKnownSimplifiedLists(t *testing.T) {
	for _, c := range [][2][]impl.OpOp{
		{{}, {}},
		{{turn}, {turn}},
		{{turn, turn, turn, turn, turn}, {turn}},
		{{flipX, turn, turn, turn, turn}, {flipX}},
		{{flipX, flipX, flipX}, {flipX}},
		{{flipY, flipY, flipY, flipY, flipY}, {flipY}},
		{{gray, gray, gray, gray, gray}, {gray}},
		{{flat(1, 2, 3), flat(4, 5, 6)}, {flat(1, 2, 3)}},
		{{flat(4, 5, 6), flat(1, 2, 3), flat(1, 2, 3)}, {flat(4, 5, 6)}},
		{{size(2, 3), size(2, 3), size(2, 3)}, {size(2, 3)}},
		{{size(2, 3), size(3, 2), size(3, 2), size(2, 3)}, {size(2, 3), size(3, 2), size(2, 3)}},
		// A removal makes further operations adjacent.
		{{turn, flipX, flipX, turn, turn}, {turn, turn, turn}},
		{{gray, flipY, flipY, gray}, {gray}},
		{{gray, flipX, flipX, gray, gray}, {gray}},
		{{flat(1, 2, 3), flipX, flipX, flat(4, 5, 6)}, {flat(1, 2, 3)}},
		{{size(2, 3), flipY, flipY, size(2, 3)}, {size(2, 3)}},
		{{size(2, 3), flipY, flipY, size(3, 2)}, {size(2, 3), size(3, 2)}},
		{{crop(1, 1, 3, 3), flipX, flipX, crop(1, 0, 2, 1)}, {crop(2, 1, 2, 1)}},
		{{flipX, flipY, flipY, flipX, flipY}, {flipY}},
		// Two parts that become one lie within the part before them.
		{{crop(0, 0, 2, 2), crop(0, 0, 3, 3), crop(1, 1, 1, 1)}, {crop(1, 1, 1, 1)}},
		// The sums of all three are too large; the first two become one, because they stand at the lowest index.
		{{crop(2, 0, 6, 1), crop(2, 0, 4, 1), crop(2, 0, 2, 1)}, {crop(4, 0, 4, 1), crop(2, 0, 2, 1)}},
		{{crop(0, 2, 1, 6), crop(0, 2, 1, 4), crop(0, 2, 1, 2)}, {crop(0, 4, 1, 4), crop(0, 2, 1, 2)}},
	} {
		wantFolded(t, c[0], c[1])
	}
}

func TestInvalidListsAreNotSimplified(t *testing.T) {
	for _, o := range invalidOps() {
		for _, list := range [][]impl.OpOp{{o}, {o, o}, {turn, o}, {o, turn}, {gray, gray, gray, gray, o}, {flipX, flipX, o}, {o, o, o, o}} {
			if got := impl.OpsFold(list); got != nil {
				t.Fatalf("%v is simplified to %v", list, got)
			}
		}
	}
}

// The lists are too long, although what they could be simplified to is not.
func TestLongListsAreNotSimplified(t *testing.T) {
	for _, o := range someOps() {
		for _, n := range []int{6, 7, 8, 10, 12, 100000} {
			if got := impl.OpsFold(slices.Repeat([]impl.OpOp{o}, n)); got != nil {
				t.Fatalf("%d times %v is simplified to %v", n, o, got)
			}
		}
	}
	for _, list := range [][]impl.OpOp{{turn, turn, flipX, flipX, turn, turn}, {flipX, flipX, gray, blur, turn, gray}} {
		if got := impl.OpsFold(list); got != nil {
			t.Fatalf("%v is simplified to %v", list, got)
		}
	}
}

// Where a list is possible, the simplified one has the same effect.
func TestSimplifiedListsHaveTheSameEffect(t *testing.T) {
	for _, list := range foldLists() {
		short := impl.OpsFold(list)
		for _, r := range []impl.RasRaster{raster(6, 6, 7), raster(4, 3, 5)} {
			want, possible := impl.OpsDo(r, list)
			if got, ok := impl.OpsDo(r, short); possible && (!ok || !sameRaster(got, want)) {
				t.Fatalf("%v of %v is %v, but %v is %v, %v", list, r, want, short, got, ok)
			}
		}
	}
}

// Promise 94: what has no effect is removed.

func TestWhatHasNoEffectIsRemoved(t *testing.T) {
	for _, list := range [][]impl.OpOp{
		{turn, turn, turn, turn},
		{flipX, flipX}, {flipX, flipX, flipX, flipX},
		{flipY, flipY}, {flipY, flipY, flipY, flipY},
		{flipX, flipX, flipY, flipY}, {flipY, flipY, flipX, flipX},
		{flipX, flipY, flipY, flipX}, {flipY, flipX, flipX, flipY},
	} {
		wantFolded(t, list, nil)
	}
}

// What has no effect stands at each place in a list of which nothing else is simplified.
func TestWhatHasNoEffectIsRemovedBetweenOthers(t *testing.T) {
	others := []impl.OpOp{crop(0, 1, 2, 3), flipX, turn, gray, blur, size(2, 2), flat(1, 2, 3)}
	for _, none := range [][]impl.OpOp{{flipX, flipX}, {flipY, flipY}, {turn, turn, turn, turn}, {flipX, flipY, flipY, flipX}} {
		for _, rest := range words(impl.OpsMost-len(none), others...) {
			if !slices.Equal(folded(rest), rest) {
				continue
			}
			for at := range len(rest) + 1 {
				wantFolded(t, slices.Insert(slices.Clone(rest), at, none...), rest)
			}
		}
	}
}

// Promise 95: nested parts become one part.

func TestNestedPartsBecomeOne(t *testing.T) {
	for _, c := range [][]impl.OpOp{
		{crop(0, 0, 6, 6)},
		{crop(1, 1, 3, 3), crop(1, 0, 2, 1)},
		{crop(0, 0, 6, 6), crop(0, 0, 6, 6), crop(0, 0, 6, 6), crop(0, 0, 6, 6), crop(0, 0, 6, 6)},
		{crop(1, 1, 5, 5), crop(1, 1, 4, 4), crop(1, 1, 3, 3), crop(1, 1, 2, 2), crop(1, 1, 1, 1)},
		{crop(0, 2, 6, 4), crop(1, 0, 5, 4), crop(0, 1, 4, 3), crop(3, 0, 1, 3), crop(0, 2, 1, 1)},
		{crop(5, 5, 1, 1), crop(0, 0, 1, 1)},
	} {
		last := c[len(c)-1]
		one := crop(0, 0, last.C, last.D)
		for _, o := range c {
			one.A += o.A
			one.B += o.B
		}
		wantFolded(t, c, []impl.OpOp{one})
	}
}

// All pairs of parts in one direction, with some in the other one. Those of which the second is not within the first, or whose sums are not less than RasMost, stay.
func TestPairsOfParts(t *testing.T) {
	others := [][4]int{{0, 6, 0, 6}, {0, 1, 0, 1}, {2, 3, 1, 2}, {5, 6, 0, 1}, {5, 6, 1, 1}, {0, 3, 1, 3}, {3, 4, 2, 2}, {3, 4, 3, 1}}
	for n := range 6 * 6 * 6 * 6 {
		a, c, a2, c2 := n%6, 1+n/6%6, n/36%6, 1+n/216
		for _, o := range others {
			b, d, b2, d2 := o[0], o[1], o[2], o[3]
			across, down := []impl.OpOp{crop(a, b, c, d), crop(a2, b2, c2, d2)}, []impl.OpOp{crop(b, a, d, c), crop(b2, a2, d2, c2)}
			if a2+c2 <= c && b2+d2 <= d && a+a2 <= 5 && b+b2 <= 5 {
				wantFolded(t, across, []impl.OpOp{crop(a+a2, b+b2, c2, d2)})
				wantFolded(t, down, []impl.OpOp{crop(b+b2, a+a2, d2, c2)})
			} else {
				wantFolded(t, across, across)
				wantFolded(t, down, down)
			}
		}
	}
}

func TestPartsThatStay(t *testing.T) {
	for _, list := range [][]impl.OpOp{
		// The second part extends beyond the first by one column, or by one row, or by both.
		{crop(0, 0, 3, 3), crop(1, 0, 3, 3)},
		{crop(0, 0, 3, 3), crop(0, 1, 3, 3)},
		{crop(0, 0, 3, 3), crop(0, 0, 4, 4)},
		{crop(1, 1, 2, 2), crop(2, 2, 1, 1)},
		// One sum, or both, is RasMost.
		{crop(5, 0, 6, 6), crop(1, 0, 1, 1)},
		{crop(0, 5, 6, 6), crop(0, 1, 1, 1)},
		{crop(3, 3, 6, 6), crop(3, 3, 1, 1)},
		{crop(5, 5, 6, 6), crop(5, 5, 1, 1)},
	} {
		wantFolded(t, list, list)
	}
}

// Promise 96: what is not repeated stays.

// repeats reports whether two adjacent operations, other than rotations, are of one kind, or four are rotations.
func repeats(list []impl.OpOp) bool {
	for k := range list {
		if k > 0 && list[k] != turn && list[k].Kind == list[k-1].Kind {
			return true
		}
		if k > 2 && slices.Equal(list[k-3:k+1], []impl.OpOp{turn, turn, turn, turn}) {
			return true
		}
	}
	return false
}

func TestWhatIsNotRepeatedStays(t *testing.T) {
	stay := 0
	for _, list := range slices.Concat(foldLists(), words(4, someOps()...)) {
		if !repeats(list) {
			wantFolded(t, list, list)
			stay++
		}
	}
	if stay < 1000 {
		t.Errorf("only %d lists have no repetitions", stay)
	}
}

// There is no rule for these, although two adjacent operations are of one kind.
func TestWhatHasNoRuleStays(t *testing.T) {
	for _, list := range [][]impl.OpOp{
		{blur, blur}, {blur, blur, blur, blur, blur}, {turn, turn}, {turn, turn, turn}, {turn, turn, gray, turn, turn},
		{size(1, 2), size(2, 1)}, {size(1, 2), size(1, 1), size(1, 2)}, {size(6, 6), size(6, 5)}, {size(6, 6), size(5, 6)},
		{flipX, flipY, flipX, flipY}, {gray, blur, gray}, {flat(1, 2, 3), gray, flat(1, 2, 3)}, {size(2, 2), gray, size(2, 2)}, {turn, flipX, turn, flipX},
	} {
		wantFolded(t, list, list)
	}
}

// The general rules: arguments are not written to, results are new memory, and nothing is kept.

func TestArgumentsOfOperationsStay(t *testing.T) {
	for _, r := range fewRasters() {
		pix := append(slices.Clone(r.Pix), colors(50, 6)...)
		pixBefore := slices.Clone(pix)
		r.Pix = pix[:len(r.Pix)]
		for _, part := range [][]impl.OpOp{nil, {gray}, {flipX, flipX}, {turn, turn, turn, turn, gray}, {blur, flipX, flipX, blur}, {crop(0, 0, 1, 1), crop(0, 0, 1, 1)}, {size(1, 1), size(1, 1), gray}} {
			ops := append(slices.Clone(part), blur, gray, turn, flipY, flipX, blur)
			opsBefore := slices.Clone(ops)
			got, _ := impl.OpsDo(r, ops[:len(part)])
			short := impl.OpsFold(ops[:len(part)])
			clear(got.Pix[:cap(got.Pix)])
			clear(short[:cap(short)])
			if !slices.Equal(pix, pixBefore) || !slices.Equal(ops, opsBefore) {
				t.Errorf("an argument is written to, for %v", part)
			}
		}
		for _, o := range append(someOps(), size(r.W, r.H), crop(0, 0, r.W, r.H), flat(1, 2, 3)) {
			got, _ := impl.OpDo(r, o)
			clear(got.Pix[:cap(got.Pix)])
			if !slices.Equal(pix, pixBefore) {
				t.Errorf("the raster is written to, for %v", o)
			}
		}
	}
}

func TestResultsOfOperationsAreNew(t *testing.T) {
	for _, r := range fewRasters() {
		for _, o := range append(extremeOps(), someOps()...) {
			want, possible := rasterDone(r, o)
			first, _ := impl.OpDo(r, o)
			other, _ := impl.OpDo(r, o)
			third, ok := impl.OpsDo(r, []impl.OpOp{o})
			clear(other.Pix[:cap(other.Pix)])
			if ok != possible || !sameRaster(first, want) || !sameRaster(third, want) {
				t.Fatalf("writing to a result of %v changes others", o)
			}
		}
	}
	for _, list := range words(3, someOps()...) {
		first, other := impl.OpsFold(list), impl.OpsFold(list)
		clear(other[:cap(other)])
		if !slices.Equal(first, folded(list)) {
			t.Fatalf("writing to a result of %v changes others", list)
		}
	}
}
