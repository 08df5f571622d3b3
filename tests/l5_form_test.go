package tests

import (
	"bytes"
	"hash/adler32"
	"slices"
	"testing"

	"loop.example/easel/impl"
)

var kinds = []byte{impl.FormDown, impl.FormUp, impl.FormRuns, impl.FormPack}

// black and white are colors that differ; veiled differs from white in its alpha component alone.
var (
	black  = impl.PixPix{A: 255}
	white  = impl.PixPix{R: 255, G: 255, B: 255, A: 255}
	veiled = impl.PixPix{R: 255, G: 255, B: 255, A: 254}
)

// notes are of each length, and some look like parts of a file.
func notes() [][]byte {
	list := [][]byte{nil, {}, {0}, {255}, {0, 0, 0, 1}, []byte("note"), {impl.FormDown, 0, 1, 1, 1, 2, 3, 4}, bytes.Repeat([]byte{255}, impl.NoteMost)}
	for n := range impl.NoteMost + 1 {
		list = append(list, filled(n, n))
	}
	return list
}

// runRasters are all rasters of at most six pixels of two colors, and some larger ones with runs.
func runRasters() []impl.RasRaster {
	var list []impl.RasRaster
	for _, pix := range words(6, black, white) {
		for w := 1; w <= len(pix); w++ {
			if len(pix)%w == 0 {
				list = append(list, impl.RasRaster{W: w, H: len(pix) / w, Pix: pix})
			}
		}
	}
	for n := range 36 {
		list = append(list,
			impl.RasRaster{W: 6, H: 6, Pix: slices.Concat(slices.Repeat([]impl.PixPix{black}, n), slices.Repeat([]impl.PixPix{white}, 36-n))},
			impl.RasRaster{W: 6, H: 6, Pix: slices.Concat(slices.Repeat([]impl.PixPix{white}, n), []impl.PixPix{veiled}, slices.Repeat([]impl.PixPix{white}, 35-n))})
	}
	return list
}

func formRasters() []impl.RasRaster {
	return append(rasters(), runRasters()...)
}

// someRasters are of the smallest and of the largest size, and some between.
func someRasters() []impl.RasRaster {
	return []impl.RasRaster{raster(1, 1, 3), plain(1, 1, impl.PixPix{}), raster(2, 3, 5), plain(3, 2, white), raster(6, 6, 7), plain(6, 6, veiled)}
}

// runsOf lists the runs of pixels as the chapter describes them.
func runsOf(pix []impl.PixPix) []byte {
	var list []byte
	for k, p := range pix {
		if k > 0 && p == pix[k-1] {
			list[len(list)-5]++
		} else {
			list = append(list, 1, byte(p.R), byte(p.G), byte(p.B), byte(p.A))
		}
	}
	return list
}

// flipped returns a raster with its rows in reverse order.
func flipped(r impl.RasRaster) impl.RasRaster {
	other := copyOf(r)
	for k, p := range r.Pix {
		other.Pix[(r.H-1-k/r.W)*r.W+k%r.W] = p
	}
	return other
}

// bodyOf lists the bytes of a body as the table of the chapter describes them.
func bodyOf(kind byte, r impl.RasRaster) []byte {
	switch kind {
	case impl.FormDown:
		return bytesOf(r)
	case impl.FormUp:
		return bytesOf(flipped(r))
	case impl.FormRuns:
		return append([]byte{byte(r.W), byte(r.H)}, runsOf(r.Pix)...)
	}
	return ended(codesOf(bytesOf(r))...)
}

// fileOf lists the bytes of a file with any body, whose checksum is right.
func fileOf(kind byte, note []byte, body []byte) []byte {
	sum := adler32.Checksum(body)
	return slices.Concat([]byte{kind, byte(len(note))}, note, body, []byte{byte(sum >> 24), byte(sum >> 16), byte(sum >> 8), byte(sum)})
}

// wantRead checks what a readable file is read as.
func wantRead(t *testing.T, list []byte, want impl.RasRaster) {
	t.Helper()
	got, how := impl.FormGet(list)
	if how != impl.FormGood || !sameRaster(got, want) {
		t.Fatalf("%v is read as %v, %d, not as %v", list, got, how, want)
	}
	if !impl.RasOk(got) {
		t.Fatalf("%v is read as %v, which is invalid", list, got)
	}
}

// wantUnread checks why a file is not read, and that there is nothing beside the reason.
func wantUnread(t *testing.T, list []byte, why int) {
	t.Helper()
	got, how := impl.FormGet(list)
	if how != why || got.W != 0 || got.H != 0 || len(got.Pix) != 0 {
		t.Fatalf("%d bytes, %v, are read as %v, %d, not as nothing, %d", len(list), list[:min(len(list), 40)], got, how, why)
	}
}

// Promise 2: a file is read as its raster, whatever its kind.

func TestKnownFiles(t *testing.T) {
	r := impl.RasRaster{W: 1, H: 3, Pix: []impl.PixPix{{R: 1, G: 2, B: 3, A: 4}, {R: 1, G: 2, B: 3, A: 4}, {R: 9, A: 255}}}
	for _, c := range []struct {
		kind byte
		note string
		want []byte
	}{
		{68, "", []byte{68, 0, 1, 3, 1, 2, 3, 4, 1, 2, 3, 4, 9, 0, 0, 255, 2, 6, 1, 33}},
		{68, "hi", []byte{68, 2, 'h', 'i', 1, 3, 1, 2, 3, 4, 1, 2, 3, 4, 9, 0, 0, 255, 2, 6, 1, 33}},
		{85, "", []byte{85, 0, 1, 3, 9, 0, 0, 255, 1, 2, 3, 4, 1, 2, 3, 4, 9, 246, 1, 33}},
		{82, "x", []byte{82, 1, 'x', 1, 3, 2, 1, 2, 3, 4, 1, 9, 0, 0, 255, 1, 187, 1, 26}},
		{80, "", []byte{80, 0, 1, 6, 4, 16, 48, 128, 192, 192, 130, 9, 0, 0, 248, 7, 16, 28, 0, 3, 230}},
	} {
		if got := impl.FormWrite(c.kind, []byte(c.note), r); !bytes.Equal(got, c.want) {
			t.Errorf("the file of kind %d is %v, not %v", c.kind, got, c.want)
		}
		wantRead(t, c.want, r)
	}
}

func TestFilesAreWrittenAndRead(t *testing.T) {
	for _, r := range formRasters() {
		for _, kind := range kinds {
			body := bodyOf(kind, r)
			for _, note := range notes() {
				file := impl.FormWrite(kind, note, r)
				if want := fileOf(kind, note, body); !bytes.Equal(file, want) {
					t.Fatalf("the file of kind %c of %v is %v, not %v", kind, r, file, want)
				}
				wantRead(t, file, r)
			}
		}
	}
}

func TestFilesOfEachComponent(t *testing.T) {
	for value := range impl.PixMax + 1 {
		for part := range 4 {
			r := raster(2, 2, 8)
			r.Pix[2] = withPart(r.Pix[2], part, value)
			for _, kind := range kinds {
				wantRead(t, impl.FormWrite(kind, nil, r), r)
			}
		}
	}
}

func TestPutIsPackedWithoutANote(t *testing.T) {
	for _, r := range formRasters() {
		got := impl.FormPut(r)
		if !bytes.Equal(got, impl.FormWrite(impl.FormPack, nil, r)) || !bytes.Equal(got, fileOf('P', nil, bodyOf('P', r))) {
			t.Fatalf("%v is put as %v", r, got)
		}
		wantRead(t, got, r)
	}
}

func TestUnknownKindsAreNotWritten(t *testing.T) {
	for kind := range 256 {
		known := slices.Contains(kinds, byte(kind))
		for _, r := range someRasters() {
			for _, note := range notes() {
				if got := impl.FormWrite(byte(kind), note, r); (got != nil) != known {
					t.Fatalf("the file of kind %d is %v", kind, got)
				}
			}
		}
	}
}

func TestLongNotesAreNotWritten(t *testing.T) {
	for _, n := range []int{impl.NoteMost + 1, impl.NoteMost + 2, 16, 128, 255, 256, 257, 256 + impl.NoteMost, 100000} {
		for _, kind := range kinds {
			for _, r := range someRasters() {
				if got := impl.FormWrite(kind, filled(n, 1), r); got != nil {
					t.Fatalf("the file of kind %c with a note of %d bytes is %v", kind, n, got)
				}
			}
		}
	}
}

func TestInvalidRastersAreNotWritten(t *testing.T) {
	for _, r := range invalidRasters() {
		for _, kind := range kinds {
			if got := impl.FormWrite(kind, []byte("note"), r); got != nil {
				t.Fatalf("the file of kind %c of %v is %v", kind, r, got)
			}
		}
		if got := impl.FormPut(r); got != nil {
			t.Fatalf("%v is put as %v", r, got)
		}
	}
}

func TestSeveralThingsWrongAreNotWritten(t *testing.T) {
	wrong := impl.RasRaster{W: 2, H: 2, Pix: colors(3, 1)}
	long := filled(impl.NoteMost+1, 1)
	for _, got := range [][]byte{impl.FormWrite(0, long, raster(1, 1, 1)), impl.FormWrite(0, nil, wrong), impl.FormWrite('D', long, wrong), impl.FormWrite(0, long, wrong)} {
		if got != nil {
			t.Errorf("a file is %v", got)
		}
	}
}

// Promise 23: what is read is a raster.

func TestChangedBytesAreNoticed(t *testing.T) {
	for _, r := range someRasters() {
		for _, kind := range kinds {
			for _, note := range [][]byte{nil, []byte("note"), filled(impl.NoteMost, 4)} {
				file := impl.FormWrite(kind, note, r)
				for at := 2 + len(note); at < len(file); at++ {
					for change := 1; change < 256; change++ {
						other := bytes.Clone(file)
						other[at] ^= byte(change)
						wantUnread(t, other, impl.FormBroken)
					}
				}
			}
		}
	}
}

func TestChangedNotesMakeNoDifference(t *testing.T) {
	for _, r := range someRasters() {
		for _, kind := range kinds {
			for _, note := range notes() {
				file := impl.FormWrite(kind, note, r)
				for at := range note {
					for change := 1; change < 256; change++ {
						other := bytes.Clone(file)
						other[2+at] ^= byte(change)
						wantRead(t, other, r)
					}
				}
			}
		}
	}
}

func TestOtherNotesMakeNoDifference(t *testing.T) {
	for _, kind := range kinds {
		for _, body := range [][]byte{bodyOf(kind, raster(3, 4, 2)), bodyOf(kind, plain(1, 1, black)), nil, {1}, {1, 1}, filled(30, 2)} {
			want, why := impl.FormGet(fileOf(kind, nil, body))
			for _, note := range notes() {
				if got, how := impl.FormGet(fileOf(kind, note, body)); how != why || !sameRaster(got, want) {
					t.Fatalf("with the note %v it is %v, %d, not %v, %d", note, got, how, want, why)
				}
			}
		}
	}
}

func TestLongNotesAreNotRead(t *testing.T) {
	for _, r := range someRasters() {
		for _, kind := range kinds {
			for n := impl.NoteMost + 1; n < 256; n++ {
				wantUnread(t, fileOf(kind, filled(n, 1), bodyOf(kind, r)), impl.FormBroken)
			}
			// The length of the note is that of a valid one, if it is cut to fewer bits.
			wantUnread(t, slices.Concat([]byte{kind, 128}, fileOf(kind, nil, bodyOf(kind, r))[2:]), impl.FormBroken)
		}
	}
}

func TestCutFilesAreNotRead(t *testing.T) {
	for _, r := range someRasters() {
		for _, kind := range kinds {
			for _, note := range notes() {
				file := impl.FormWrite(kind, note, r)
				for n := 1; n < len(file); n++ {
					wantUnread(t, file[:n], impl.FormBroken)
				}
			}
		}
	}
}

// The last bytes are a right checksum of no bytes, of the bytes before them, or both the note and the checksum.
func TestFilesThatAreTooShort(t *testing.T) {
	for _, kind := range kinds {
		for n := range 256 {
			for _, rest := range [][]byte{nil, {0}, {1}, {0, 0, 0}, {0, 0, 1}, {0, 0, 0, 1}, {0, 0, 0, 0, 1}, {1, 1, 0, 0, 0, 1}, {1, 1, 0, 5, 0, 3}, {0, 0, 0, 0, 0, 0, 0, 0, 0, 0, 0, 1}} {
				wantUnread(t, append([]byte{kind, byte(n)}, rest...), impl.FormBroken)
			}
		}
	}
}

func TestFilesWithMoreBytes(t *testing.T) {
	for _, r := range someRasters() {
		for _, kind := range kinds {
			body := bodyOf(kind, r)
			for _, more := range [][]byte{{0}, {1}, {255}, {0, 0, 0, 0}, {1, 2, 3, 4}, {0, 0, 0, 0, 0}, {1, 2, 3, 4, 5}, body, filled(1000, 2)} {
				wantUnread(t, append(impl.FormWrite(kind, nil, r), more...), impl.FormBroken)
				wantUnread(t, fileOf(kind, nil, slices.Concat(body, more)), impl.FormBroken)
				wantUnread(t, fileOf(kind, nil, slices.Concat([]byte{0}, more, body)), impl.FormBroken)
			}
		}
	}
}

// The checksum is right, so that only the body is wrong.
func TestBodiesWithFewerBytes(t *testing.T) {
	for _, r := range someRasters() {
		for _, kind := range kinds {
			body := bodyOf(kind, r)
			for n := range body {
				wantUnread(t, fileOf(kind, []byte("note"), body[:n]), impl.FormBroken)
			}
		}
	}
}

func TestChecksumsInAnotherOrder(t *testing.T) {
	for _, r := range someRasters() {
		for _, kind := range kinds {
			file := impl.FormWrite(kind, nil, r)
			sum := file[len(file)-4:]
			for _, order := range [][4]int{{3, 2, 1, 0}, {2, 3, 0, 1}, {1, 0, 3, 2}} {
				other := bytes.Clone(file[:len(file)-4])
				for _, k := range order {
					other = append(other, sum[k])
				}
				if !bytes.Equal(other, file) {
					wantUnread(t, other, impl.FormBroken)
				}
			}
		}
	}
}

// The checksum is that of the whole file, or of the note and the body, or of the note alone.
func TestChecksumsOfOtherParts(t *testing.T) {
	for _, r := range someRasters() {
		for _, kind := range kinds {
			file := impl.FormWrite(kind, []byte("note"), r)
			end := len(file) - 4
			for _, part := range [][]byte{file, file[:end], file[2:end], file[2:6], file[7:end], nil} {
				sum := adler32.Checksum(part)
				wantUnread(t, append(bytes.Clone(file[:end]), byte(sum>>24), byte(sum>>16), byte(sum>>8), byte(sum)), impl.FormBroken)
			}
		}
	}
}

// wrongSides are two sides of which one is not in 1..RasMost.
func wrongSides() [][2]int {
	var list [][2]int
	for _, side := range []int{0, impl.RasMost + 1, 8, 12, 36, 128, 129, 255} {
		for other := range 37 {
			list = append(list, [2]int{side, other}, [2]int{other, side})
		}
	}
	return append(list, [2]int{255, 255}, [2]int{128, 2}, [2]int{2, 128}, [2]int{16, 16}, [2]int{85, 3})
}

func TestSidesOutsideAreNotRead(t *testing.T) {
	for _, sides := range wrongSides() {
		w, h := sides[0], sides[1]
		head := []byte{byte(w), byte(h)}
		for _, n := range []int{0, 1, 2, w * h % 256, 36} {
			list := append(bytes.Clone(head), filled(4*n, 1)...)
			wantUnread(t, fileOf(impl.FormDown, nil, list), impl.FormBroken)
			wantUnread(t, fileOf(impl.FormUp, nil, list), impl.FormBroken)
			if len(list) <= mostPacked {
				wantUnread(t, fileOf(impl.FormPack, nil, ended(codesOf(list)...)), impl.FormBroken)
			}
			wantUnread(t, fileOf(impl.FormRuns, nil, append(bytes.Clone(head), byte(n), 1, 2, 3, 4)), impl.FormBroken)
			wantUnread(t, fileOf(impl.FormRuns, nil, append(bytes.Clone(head), runsOf(colors(n, 1))...)), impl.FormBroken)
		}
		wantUnread(t, fileOf(impl.FormRuns, nil, head), impl.FormBroken)
	}
}

// runFile is a file of runs of these lengths, all of one color.
func runFile(w int, h int, lengths ...byte) []byte {
	body := []byte{byte(w), byte(h)}
	for _, n := range lengths {
		body = append(body, n, 255, 255, 255, 254)
	}
	return fileOf(impl.FormRuns, nil, body)
}

func TestRunsNeedNotBeMaximal(t *testing.T) {
	wantRead(t, runFile(2, 1, 1, 1), plain(2, 1, veiled))
	wantRead(t, runFile(2, 3, 1, 4, 1), plain(2, 3, veiled))
	wantRead(t, runFile(6, 6, bytes.Repeat([]byte{1}, 36)...), plain(6, 6, veiled))
	wantRead(t, runFile(6, 6, 35, 1), plain(6, 6, veiled))
	for _, r := range formRasters() {
		body := []byte{byte(r.W), byte(r.H)}
		for _, p := range r.Pix {
			body = append(body, 1, byte(p.R), byte(p.G), byte(p.B), byte(p.A))
		}
		wantRead(t, fileOf(impl.FormRuns, []byte("runs"), body), r)
	}
}

func TestRunLengthsAddUp(t *testing.T) {
	for _, lengths := range words(4, byte(0), 1, 2, 3, 4, 6, 9) {
		sum, zero := 0, slices.Contains(lengths, 0)
		for _, n := range lengths {
			sum += int(n)
		}
		for w := 1; w <= 4; w++ {
			for h := 1; h <= 3; h++ {
				if file := runFile(w, h, lengths...); sum == w*h && !zero {
					wantRead(t, file, plain(w, h, veiled))
				} else {
					wantUnread(t, file, impl.FormBroken)
				}
			}
		}
	}
}

// Some lengths add up to W*H if the sum is cut to a byte.
func TestRunsThatAreTooLong(t *testing.T) {
	for w := 1; w <= impl.RasMost; w++ {
		for h := 1; h <= impl.RasMost; h++ {
			n := byte(w * h)
			for _, lengths := range [][]byte{{n + 1}, {n, 1}, {n, n}, {n, 0}, {0, n}, {255, n + 1}, {n + 1, 255}, {128, 128, n}, {n, 128, 128}, {n, 255, 1}, {255}, {255, 255}, bytes.Repeat([]byte{1}, w*h+1), bytes.Repeat([]byte{255}, 300)} {
				wantUnread(t, runFile(w, h, lengths...), impl.FormBroken)
			}
		}
	}
}

func TestRunsThatAreNotWhole(t *testing.T) {
	for more := 1; more < 10; more++ {
		if more != 5 {
			body := append(bodyOf(impl.FormRuns, plain(2, 2, white)), filled(more, 1)...)
			wantUnread(t, fileOf(impl.FormRuns, nil, body), impl.FormBroken)
		}
	}
}

// The codes are single bytes alone, although longer strings have codes.
func TestPackedBodiesNeedNotBeShortest(t *testing.T) {
	for _, r := range []impl.RasRaster{plain(1, 1, white), plain(2, 3, black), plain(6, 6, veiled), plain(6, 6, impl.PixPix{})} {
		var codes []int
		for _, b := range bytesOf(r) {
			codes = append(codes, int(b))
		}
		body := ended(codes...)
		if bytes.Equal(body, impl.PakPut(bytesOf(r))) {
			t.Fatalf("PakPut writes %v", body)
		}
		wantRead(t, fileOf(impl.FormPack, nil, body), r)
		wantRead(t, fileOf(impl.FormPack, []byte("codes"), body), r)
	}
}

func TestPackedBodiesThatAreNotDecompressed(t *testing.T) {
	good := codesOf(bytesOf(raster(2, 2, 4)))
	first := slices.Concat([]int{impl.PakFirst}, good)
	late := slices.Concat(good, []int{511})
	padded := ended(good...)
	padded[len(padded)-1] |= 128
	for _, body := range [][]byte{nil, {0}, {255}, {0, 255}, nineBits(good...), ended(first...), ended(late...), append(ended(good...), 0), padded, ended(impl.PakEnd), make([]byte, 1000), filled(1000, 1)} {
		if _, ok := unpacked(body); ok {
			t.Fatalf("%v is decompressed", body)
		}
		wantUnread(t, fileOf(impl.FormPack, nil, body), impl.FormBroken)
	}
}

func TestPackedBytesThatAreNoRaster(t *testing.T) {
	for _, list := range [][]byte{nil, {1}, {1, 1}, {0, 0}, {6, 6}, make([]byte, mostPacked), filled(mostPacked, 1), append(bytesOf(raster(2, 2, 1)), 0), bytesOf(raster(6, 6, 1))[:145], append([]byte{7, 7}, filled(196, 1)...)} {
		body := impl.PakPut(list)
		if back, ok := impl.PakGet(body); !ok || !bytes.Equal(back, list) {
			t.Fatalf("%v is not decompressed", body)
		}
		wantUnread(t, fileOf(impl.FormPack, nil, body), impl.FormBroken)
	}
}

func TestArbitraryBytesAreRastersOrNothing(t *testing.T) {
	for seed := range uint32(40000) {
		list := mixed(int(seed%60), 256, seed)
		if seed%2 == 0 {
			list = mixed(int(seed%60), 4, seed)
		}
		for _, kind := range kinds {
			r, how := impl.FormGet(fileOf(kind, nil, list))
			if how == impl.FormGood && !impl.RasOk(r) {
				t.Fatalf("%v is read as %v", list, r)
			}
			if how != impl.FormGood {
				wantUnread(t, fileOf(kind, nil, list), impl.FormBroken)
			}
			wantUnread(t, append([]byte{kind}, list...), impl.FormBroken)
		}
	}
}

func TestLongListsAreBroken(t *testing.T) {
	for _, kind := range kinds {
		for _, n := range []int{186, 200, 1000, 1 << 16, 1<<20 + 2} {
			for _, body := range [][]byte{make([]byte, n), bytes.Repeat([]byte{255}, n), append([]byte{6, 6}, bytes.Repeat([]byte{1}, n)...), append([]byte{6, 6}, bytes.Repeat([]byte{36, 255, 255, 255, 255}, n)...)} {
				wantUnread(t, fileOf(kind, nil, body), impl.FormBroken)
			}
		}
	}
}

// Promise 66: different rasters have different bytes and files.

// likeRasters are rasters of which many differ in little, each also as a copy.
func likeRasters() []impl.RasRaster {
	list := append(rasters(), runRasters()[:60]...)
	for _, r := range []impl.RasRaster{raster(1, 1, 2), raster(2, 3, 2), {W: 3, H: 2, Pix: colors(6, 2)}, {W: 1, H: 6, Pix: colors(6, 2)}, {W: 6, H: 1, Pix: colors(6, 2)}, flipped(raster(2, 3, 2)), plain(2, 2, white)} {
		for part := range 4 {
			for _, k := range []int{0, len(r.Pix) - 1} {
				for _, value := range []int{0, 1, 254, 255} {
					other := copyOf(r)
					other.Pix[k] = withPart(other.Pix[k], part, value)
					list = append(list, other)
				}
			}
		}
		list = append(list, r, copyOf(r))
	}
	return list
}

func TestDifferentRastersHaveDifferentBytesAndFiles(t *testing.T) {
	list := likeRasters()
	var plainBytes, files [][]byte
	for _, r := range list {
		plainBytes = append(plainBytes, impl.RasBytes(r))
		files = append(files, impl.FormPut(r))
	}
	equal := 0
	for i, a := range list {
		for j, b := range list {
			same := sameRaster(a, b)
			if bytes.Equal(plainBytes[i], plainBytes[j]) != same {
				t.Fatalf("the bytes of %v and %v: equal is %v", a, b, !same)
			}
			if bytes.Equal(files[i], files[j]) != same {
				t.Fatalf("the files of %v and %v: equal is %v", a, b, !same)
			}
			if same && i != j {
				equal++
			}
		}
	}
	if equal == 0 {
		t.Error("no two rasters are equal")
	}
}

// Promise 69: runs are maximal.

// bodyOfRuns returns the body of the file of runs of a raster, without its first two bytes.
func bodyOfRuns(r impl.RasRaster) []byte {
	file := impl.FormWrite(impl.FormRuns, nil, r)
	return file[4 : len(file)-4]
}

func TestKnownRuns(t *testing.T) {
	b, w, v := black, white, veiled
	for _, c := range []struct {
		w, h int
		pix  []impl.PixPix
		want []byte // the lengths alone
	}{
		{1, 1, []impl.PixPix{b}, []byte{1}},
		{2, 1, []impl.PixPix{b, b}, []byte{2}},
		{1, 2, []impl.PixPix{b, b}, []byte{2}},
		{2, 1, []impl.PixPix{b, w}, []byte{1, 1}},
		{2, 1, []impl.PixPix{v, w}, []byte{1, 1}},
		{3, 2, []impl.PixPix{b, b, w, w, w, b}, []byte{2, 3, 1}}, // a run continues in the next row
		{2, 3, []impl.PixPix{b, w, w, w, w, b}, []byte{1, 4, 1}}, // and in the one after it
		{2, 2, []impl.PixPix{b, w, b, w}, []byte{1, 1, 1, 1}},    // equal columns are no runs
		{2, 2, []impl.PixPix{b, b, w, b}, []byte{2, 1, 1}},
		{2, 2, []impl.PixPix{{}, {R: 1}, {R: 1}, {G: 1}}, []byte{1, 2, 1}}, // transparent pixels of different colors
	} {
		var lengths []byte
		list := bodyOfRuns(impl.RasRaster{W: c.w, H: c.h, Pix: c.pix})
		for k := 0; k < len(list); k += 5 {
			lengths = append(lengths, list[k])
		}
		if !bytes.Equal(lengths, c.want) {
			t.Errorf("the runs of %v have the lengths %v, not %v", c.pix, lengths, c.want)
		}
	}
}

func TestRunsAreMaximal(t *testing.T) {
	for _, r := range formRasters() {
		runs := 1
		for k := range len(r.Pix) - 1 {
			if r.Pix[k] != r.Pix[k+1] {
				runs++
			}
		}
		list := bodyOfRuns(r)
		if len(list) != 5*runs {
			t.Fatalf("%d runs have %d bytes", runs, len(list))
		}
		for k := 5; k < len(list); k += 5 {
			if bytes.Equal(list[k-4:k], list[k+1:k+5]) {
				t.Fatalf("two runs of %v have one color: %v", r, list)
			}
		}
	}
}

func TestASingleColorIsOneRun(t *testing.T) {
	for w := 1; w <= impl.RasMost; w++ {
		for h := 1; h <= impl.RasMost; h++ {
			for _, p := range []impl.PixPix{{}, black, white, veiled, {R: 1, G: 2, B: 3, A: 4}} {
				want := []byte{byte(w * h), byte(p.R), byte(p.G), byte(p.B), byte(p.A)}
				if got := bodyOfRuns(plain(w, h, p)); !bytes.Equal(got, want) {
					t.Errorf("%d by %d of %v is %v", w, h, p, got)
				}
			}
		}
	}
}

// Promise 70: unknown kinds are not read.

func TestUnknownKindsAreNotRead(t *testing.T) {
	wantUnread(t, nil, impl.FormWhat)
	wantUnread(t, []byte{}, impl.FormWhat)
	for first := range 256 {
		kind := byte(first)
		why := impl.FormWhat
		if slices.Contains(kinds, kind) {
			why = impl.FormBroken
		}
		for _, rest := range [][]byte{nil, {0}, {255}, {0, 0, 0, 0, 1}, []byte("GIF"), filled(300, 1)} {
			wantUnread(t, append([]byte{kind}, rest...), why)
		}
	}
}

func TestReadableFilesOfUnknownKinds(t *testing.T) {
	for _, kind := range kinds {
		for _, r := range someRasters() {
			file := impl.FormWrite(kind, []byte("note"), r)
			for first := range 256 {
				if !slices.Contains(kinds, byte(first)) {
					file[0] = byte(first)
					wantUnread(t, file, impl.FormWhat)
				}
			}
		}
	}
}

func TestKindsOfTheDocument(t *testing.T) {
	if !bytes.Equal(kinds, []byte{68, 85, 82, 80}) {
		t.Errorf("the kinds are %v", kinds)
	}
	if impl.NoteMost != 9 || impl.FormGood != 1 || impl.FormWhat != 2 || impl.FormBroken != 3 {
		t.Error("a constant is not that of the document")
	}
}

// Promise 99: file sizes are determined.

func TestSizesOfFiles(t *testing.T) {
	for _, r := range formRasters() {
		size := 4 * len(r.Pix)
		for _, note := range notes() {
			for _, kind := range []byte{impl.FormDown, impl.FormUp} {
				if got := len(impl.FormWrite(kind, note, r)); got != size+len(note)+8 {
					t.Fatalf("the file of kind %c of %d pixels with %d bytes of note has %d bytes", kind, len(r.Pix), len(note), got)
				}
			}
			most := (9*(size+2) + 9 + 7) / 8
			if got := len(impl.FormWrite(impl.FormPack, note, r)) - len(note) - 6; got < 1 || got > most {
				t.Fatalf("the packed body of %d pixels has %d bytes, more than %d", len(r.Pix), got, most)
			}
		}
	}
}

func TestSmallestAndLargestFiles(t *testing.T) {
	one, all := plain(1, 1, impl.PixPix{R: 1, G: 1, B: 1, A: 1}), impl.RasRaster{W: 6, H: 6}
	for k := range 36 {
		all.Pix = append(all.Pix, impl.PixPix{R: 10 + 4*k, G: 11 + 4*k, B: 12 + 4*k, A: 13 + 4*k})
	}
	for _, c := range []struct {
		kind        byte
		small, full int
	}{
		{impl.FormDown, 12, 161}, {impl.FormUp, 12, 161}, {impl.FormRuns, 13, 197}, {impl.FormPack, 11, 181},
	} {
		small, full := impl.FormWrite(c.kind, nil, one), impl.FormWrite(c.kind, filled(impl.NoteMost, 1), all)
		if len(small) != c.small || len(full) != c.full {
			t.Errorf("files of kind %c have %d and %d bytes, not %d and %d", c.kind, len(small), len(full), c.small, c.full)
		}
		wantRead(t, small, one)
		wantRead(t, full, all)
	}
}

// The general rules: arguments are not written to, results are new memory, and nothing is kept.

func TestArgumentsOfFilesStay(t *testing.T) {
	for _, r := range someRasters() {
		pix := append(slices.Clone(r.Pix), colors(50, 6)...)
		pixBefore := slices.Clone(pix)
		r.Pix = pix[:len(r.Pix)]
		for _, kind := range kinds {
			note, memory := spare(impl.NoteMost, 3)
			before := bytes.Clone(memory)
			file := impl.FormWrite(kind, note, r)
			put := impl.FormPut(r)
			whole := append(bytes.Clone(file), filled(50, 7)...)
			wholeBefore := bytes.Clone(whole)
			got, _ := impl.FormGet(whole[:len(file)])
			clear(file[:cap(file)])
			clear(put[:cap(put)])
			clear(got.Pix[:cap(got.Pix)])
			if !slices.Equal(pix, pixBefore) || !bytes.Equal(memory, before) || !bytes.Equal(whole, wholeBefore) {
				t.Errorf("an argument is written to, for kind %c of %d by %d", kind, r.W, r.H)
			}
		}
	}
}

func TestResultsOfFilesAreNew(t *testing.T) {
	for _, r := range someRasters() {
		for _, kind := range kinds {
			first, other := impl.FormWrite(kind, []byte("note"), r), impl.FormWrite(kind, []byte("note"), r)
			clear(other[:cap(other)])
			one, _ := impl.FormGet(first)
			two, _ := impl.FormGet(first)
			clear(two.Pix[:cap(two.Pix)])
			if !bytes.Equal(first, fileOf(kind, []byte("note"), bodyOf(kind, r))) || !sameRaster(one, r) {
				t.Errorf("writing to a result of kind %c of %v changes others", kind, r)
			}
			wantRead(t, first, r)
		}
	}
}
