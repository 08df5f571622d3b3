package tests

import (
	"bytes"
	"crypto/hmac"
	"crypto/sha256"
	"encoding/hex"
	"fmt"
	"math"
	"regexp"
	"slices"
	"strconv"
	"strings"
	"testing"

	"loop.example/easel/impl"
)

// The text of valid operations and requests, as the chapter describes it.
const (
	opPattern  = `(?:crop(?:\.[0-5]){2}(?:\.[1-6]){2}|flipx|flipy|turn|gray|blur|size(?:\.[1-6]){2}|flat(?:\.(?:[0-9]|[1-9][0-9]|1[0-9][0-9]|2[0-4][0-9]|25[0-5])){3})`
	askPattern = `/(-|` + opPattern + `(?:,` + opPattern + `){0,4})/([a-z0-9]{1,6})\?e=(0|[1-9][0-9]{0,3})`
)

var (
	opExpression  = regexp.MustCompile(`\A` + opPattern + `\z`)
	askExpression = regexp.MustCompile(`\A` + askPattern + `\z`)
)

var opNames = []string{"", "crop", "flipx", "flipy", "turn", "gray", "blur", "size", "flat"}

// farTimes are before and after all expiry times.
var farTimes = []int{math.MinInt, -10000, -1, 10000, math.MaxInt}

func request(path string, till int, ops ...impl.OpOp) impl.UrlAsk {
	return impl.UrlAsk{Ops: ops, Path: path, Till: till}
}

func sameAsk(a impl.UrlAsk, b impl.UrlAsk) bool {
	return slices.Equal(a.Ops, b.Ops) && a.Path == b.Path && a.Till == b.Till
}

func zeroAsk(a impl.UrlAsk) bool {
	return sameAsk(a, impl.UrlAsk{})
}

// opWritten is the text of a valid operation.
func opWritten(o impl.OpOp) string {
	text := opNames[o.Kind]
	for param := range paramRanges(o.Kind) {
		text += fmt.Sprintf(".%d", []int{o.A, o.B, o.C, o.D}[param])
	}
	return text
}

// askWritten is the text of a valid request.
func askWritten(a impl.UrlAsk) string {
	texts := []string{"-"}
	for k, o := range a.Ops {
		texts = append(texts[:k], opWritten(o))
	}
	return fmt.Sprintf("/%s/%s?e=%d", strings.Join(texts, ","), a.Path, a.Till)
}

// signatureFor is the signature of any text under a key of any length.
func signatureFor(key []byte, text string) string {
	mac := hmac.New(sha256.New, key)
	mac.Write([]byte(text))
	return hex.EncodeToString(mac.Sum(nil))[:16]
}

// signed is any text with its signature.
func signed(key []byte, text string) string {
	return text + "&s=" + signatureFor(key, text)
}

// opParsed is the operation with a text.
func opParsed(s string) (impl.OpOp, bool) {
	if !opExpression.MatchString(s) {
		return impl.OpOp{}, false
	}
	parts := strings.Split(s, ".")
	o := impl.OpOp{Kind: slices.Index(opNames, parts[0])}
	for param, part := range parts[1:] {
		n, _ := strconv.Atoi(part)
		o = withParam(o, param, n)
	}
	return o, true
}

// askParsed is the request with a text.
func askParsed(s string) (impl.UrlAsk, bool) {
	parts := askExpression.FindStringSubmatch(s)
	if parts == nil {
		return impl.UrlAsk{}, false
	}
	a := impl.UrlAsk{Path: parts[2]}
	a.Till, _ = strconv.Atoi(parts[3])
	if parts[1] != "-" {
		for _, text := range strings.Split(parts[1], ",") {
			o, _ := opParsed(text)
			a.Ops = append(a.Ops, o)
		}
	}
	return a, true
}

// urlParsed is the request of a signed URL, and the code of the response.
func urlParsed(key []byte, s string, now int) (impl.UrlAsk, int) {
	at := len(s) - len("&s=") - 16
	if len(key) > 500 || at < 0 || s[at:at+3] != "&s=" {
		return impl.UrlAsk{}, 400
	}
	a, ok := askParsed(s[:at])
	if !ok {
		return impl.UrlAsk{}, 400
	}
	if s != signed(key, s[:at]) || now >= a.Till {
		return impl.UrlAsk{}, 403
	}
	return a, 200
}

// edits are all texts that differ from one by a character or two: removed, doubled, replaced, inserted or swapped, or by a part at one end that is missing.
func edits(s string) []string {
	inserted := []string{"0", "1", "6", "9", "00", "a", "e", "s", "x", "z", "A", "Z", "-", "+", "_", ".", ",", "/", "?", "&", "=", "?e=", "&s=", " ", "\t", "\n", "\x00", "\x7f", "\x80", "\xff", "é", "٣", "%30"}
	list := []string{s + s, strings.ToUpper(s)}
	for k := range len(s) + 1 {
		list = append(list, s[:k], s[k:])
		for _, more := range inserted {
			list = append(list, s[:k]+more+s[k:])
			if k < len(s) {
				list = append(list, s[:k]+more+s[k+1:])
			}
		}
		if k < len(s) {
			list = append(list, s[:k]+s[k+1:], s[:k+1]+s[k:])
		}
		if k+1 < len(s) {
			list = append(list, s[:k]+s[k+1:k+2]+s[k:k+1]+s[k+2:])
		}
	}
	return list
}

// longestAsk has the longest text of all valid requests.
func longestAsk() impl.UrlAsk {
	return request("wwwwww", 9999, slices.Repeat([]impl.OpOp{flat(255, 255, 255)}, 5)...)
}

// fewAsks are the shortest and the longest request, and some between.
func fewAsks() []impl.UrlAsk {
	return []impl.UrlAsk{
		request("a", 0), longestAsk(), request("cat", 50, turn, size(3, 2)), request("0", 9, flipX, flipY, gray, blur),
		request("z9", 10, crop(0, 5, 1, 6)), request("e", 100, flat(0, 10, 100)), request("turn", 1, turn), request("s0s0s0", 1000, crop(5, 0, 6, 1), flipX, flipX, size(1, 6), turn),
	}
}

// asks are requests with each name of one character, names of each length, many expiry times, and lists of each length.
func asks() []impl.UrlAsk {
	list := fewAsks()
	for _, c := range "abcdefghijklmnopqrstuvwxyz0123456789" {
		list = append(list, request(string(c), 7, gray))
	}
	for n := 1; n <= 6; n++ {
		list = append(list, request("abc123"[:n], 7), request(strings.Repeat("0", n), 7, blur), request(strings.Repeat("z", n), 7))
	}
	for _, till := range []int{0, 1, 2, 9, 10, 11, 99, 100, 101, 999, 1000, 1001, 5555, 9990, 9998, 9999} {
		list = append(list, request("cat", till), request("dog", till, turn, turn))
	}
	for _, o := range append(extremeOps(), someOps()...) {
		for n := 1; n <= 5; n++ {
			list = append(list, request("cat", 7, slices.Repeat([]impl.OpOp{o}, n)...))
		}
		list = append(list, request("cat", 7, o, turn), request("cat", 7, turn, o), request("cat", 7, flipX, gray, o, blur, flipY))
	}
	for _, ops := range words(4, turn, gray, size(1, 2)) {
		list = append(list, request("cat", 7, ops...))
	}
	return list
}

// badNames are names that no request has.
func badNames() []string {
	list := []string{"", "abcdefg", "0000000", strings.Repeat("a", 8), strings.Repeat("a", 256+1), strings.Repeat("a", 100000), "ééé", "cät", "a٣"}
	for b := range 256 {
		c := string([]byte{byte(b)})
		if !strings.Contains("abcdefghijklmnopqrstuvwxyz0123456789", c) {
			list = append(list, c, "a"+c, c+"a", "ab"+c+"cd", "abcde"+c)
		}
	}
	return list
}

// invalidAsks have one thing wrong each, or all.
func invalidAsks() []impl.UrlAsk {
	var list []impl.UrlAsk
	for _, name := range badNames() {
		list = append(list, request(name, 7), request(name, 9999, turn))
	}
	for _, till := range []int{-1, -2, -9999, math.MinInt, 10000, 10001, 1 << 32, 1<<32 + 7, math.MaxInt} {
		list = append(list, request("cat", till), request("cat", till, turn))
	}
	for _, o := range append(someOps(), extremeOps()...) {
		for _, n := range []int{6, 7, 10, 256, 261} {
			list = append(list, request("cat", 7, slices.Repeat([]impl.OpOp{o}, n)...))
		}
	}
	for _, o := range invalidOps() {
		list = append(list, request("cat", 7, o), request("cat", 7, turn, o), request("cat", 7, o, turn), request("cat", 7, turn, turn, turn, turn, o))
	}
	return append(list, impl.UrlAsk{}, request("", -1, impl.OpOp{}))
}

// urlKeys are of lengths around a block and the bound.
func urlKeys() [][]byte {
	list := [][]byte{nil, {}, {0}, []byte("key"), []byte("kez")}
	for _, n := range []int{1, 16, 32, 63, 64, 65, 100, 499, 500} {
		list = append(list, filled(n, 3))
	}
	return list
}

// longKeys are of more bytes than a key may have.
func longKeys() [][]byte {
	return [][]byte{filled(501, 3), filled(502, 3), filled(512, 3), filled(100000, 3)}
}

// Promise 35: operations have text.

func wantOp(t *testing.T, s string, want impl.OpOp, accepted bool) {
	t.Helper()
	if got, ok := impl.OpRead(s); ok != accepted || got != want {
		t.Fatalf("%q is read as %v, %v, not as %v, %v", s, got, ok, want, accepted)
	}
}

func TestKnownOperationTexts(t *testing.T) {
	for _, c := range []struct {
		o    impl.OpOp
		want string
	}{
		{crop(0, 1, 2, 3), "crop.0.1.2.3"}, {crop(5, 5, 6, 6), "crop.5.5.6.6"}, {crop(0, 0, 1, 1), "crop.0.0.1.1"},
		{flipX, "flipx"}, {flipY, "flipy"}, {turn, "turn"}, {gray, "gray"}, {blur, "blur"},
		{size(3, 2), "size.3.2"}, {size(1, 6), "size.1.6"}, {flat(1, 2, 255), "flat.1.2.255"}, {flat(0, 10, 100), "flat.0.10.100"},
	} {
		if got := impl.OpText(c.o); got != c.want {
			t.Errorf("%v is written as %q, not as %q", c.o, got, c.want)
		}
		wantOp(t, c.want, c.o, true)
	}
}

func TestOperationsAreWrittenAndRead(t *testing.T) {
	list := validOps()
	for n := range 256 {
		list = append(list, flat(n, 0, 255), flat(255, n, 0), flat(0, 255, n))
	}
	for _, o := range list {
		text := impl.OpText(o)
		if text != opWritten(o) {
			t.Fatalf("%v is written as %q, not as %q", o, text, opWritten(o))
		}
		wantOp(t, text, o, true)
	}
}

func TestInvalidOperationsHaveNoText(t *testing.T) {
	for _, o := range append(invalidOps(), impl.OpOp{}) {
		if got := impl.OpText(o); got != "" {
			t.Fatalf("%v is written as %q", o, got)
		}
	}
}

func TestWhatIsReadIsAnOperation(t *testing.T) {
	accepted := 0
	for _, o := range append(someOps(), extremeOps()...) {
		for _, s := range edits(opWritten(o)) {
			want, ok := opParsed(s)
			wantOp(t, s, want, ok)
			if ok {
				accepted++
				if got := impl.OpText(want); got != s {
					t.Fatalf("%q is read, but written as %q", s, got)
				}
			}
		}
	}
	if accepted < 100 {
		t.Errorf("only %d of the changed texts are operations", accepted)
	}
}

// badOps are texts that are no operation.
func badOps() []string {
	nines := strings.Repeat("9", 1000)
	return []string{
		"", ".", "..", "-", ",", "/", " ", "0", "1.2", ".1.2", "flip", "flipz", "cro", "cropp", "rotate", "none", "flipxy", "flipx flipy", "turnturn",
		"Turn", "TURN", "FlipX", "flipX", "Size.1.2", " turn", "turn ", "turn\n", "turn\x00", "tür", "turn\xff", "ｔurn",
		// Missing and additional parameters.
		"crop", "crop.", "crop.1", "crop.1.1.1", "crop.1.1.1.", "crop.1.1.1.1.", "crop.1.1.1.1.1", "crop.1.1.1.1.0", "crop..1.1.1", "crop.1..1.1", "crop1.1.1.1", "crop.1.1.11", "crop.1111",
		"size", "size.", "size.1", "size.1.", "size..1", "size.1.1.", "size.1.1.1", "size.1.1.0", "size.1.1.0.0", "size11", "size.11", "size1.1", "size-1-1", "size 1 1", "size.1,1", "size,1,1", "size.1 .1",
		"flat", "flat.1", "flat.1.2", "flat.1.2.", "flat.1.2.3.", "flat.1.2.3.4", "flat.1.2.3.0", "flat..2.3",
		"turn.", "turn.0", "turn.1", "turn.0.0.0.0", "flipx.", "flipx.0", "flipy.0", "gray.0", "gray.", "blur.1", "blur.0.0",
		// Numbers that are not written as the program writes them.
		"size.01.1", "size.1.01", "size.1.00001", "crop.00.0.1.1", "crop.0.0.01.1", "flat.00.0.0", "flat.0.0.007", "flat.010.0.0", "flat.0.0.-0", "flat.-0.0.0",
		"size.+1.1", "size.1.+1", "size.-1.1", "flat.+0.0.0", "flat.0.0.+255", "crop.-1.0.1.1", "size.1.1e0", "size.0x1.1", "size.1_.1", "flat.1_0.0.0", "flat.0x0.0.0", "flat.0b1.0.0", "flat.ff.0.0", "flat.1e1.0.0", "size.one.1", "size.1.a", "size.a.1", "flat.٣.0.0", "size.１.1",
		// Numbers out of range, or too long for any number.
		"size.0.1", "size.1.0", "size.7.1", "size.1.7", "size.10.1", "size.257.1", "size.4294967297.1", "size.18446744073709551617.1", "crop.6.0.1.1", "crop.0.6.1.1", "crop.0.0.0.1", "crop.0.0.1.0", "crop.0.0.7.1", "crop.0.0.1.7",
		"flat.256.0.0", "flat.0.256.0", "flat.0.0.256", "flat.1000.0.0", "flat.0.0.65536", "flat.9223372036854775807.0.0", "flat.9223372036854775808.0.0", "flat.0.0.18446744073709551616",
		"size.1." + nines, "size." + nines + ".1", "flat." + nines + "." + nines + "." + nines, "flat.0.0." + strings.Repeat("0", 1000), "size.1.1" + strings.Repeat(".1", 100000),
		nines, strings.Repeat("a", 100000), strings.Repeat(".", 100000), strings.Repeat("turn", 1000), strings.Repeat("\xff", 1000),
		// More than one operation, or parts of a request.
		"turn,turn", "turn,", ",turn", "/turn", "turn/", "turn/cat?e=5", "turn?e=5", "turn&s=0",
	}
}

func TestTextsThatAreNoOperation(t *testing.T) {
	for _, s := range badOps() {
		wantOp(t, s, impl.OpOp{}, false)
	}
}

// Each text of at most four characters that could be a name or a number in place of a parameter.
func TestEachParameterText(t *testing.T) {
	for _, word := range words(4, "0", "1", "2", "5", "6", "9", "a", "-", ".") {
		param := strings.Join(word, "")
		for _, s := range []string{"size." + param + ".1", "size.1." + param, "crop.0." + param, "flat." + param + ".0.0", "flat.0.0." + param, "turn" + param, param} {
			want, ok := opParsed(s)
			wantOp(t, s, want, ok)
		}
	}
}

// Promise 36: requests have text.

func wantAsk(t *testing.T, s string, want impl.UrlAsk, accepted bool) {
	t.Helper()
	if got, ok := impl.AskRead(s); ok != accepted || !sameAsk(got, want) {
		t.Fatalf("%q is read as %v, %v, not as %v, %v", s, got, ok, want, accepted)
	}
}

func TestKnownRequests(t *testing.T) {
	for _, c := range []struct {
		a    impl.UrlAsk
		want string
	}{
		{request("a", 0), "/-/a?e=0"}, {request("cat", 50, turn, size(3, 2)), "/turn,size.3.2/cat?e=50"}, {request("007", 9999, flat(1, 2, 255)), "/flat.1.2.255/007?e=9999"},
		{request("z9z9z9", 10, flipX, flipY, gray, blur, crop(0, 1, 2, 3)), "/flipx,flipy,gray,blur,crop.0.1.2.3/z9z9z9?e=10"},
		{impl.UrlAsk{Ops: []impl.OpOp{}, Path: "b", Till: 1}, "/-/b?e=1"}, {request("turn", 5), "/-/turn?e=5"},
		{longestAsk(), "/flat.255.255.255,flat.255.255.255,flat.255.255.255,flat.255.255.255,flat.255.255.255/wwwwww?e=9999"},
	} {
		if got := impl.AskText(c.a); got != c.want {
			t.Errorf("%v is written as %q, not as %q", c.a, got, c.want)
		}
		wantAsk(t, c.want, c.a, true)
	}
}

func TestRequestsAreWrittenAndRead(t *testing.T) {
	list := asks()
	for till := range 10000 {
		list = append(list, request("cat", till))
	}
	for _, o := range validOps() {
		list = append(list, request("dog1", 77, o))
	}
	for _, a := range list {
		text := impl.AskText(a)
		if text != askWritten(a) {
			t.Fatalf("%v is written as %q, not as %q", a, text, askWritten(a))
		}
		wantAsk(t, text, a, true)
		if read, _ := impl.AskRead(text); !impl.AskOk(read) {
			t.Fatalf("%q is read as %v, which is invalid", text, read)
		}
	}
}

func TestWhatIsReadIsARequest(t *testing.T) {
	accepted := 0
	for _, a := range fewAsks() {
		for _, s := range edits(askWritten(a)) {
			want, ok := askParsed(s)
			wantAsk(t, s, want, ok)
			if ok {
				accepted++
				if got := impl.AskText(want); got != s {
					t.Fatalf("%q is read, but written as %q", s, got)
				}
			}
		}
	}
	if accepted < 100 {
		t.Errorf("only %d of the changed texts are requests", accepted)
	}
}

func TestTextsOfFewParts(t *testing.T) {
	accepted := 0
	for _, word := range words(6, "/", "-", "turn", ",", "cat", "?e=", "5") {
		s := strings.Join(word, "")
		want, ok := askParsed(s)
		wantAsk(t, s, want, ok)
		if ok {
			accepted++
		}
	}
	if accepted < 6 {
		t.Errorf("only %d texts are requests", accepted)
	}
}

// badAsks are texts that are no request.
func badAsks() []string {
	var list []string
	for _, s := range badOps() {
		// These two are no operation, but they are lists of operations.
		if s != "-" && s != "turn,turn" {
			list = append(list, "/"+s+"/cat?e=5", "/turn,"+s+"/cat?e=5", "/"+s+",turn/cat?e=5")
		}
	}
	for _, name := range badNames() {
		list = append(list, "/-/"+name+"?e=5", "/turn/"+name+"?e=5")
	}
	for _, till := range []string{
		"", "05", "00", "005", "0005", "00005", "-1", "-0", "+5", "+0", " 5", "5 ", "5\n", "5\x00", "5.", "5.0", "5,", "5,5", "5/", "5e0", "0x5", "5_0", "a", "5a", "a5", "10000", "10001", "99999", "65536", "65541", "4294967301", "9223372036854775807", "9223372036854775808", "18446744073709551621", strings.Repeat("9", 150), strings.Repeat("0", 150) + "5", "٣", "５", "5\xff", "?e=5", "5?e=5", "5&e=5", "5&s=", "5&s=0123456789abcde", "5#", "5&", "5?",
	} {
		list = append(list, "/-/cat?e="+till, "/turn/cat?e="+till)
	}
	for _, ops := range []string{"", ",", ",,", "--", "-,-", "-,turn", "turn,-", "turn,", ",turn", "turn,,turn", "turn,turn,", ",turn,turn", "turn;turn", "turn turn", "turn/turn", "turn.turn", "turn, turn", "none"} {
		list = append(list, "/"+ops+"/cat?e=5")
	}
	for n := 6; n <= 10; n++ {
		list = append(list, "/"+strings.Repeat("turn,", n-1)+"turn/cat?e=5", "/"+strings.Repeat("-,", n-1)+"-/cat?e=5")
	}
	return append(list,
		"", "/", "//", "///", "-", "?e=", "?e=5", "/-", "/-/", "/-/cat", "/-/cat?", "/-/cat?e", "/-/cat?e=", "cat", "cat?e=5", "/cat?e=5", "-/cat?e=5", "turn/cat?e=5", "/turncat?e=5", "/-cat?e=5", "//-/cat?e=5", "/-//cat?e=5", "/-/cat/?e=5", "/-/cat?e=5/", "/-/cat/cat?e=5", "/-/-/cat?e=5", "//cat?e=5", "/cat/-?e=5", "?e=5/-/cat", "/-?e=5/cat", "/?e=5-/cat",
		"/-/cat?e=5?e=5", "/-/cat?e=?e=5", "/-/cat?e?e=5", "/-/cat??e=5", "/-/cat?e==5", "/-/cat?ee=5", "/-/cat?E=5", "/-/cat&e=5", "/-/cate=5", "/-/cat?5", "/-/cat=5", "/-/cat?e5", "/-/cat5", "/-/cat?t=5", "/-/cat?s=5", "/-/?e=5", "/-/cat&s=5", "/-/cat&s=?e=5", "/-&s=/cat?e=5",
		" /-/cat?e=5", "/ -/cat?e=5", "/-/ cat?e=5", "/-/cat ?e=5", "\\-\\cat?e=5", "/-\n/cat?e=5", "/\xff/cat?e=5", "/-\xff/cat?e=5", "/-/c\xffat?e=5", "\xff/-/cat?e=5", "/é/cat?e=5", "/−/cat?e=5", "http://host/-/cat?e=5", "/-/cat?e=5&", "/-/cat?e=5&s", "/-/cat?e=5&s=",
		strings.Repeat("a", 200), strings.Repeat("/", 200), strings.Repeat("\xff", 200), strings.Repeat("/-/cat?e=5", 20),
	)
}

func TestTextsThatAreNoRequest(t *testing.T) {
	for _, s := range badAsks() {
		wantAsk(t, s, impl.UrlAsk{}, false)
	}
}

func TestLongTextsAreNotRead(t *testing.T) {
	text := askWritten(longestAsk())
	for _, n := range []int{198, 199, 200, 201, 202, 256, 1000, 100000} {
		for _, more := range []string{"0", "9", "a", "/", ",turn", " ", "&", "\x00", "\xff"} {
			fill := strings.Repeat(more, n)
			for _, s := range []string{fill[:n], "/-/cat?e=5" + fill[:n-10], "/-/" + fill[:n-7] + "?e=5", "/turn" + fill[:n-13] + "/cat?e=5", fill[:n-len(text)] + text, text + fill[:n-len(text)]} {
				wantAsk(t, s, impl.UrlAsk{}, false)
				for _, key := range [][]byte{nil, []byte("key")} {
					wantUrl(t, key, signed(key, s), -1, impl.UrlAsk{}, 400)
				}
			}
		}
	}
}

func TestDifferentRequestsHaveDifferentTexts(t *testing.T) {
	list := asks()
	for _, one := range list {
		for _, other := range list {
			if same := impl.AskText(one) == impl.AskText(other); same != sameAsk(one, other) {
				t.Fatalf("%v and %v: same text is %v", one, other, same)
			}
		}
	}
}

// Promise 79: smaller requests are valid.

func wantValid(t *testing.T, a impl.UrlAsk, valid bool) {
	t.Helper()
	if got := impl.AskOk(a); got != valid {
		t.Fatalf("that %v is valid is %v", a, got)
	}
}

func TestSmallerRequestsAreValid(t *testing.T) {
	for _, a := range asks() {
		wantValid(t, a, true)
		for n := len(a.Ops) - 1; n >= 0; n-- {
			wantValid(t, request(a.Path, a.Till, a.Ops[:n]...), true)
		}
		wantValid(t, request(strings.Repeat(a.Path, 7)[:6], a.Till, a.Ops...), true)
		for _, wrong := range []impl.UrlAsk{
			request("", a.Till, a.Ops...), request(strings.Repeat(a.Path, 7)[:7], a.Till, a.Ops...), request(a.Path, 10000, a.Ops...), request(a.Path, -1, a.Ops...),
			request(a.Path, a.Till+10000, a.Ops...), request(a.Path, a.Till-10000, a.Ops...), request(a.Path, a.Till, append(slices.Clone(a.Ops), impl.OpOp{})...),
		} {
			wantValid(t, wrong, false)
		}
	}
}

func TestRequestsOfEachLength(t *testing.T) {
	for n := range 20 {
		for _, o := range someOps() {
			wantValid(t, request("cat", 5, slices.Repeat([]impl.OpOp{o}, n)...), n <= 5)
		}
		for _, c := range []string{"a", "z", "0", "9"} {
			wantValid(t, request(strings.Repeat(c, n), 5, turn), n >= 1 && n <= 6)
		}
	}
}

func TestEachCharacterOfAName(t *testing.T) {
	for b := range 256 {
		valid := b >= 'a' && b <= 'z' || b >= '0' && b <= '9'
		for k := range 6 {
			name := []byte("abc789")
			name[k] = byte(b)
			wantValid(t, request(string(name), 5), valid)
			wantValid(t, request(string(name[:k+1]), 5), valid)
			wantValid(t, request(string(name[k:]), 5), valid)
		}
	}
}

func TestInvalidRequests(t *testing.T) {
	for _, a := range invalidAsks() {
		wantValid(t, a, false)
		if got := impl.AskText(a); got != "" {
			t.Fatalf("%v is written as %q", a, got)
		}
		for _, key := range [][]byte{nil, []byte("key")} {
			if got := impl.UrlText(key, a); got != "" {
				t.Fatalf("%v is signed as %q", a, got)
			}
		}
	}
}

// Promise 104: a URL shows its operations in order.

func TestOperationsAreShownInOrder(t *testing.T) {
	for _, a := range asks() {
		parts := strings.Split(impl.AskText(a), "/")
		if len(parts) != 3 || parts[0] != "" || parts[2] != a.Path+"?e="+strconv.Itoa(a.Till) {
			t.Fatalf("%v is written as %q", a, parts)
		}
		texts := strings.Split(parts[1], ",")
		if len(a.Ops) == 0 && parts[1] != "-" || len(a.Ops) > 0 && len(texts) != len(a.Ops) {
			t.Fatalf("%v is written as %q", a, parts)
		}
		for k, o := range a.Ops {
			if texts[k] != impl.OpText(o) {
				t.Fatalf("operation %d of %v is written as %q", k, a, texts[k])
			}
		}
	}
}

// Promise 97: simplified requests are valid.

func TestSimplifiedRequestsAreValid(t *testing.T) {
	shorter := 0
	for _, ops := range foldLists() {
		whole := impl.UrlAsk{Ops: ops, Path: "cat", Till: 50}
		simple := impl.UrlAsk{Ops: impl.OpsFold(ops), Path: "cat", Till: 50}
		wantValid(t, simple, true)
		long, short := impl.AskText(whole), impl.AskText(simple)
		if short == "" || len(short) > len(long) {
			t.Fatalf("%q is simplified to %q", long, short)
		}
		wantAsk(t, short, simple, true)
		if len(short) < len(long) {
			shorter++
		}
	}
	if shorter < 1000 {
		t.Errorf("only %d texts become shorter", shorter)
	}
	for _, a := range asks() {
		a.Ops = impl.OpsFold(a.Ops)
		wantValid(t, a, true)
	}
}

// Promise 80: different requests are signed as different texts.

func TestKnownUrls(t *testing.T) {
	cat := request("cat", 50, turn, size(3, 2))
	for _, c := range []struct {
		key  []byte
		a    impl.UrlAsk
		want string
	}{
		{[]byte("key"), cat, "/turn,size.3.2/cat?e=50&s=f9af8e6393fc3cf1"},
		{nil, cat, "/turn,size.3.2/cat?e=50&s=d324cc9e7d5e972f"},
		{[]byte("key"), request("a", 0), "/-/a?e=0&s=51779d4b7f166664"},
		{bytes.Repeat([]byte{'k'}, 100), request("z9", 9999, flat(0, 10, 255)), "/flat.0.10.255/z9?e=9999&s=925d64a198705cff"},
	} {
		if got := impl.UrlText(c.key, c.a); got != c.want {
			t.Errorf("%v is signed as %q, not as %q", c.a, got, c.want)
		}
	}
}

func TestUrlsAreSigned(t *testing.T) {
	for _, key := range urlKeys() {
		for _, a := range asks() {
			url := impl.UrlText(key, a)
			text := impl.AskText(a)
			if url != signed(key, askWritten(a)) || !strings.HasPrefix(url, text) || len(url) != len(text)+19 {
				t.Fatalf("%v is signed by %x as %q", a, key, url)
			}
		}
	}
}

func TestDifferentRequestsAreSignedDifferently(t *testing.T) {
	list := asks()
	for _, key := range [][]byte{nil, []byte("key"), filled(500, 3)} {
		urls := make([]string, len(list))
		for k, a := range list {
			urls[k] = impl.UrlText(key, a)
		}
		for k, one := range list {
			for n, other := range list {
				if same := urls[k] == urls[n]; same != sameAsk(one, other) {
					t.Fatalf("%v and %v: same URL is %v", one, other, same)
				}
			}
		}
	}
}

func TestLongKeysSignNothing(t *testing.T) {
	for _, key := range longKeys() {
		for _, a := range append(fewAsks(), invalidAsks()[0]) {
			if got := impl.UrlText(key, a); got != "" {
				t.Errorf("%v is signed by %d bytes as %q", a, len(key), got)
			}
		}
	}
}

// Promises 3 and 82: a URL is accepted until its time and no longer.

func wantUrl(t *testing.T, key []byte, s string, now int, want impl.UrlAsk, code int) {
	t.Helper()
	if got, how := impl.UrlRead(key, s, now); how != code || !sameAsk(got, want) {
		t.Fatalf("%q under %x at %d is read as %v, %d, not as %v, %d", s, key, now, got, how, want, code)
	}
}

func TestUrlsAreAcceptedUntilTheirTime(t *testing.T) {
	for _, key := range urlKeys() {
		for _, a := range append(fewAsks(), request("cat", 9998, gray), request("cat", 2)) {
			url := impl.UrlText(key, a)
			for _, now := range append(slices.Clone(farTimes), 0, 1, 2, 9998, 9999, a.Till/2, a.Till-2, a.Till-1, a.Till, a.Till+1, a.Till+2, a.Till-1<<32, a.Till+1<<32, -a.Till) {
				if now < a.Till {
					wantUrl(t, key, url, now, a, impl.CodGood)
				} else {
					wantUrl(t, key, url, now, impl.UrlAsk{}, impl.CodSign)
				}
			}
		}
	}
}

func TestEachExpiryTime(t *testing.T) {
	key := []byte("key")
	for till := 0; till <= 9999; till += 11 {
		a := request("cat", till, turn)
		url := impl.UrlText(key, a)
		wantUrl(t, key, url, till-1, a, impl.CodGood)
		wantUrl(t, key, url, till, impl.UrlAsk{}, impl.CodSign)
	}
	wantUrl(t, key, impl.UrlText(key, request("cat", 0)), 0, impl.UrlAsk{}, impl.CodSign)
	wantUrl(t, key, impl.UrlText(key, request("cat", 0)), -1, request("cat", 0), impl.CodGood)
	wantUrl(t, key, impl.UrlText(key, request("cat", 9999)), 9998, request("cat", 9999), impl.CodGood)
	wantUrl(t, key, impl.UrlText(key, request("cat", 9999)), 9999, impl.UrlAsk{}, impl.CodSign)
}

func TestRequestsOfAllKindsAreAccepted(t *testing.T) {
	for _, a := range asks() {
		wantUrl(t, []byte("key"), impl.UrlText([]byte("key"), a), a.Till-1, a, impl.CodGood)
	}
}

// Another key is rejected unless its signature is the same, as that of a short key with a zero byte behind it is.
func TestOtherKeysAreRejected(t *testing.T) {
	list := urlKeys()
	list = append(list, []byte("key\x00"), []byte("Key"), []byte("ke"), []byte("keyy"), impl.ShaSum(filled(100, 3)))
	same := 0
	for _, a := range fewAsks() {
		for _, key := range list {
			url := impl.UrlText(key, a)
			for _, other := range list {
				if impl.UrlText(other, a) == url {
					wantUrl(t, other, url, a.Till-1, a, impl.CodGood)
					same++
				} else {
					wantUrl(t, other, url, a.Till-1, impl.UrlAsk{}, impl.CodSign)
				}
				wantUrl(t, other, url, a.Till, impl.UrlAsk{}, impl.CodSign)
			}
		}
	}
	if same >= len(list)*len(list)*len(fewAsks()) || same <= len(list)*len(fewAsks()) {
		t.Errorf("%d pairs of keys have the same signature", same)
	}
	cat := request("cat", 50)
	wantUrl(t, []byte("key\x00"), impl.UrlText([]byte("key"), cat), 49, cat, impl.CodGood)
	wantUrl(t, impl.ShaSum(filled(100, 3)), impl.UrlText(filled(100, 3), cat), 49, cat, impl.CodGood)
}

// Promise 4: what is accepted is signed.

func TestWhatIsAcceptedIsSigned(t *testing.T) {
	accepted := 0
	for _, key := range [][]byte{nil, []byte("key"), filled(500, 3)} {
		for _, a := range fewAsks() {
			for _, s := range edits(signed(key, askWritten(a))) {
				for _, now := range []int{-1, a.Till - 1, a.Till} {
					want, code := urlParsed(key, s, now)
					wantUrl(t, key, s, now, want, code)
					if code != impl.CodGood {
						continue
					}
					accepted++
					if impl.UrlText(key, want) != s || want.Till <= now {
						t.Fatalf("%q is accepted at %d as %v", s, now, want)
					}
				}
			}
		}
	}
	if accepted < 10 {
		t.Errorf("only %d URLs are accepted", accepted)
	}
}

// The text is changed here and then signed: what is still a request is accepted, and all else is malformed.
func TestSignedTextsAreReadAsRequests(t *testing.T) {
	key := []byte("key")
	for _, a := range fewAsks() {
		for _, text := range edits(askWritten(a)) {
			s := signed(key, text)
			want, code := urlParsed(key, s, -1)
			wantUrl(t, key, s, -1, want, code)
			if _, ok := askParsed(text); ok != (code == impl.CodGood) || !ok && code != impl.CodWords {
				t.Fatalf("%q has code %d", text, code)
			}
		}
	}
}

func TestSignaturesOfOtherRequests(t *testing.T) {
	key := []byte("key")
	for _, one := range fewAsks() {
		for _, other := range fewAsks() {
			text := askWritten(one)
			s := text + "&s=" + signatureFor(key, askWritten(other))
			if sameAsk(one, other) {
				wantUrl(t, key, s, -1, one, impl.CodGood)
			} else {
				wantUrl(t, key, s, -1, impl.UrlAsk{}, impl.CodSign)
			}
		}
	}
}

// Promise 37: a changed signature is rejected.

func TestChangedSignaturesAreRejected(t *testing.T) {
	for _, key := range [][]byte{nil, []byte("key"), filled(500, 3)} {
		for _, a := range []impl.UrlAsk{request("a", 0), request("cat", 50, turn, size(3, 2)), longestAsk()} {
			url := []byte(impl.UrlText(key, a))
			for k := len(url) - 16; k < len(url); k++ {
				for b := range 256 {
					changed := bytes.Clone(url)
					changed[k] = byte(b)
					if changed[k] == url[k] {
						continue
					}
					for _, now := range []int{math.MinInt, a.Till - 1, a.Till, math.MaxInt} {
						wantUrl(t, key, string(changed), now, impl.UrlAsk{}, impl.CodSign)
					}
				}
			}
		}
	}
}

func TestOtherFormsOfSignatures(t *testing.T) {
	key := []byte("key")
	for _, a := range fewAsks() {
		text := askWritten(a)
		sign := signatureFor(key, text)
		mac := impl.HexText(impl.ShaMac(key, []byte(text)))
		for _, c := range []struct {
			sign string
			code int
		}{
			{strings.ToUpper(sign), impl.CodSign}, {mac[16:32], impl.CodSign}, {mac[48:], impl.CodSign}, {sign[8:] + sign[:8], impl.CodSign}, {strings.Repeat("0", 16), impl.CodSign}, {strings.Repeat("\xff", 16), impl.CodSign}, {"&s=&s=&s=&s=&s=&", impl.CodSign},
			{"", impl.CodWords}, {sign[:15], impl.CodWords}, {sign[1:], impl.CodWords}, {sign[:8], impl.CodWords}, {sign + "0", impl.CodWords}, {"0" + sign, impl.CodWords}, {mac[:17], impl.CodWords}, {mac, impl.CodWords}, {sign + sign, impl.CodWords},
			{sign + " ", impl.CodWords}, {sign + "\n", impl.CodWords}, {" " + sign, impl.CodWords}, {sign + "&s=" + sign, impl.CodWords}, {"&s=" + sign, impl.CodWords}, {"=" + sign, impl.CodWords},
		} {
			if c.sign == sign {
				continue
			}
			for _, now := range []int{-1, a.Till} {
				wantUrl(t, key, text+"&s="+c.sign, now, impl.UrlAsk{}, c.code)
			}
		}
		for _, mark := range []string{"", "&", "s=", "&s", "&=", "&S=", "?s=", "&e=", "&&s=", "&s==", "&s= ", " &s=", ",", "/&s="} {
			wantUrl(t, key, text+mark+sign, -1, impl.UrlAsk{}, impl.CodWords)
		}
	}
}

// Promise 81: malformed requests are reported before bad signatures.

func TestMalformedUrls(t *testing.T) {
	key := []byte("key")
	for _, text := range badAsks() {
		for _, s := range []string{text, signed(key, text), signed([]byte("kez"), text), text + "&s=0123456789abcdef", text + "&s=" + strings.Repeat("\xff", 16)} {
			for _, now := range []int{-1, 4, 5, 10000} {
				wantUrl(t, key, s, now, impl.UrlAsk{}, impl.CodWords)
			}
		}
	}
}

func TestUrlsWithoutARequest(t *testing.T) {
	for _, key := range urlKeys() {
		sign := signatureFor(key, "")
		for _, s := range []string{"", sign, "&s=" + sign, "=" + sign, "s=" + sign, sign + "&s=", "&s=", "&s", "&", strings.Repeat("a", 15), strings.Repeat("a", 16), strings.Repeat("a", 18), strings.Repeat("a", 19), "&s=" + sign + sign, "&s=" + sign[:15], "-&s=" + signatureFor(key, "-"), "/&s=" + signatureFor(key, "/"), "&s=&s=" + signatureFor(key, "&s=")} {
			for _, now := range append(slices.Clone(farTimes), 0) {
				wantUrl(t, key, s, now, impl.UrlAsk{}, impl.CodWords)
			}
		}
	}
}

func TestRequestsWithoutASignature(t *testing.T) {
	for _, a := range asks() {
		wantUrl(t, []byte("key"), askWritten(a), -1, impl.UrlAsk{}, impl.CodWords)
		wantUrl(t, []byte("key"), askWritten(a)+"&s=", -1, impl.UrlAsk{}, impl.CodWords)
	}
}

func TestLongKeysReadNothing(t *testing.T) {
	for _, key := range longKeys() {
		for _, a := range fewAsks() {
			text := askWritten(a)
			for _, s := range []string{signed(key, text), signed([]byte("key"), text), signed(nil, text), text, "", text + "&s=" + strings.Repeat("0", 16)} {
				for _, now := range []int{-1, a.Till - 1, a.Till} {
					wantUrl(t, key, s, now, impl.UrlAsk{}, impl.CodWords)
				}
			}
		}
	}
}

func TestCodesOfTheDocument(t *testing.T) {
	got := []int{impl.PathMost, impl.UrlTime, impl.UrlTag, impl.CodGood, impl.CodWords, impl.CodSign, impl.CodLarge, impl.CodWhat, impl.CodBroken, impl.CodTokens, impl.CodOrigin, impl.CodBusy, impl.CodLate}
	want := []int{6, 9999, 16, 200, 400, 403, 413, 415, 422, 429, 502, 503, 504}
	if !slices.Equal(got, want) {
		t.Errorf("the constants are %v, not %v", got, want)
	}
}

// The general rules: arguments are not written to, results are new memory, and nothing is kept.

func TestArgumentsOfUrlsStay(t *testing.T) {
	for _, n := range []int{0, 3, 64, 65, 500, 501} {
		key, keyMemory := spare(n, 1)
		keyBefore := bytes.Clone(keyMemory)
		for _, a := range append(fewAsks(), request("cat", 5, slices.Repeat([]impl.OpOp{turn}, 6)...), request("", 5, gray)) {
			ops := append(slices.Clone(a.Ops), gray, size(6, 6), blur, flipX)
			opsBefore := slices.Clone(ops)
			a.Ops = ops[:len(a.Ops)]
			impl.AskOk(a)
			read, _ := impl.AskRead(impl.AskText(a))
			other, _ := impl.UrlRead(key, impl.UrlText(key, a), -1)
			clear(read.Ops[:cap(read.Ops)])
			clear(other.Ops[:cap(other.Ops)])
			if !bytes.Equal(keyMemory, keyBefore) || !slices.Equal(ops, opsBefore) {
				t.Errorf("an argument is written to, for %v and a key of %d bytes", a, n)
			}
		}
	}
}

func TestResultsOfUrlsAreNew(t *testing.T) {
	key := []byte("key")
	for _, a := range fewAsks() {
		text, url := impl.AskText(a), impl.UrlText(key, a)
		first, _ := impl.AskRead(text)
		second, _ := impl.UrlRead(key, url, -1)
		for range 2 {
			third, _ := impl.AskRead(text)
			fourth, _ := impl.UrlRead(key, url, -1)
			clear(third.Ops[:cap(third.Ops)])
			clear(fourth.Ops[:cap(fourth.Ops)])
		}
		if !sameAsk(first, a) || !sameAsk(second, a) {
			t.Errorf("writing to a result changes others: %v and %v are not %v", first, second, a)
		}
		if impl.AskText(a) != text || impl.UrlText(key, a) != url {
			t.Errorf("%v is written otherwise the second time", a)
		}
	}
}

// A refused text leaves nothing behind that the next one would see.
func TestRefusedTextsLeaveNothing(t *testing.T) {
	key := []byte("key")
	for _, a := range fewAsks() {
		for _, s := range []string{"", "/turn,/cat?e=5", "/turn/cat?e=5&s=0123456789abcdef"} {
			if got, _ := impl.AskRead(s); !zeroAsk(got) {
				t.Fatalf("%q is read as %v", s, got)
			}
			wantAsk(t, impl.AskText(a), a, true)
			if got, _ := impl.UrlRead(key, s, 0); !zeroAsk(got) {
				t.Fatalf("%q is read as %v", s, got)
			}
			wantUrl(t, key, impl.UrlText(key, a), -1, a, impl.CodGood)
		}
	}
}
