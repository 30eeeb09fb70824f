package tests

import (
	"fmt"
	"iter"
	"math"
	"math/big"
	"math/rand/v2"
	"regexp"
	"slices"
	"strconv"
	"strings"
	"testing"

	"loop.example/g00717/impl"
)

func plainText(a impl.Act) string {
	numbers := []int{a.R, a.N, len(a.Dep)}
	numbers = append(numbers, a.Dep...)
	numbers = append(numbers, a.Actor, a.Kind, a.To, a.Bucket, a.Mask, a.GR, a.GN)
	numbers = append(numbers, len(a.Ups))
	for _, u := range a.Ups {
		numbers = append(numbers, u.Kind, u.Bucket, u.Key, u.Val)
	}
	return strings.Trim(fmt.Sprint(numbers), "[]")
}

var plainNumber = regexp.MustCompile(`\A(0|-?[1-9][0-9]*)\z`)

// plainRead takes a text apart word by word, where impl writes it once more.
func plainRead(s string, n int) (impl.Act, bool) {
	var numbers []int
	for _, word := range strings.Split(s, " ") {
		number, err := strconv.Atoi(word)
		if err != nil || !plainNumber.MatchString(word) {
			return impl.Act{}, false
		}
		numbers = append(numbers, number)
	}
	if len(s) > 400 || n < 1 || n > 4 || len(numbers) < 11+n || numbers[2] != n {
		return impl.Act{}, false
	}
	x, ups := numbers[3+n:10+n], numbers[11+n:]
	if count := numbers[10+n]; count < 0 || count > 5 || len(ups) != 4*count {
		return impl.Act{}, false
	}
	a := impl.Act{R: numbers[0], N: numbers[1], Dep: numbers[3 : 3+n], Actor: x[0], Kind: x[1], To: x[2], Bucket: x[3], Mask: x[4], GR: x[5], GN: x[6]}
	for u := range slices.Chunk(ups, 4) {
		a.Ups = append(a.Ups, impl.Up{Kind: u[0], Bucket: u[1], Key: u[2], Val: u[3]})
	}
	if !plainActOk(a, n) {
		return impl.Act{}, false
	}
	return a, true
}

// plainMark takes the rest once, at the end.
func plainMark(s string) int {
	m := big.NewInt(7)
	for _, b := range []byte(s) {
		m.Mul(m, big.NewInt(263))
		m.Add(m, big.NewInt(int64(b)+1))
	}
	return int(m.Mod(m, big.NewInt(1000003)).Int64())
}

// markedText is the line that a text has, whatever it says.
func markedText(s string) string {
	return fmt.Sprintf("%s %d\n", s, plainMark(s))
}

func plainLog(l []impl.Act) string {
	log := ""
	for _, a := range l {
		log += markedText(plainText(a))
	}
	return log
}

func plainRecover(s string, n int) ([]impl.Act, int) {
	var read []impl.Act
	length := 0
	for {
		line, _, isWhole := strings.Cut(s[length:], "\n")
		words := strings.Split(line, " ")
		text := strings.Join(words[:len(words)-1], " ")
		a, ok := plainRead(text, n)
		if !isWhole || !ok || line+"\n" != markedText(text) {
			return read, length
		}
		more, taken := plainAdd(read, n, a)
		if !taken {
			return read, length
		}
		read, length = more, length+len(line)+1
	}
}

func checkText(t *testing.T, a impl.Act, want string) {
	t.Helper()
	g := guardAct(a)
	if got := impl.ActText(g.act); got != want {
		t.Fatalf("ActText(%+v): %q, not %q", a, got, want)
	}
	if got := impl.LineOf(g.act); got != markedText(want) {
		t.Fatalf("LineOf(%+v): %q, not %q", a, got, markedText(want))
	}
	g.check(t, "ActText, LineOf")
}

func checkLog(t *testing.T, l []impl.Act, want string) {
	t.Helper()
	g := guardActs(l)
	if got := impl.LogText(g.list); got != want {
		t.Fatalf("LogText(%+v): %q, not %q", l, got, want)
	}
	g.check(t, "LogText")
}

func checkMark(t *testing.T, s string, want int) {
	t.Helper()
	if got := impl.Mark(s); got != want {
		t.Fatalf("Mark(%q): %d, not %d", s, got, want)
	}
}

func checkRead(t *testing.T, s string, n int, want impl.Act, wantOk bool) {
	t.Helper()
	checkActs(t, "ReadAct", []impl.Act{want}, func() []impl.Act {
		a, ok := impl.ReadAct(s, n)
		if ok != wantOk {
			t.Fatalf("ReadAct(%q, %d): %v", s, n, ok)
		}
		return []impl.Act{a}
	})
}

// checkUnread asks of a text that no good act has.
func checkUnread(t *testing.T, s string, n int) {
	t.Helper()
	checkRead(t, s, n, impl.Act{}, false)
}

func checkRecover(t *testing.T, s string, n int, want []impl.Act, wantLength int) {
	t.Helper()
	checkActs(t, "Recover", want, func() []impl.Act {
		l, length := impl.Recover(s, n)
		if length != wantLength {
			t.Fatalf("Recover(%q, %d): %d bytes, not %d", s, n, length, wantLength)
		}
		return l
	})
}

// checkRecovered asks of a log of which so many acts of l come back.
func checkRecovered(t *testing.T, s string, n int, l []impl.Act) {
	t.Helper()
	checkRecover(t, s, n, l, len(plainLog(l)))
}

// numberOfPlaces is for acts that are good.
func numberOfPlaces(a impl.Act) int { return len(a.Dep) }

// longestAct is good, and no good act has a longer text.
func longestAct() impl.Act {
	u := impl.Up{Kind: 4, Bucket: 2, Key: 3, Val: math.MinInt}
	return impl.Act{R: 3, N: top, Dep: []int{top, top, top, top - 1}, Actor: 5, Kind: impl.KdTxn, Ups: []impl.Up{u, u, u, u, u}}
}

// goodActs are acts of each kind, with ups and without, at limits and within.
func goodActs() []impl.Act {
	acts := append(oneOfEach(), longestAct())
	for n := 1; n <= impl.MaxPlaces; n++ {
		for r := range n {
			first := impl.Act{R: r, N: 1, Dep: make([]int, n), Kind: impl.KdTxn}
			last := impl.Act{R: r, N: top, Dep: make([]int, n), Actor: 5, Kind: impl.KdGrant, To: 5, Bucket: 2, Mask: 15}
			last.Dep[r] = top - 1
			limit := impl.Act{R: r, N: 1, Dep: make([]int, n), Kind: impl.KdCeil, Mask: 15}
			back := impl.Act{R: r, N: 2, Dep: make([]int, n), Actor: 1, Kind: impl.KdRevoke, GR: r, GN: 1}
			back.Dep[r] = 1
			acts = append(acts, first, last, limit, back)
		}
	}
	for count := range impl.MaxUps + 1 {
		for _, val := range []int{0, 1, -1, 10, -10, math.MaxInt, math.MinInt, math.MinInt + 1} {
			a := aTxn()
			a.Ups = slices.Repeat([]impl.Up{at(2, 3, toIns(val))}, count)
			acts = append(acts, a)
		}
	}
	return acts
}

func TestLineLimit(t *testing.T) {
	if impl.MaxLine != 400 {
		t.Fatal(impl.MaxLine)
	}
}

func TestTextByHand(t *testing.T) {
	numbered := impl.Act{R: 1, N: 2, Dep: []int{3, 4}, Actor: 5, Kind: 6, To: 7, Bucket: 8, Mask: 9, GR: 10, GN: 11}
	numbered.Ups = []impl.Up{{Kind: 12, Bucket: 13, Key: 14, Val: 15}, {Kind: 16, Bucket: 17, Key: 18, Val: 19}}
	for _, c := range []struct {
		act  impl.Act
		want string
	}{
		{impl.Act{}, "0 0 0 0 0 0 0 0 0 0 0"},
		{impl.Act{Dep: []int{}, Ups: []impl.Up{}}, "0 0 0 0 0 0 0 0 0 0 0"},
		{aGrant(), "1 3 3 4 2 7 2 1 4 1 9 0 0 0"},
		{aRevoke(), "1 3 3 4 2 7 3 2 0 0 0 2 5 0"},
		{aCeiling(), "1 3 3 4 2 7 0 3 0 2 6 0 0 0"},
		{aTxn(), "1 3 3 4 2 7 5 4 0 0 0 0 0 4 1 0 1 8 2 1 2 -3 3 2 3 0 4 0 0 8"},
		{impl.Act{N: 1, Dep: []int{0}, Kind: impl.KdTxn}, "0 1 1 0 0 4 0 0 0 0 0 0"},
		{longestAct(), "3 100000 4 100000 100000 100000 99999 5 4 0 0 0 0 0 5" + strings.Repeat(" 4 2 3 -9223372036854775808", 5)},

		{numbered, "1 2 2 3 4 5 6 7 8 9 10 11 2 12 13 14 15 16 17 18 19"},
		{impl.Act{Dep: []int{7}}, "0 0 1 7 0 0 0 0 0 0 0 0"},
		{impl.Act{Ups: []impl.Up{{}}}, "0 0 0 0 0 0 0 0 0 0 1 0 0 0 0"},
		{impl.Act{Kind: 5}, "0 0 0 0 5 0 0 0 0 0 0"},
		{impl.Act{Kind: -4, Dep: []int{-1, 10}}, "0 0 2 -1 10 0 -4 0 0 0 0 0 0"},
		{impl.Act{R: math.MinInt, N: math.MaxInt}, "-9223372036854775808 9223372036854775807 0 0 0 0 0 0 0 0 0"},
	} {
		if plainText(c.act) != c.want {
			t.Fatal("the plain function has another text", plainText(c.act), c.want)
		}
		checkText(t, c.act, c.want)
	}
}

// TestTextAtEnds sets one number of an act: that one word of its text changes.
func TestTextAtEnds(t *testing.T) {
	base := aTxn()
	words := strings.Fields("1 3 3 4 2 7 5 4 0 0 0 0 0 4 1 0 1 8 2 1 2 -3 3 2 3 0 4 0 0 8")
	places := map[string]int{"R": 0, "N": 1, "Actor": 6, "Kind": 7, "To": 8, "Bucket": 9, "Mask": 10, "GR": 11, "GN": 12}
	ends := map[int]string{
		0: "0", 1: "1", -1: "-1", 9: "9", 10: "10", -10: "-10", 100: "100", top: "100000", top + 1: "100001", 1000003: "1000003",
		math.MaxInt: "9223372036854775807", math.MinInt: "-9223372036854775808", math.MinInt + 1: "-9223372036854775807",
		math.MaxInt32: "2147483647", math.MaxInt32 + 1: "2147483648", math.MinInt32: "-2147483648", math.MinInt32 - 1: "-2147483649",
	}
	check := func(place int, field func(a *impl.Act) *int) {
		t.Helper()
		for number, word := range ends {
			a := copyAct(base)
			*field(&a) = number
			want := slices.Clone(words)
			want[place] = word
			checkText(t, a, strings.Join(want, " "))
		}
	}
	for _, f := range numberFields {
		check(places[f.name], f.of)
	}
	for i := range base.Dep {
		check(3+i, func(a *impl.Act) *int { return &a.Dep[i] })
	}
	for i := range base.Ups {
		check(14+4*i, func(a *impl.Act) *int { return &a.Ups[i].Kind })
		check(15+4*i, func(a *impl.Act) *int { return &a.Ups[i].Bucket })
		check(16+4*i, func(a *impl.Act) *int { return &a.Ups[i].Key })
		check(17+4*i, func(a *impl.Act) *int { return &a.Ups[i].Val })
	}
}

func TestTextOfManyNumbers(t *testing.T) {
	for _, count := range []int{0, 1, 2, 4, 5, 6, 9, 10, 11, 99, 100, 1000} {
		zeros := strings.Repeat(" 0", count)
		checkText(t, impl.Act{Dep: make([]int, count)}, fmt.Sprintf("0 0 %d%s 0 0 0 0 0 0 0 0", count, zeros))
		ups := slices.Repeat([]impl.Up{{Kind: 1, Bucket: 2, Key: 3, Val: -4}}, count)
		checkText(t, impl.Act{Ups: ups}, fmt.Sprintf("0 0 0 0 0 0 0 0 0 0 %d%s", count, strings.Repeat(" 1 2 3 -4", count)))
	}
}

// TestTextsDiffer: unlike acts have unlike texts, good or not.
func TestTextsDiffer(t *testing.T) {
	acts := []impl.Act{{}, {Dep: []int{0}}, {Dep: []int{0, 0}}, {Ups: []impl.Up{{}}}, {Dep: []int{0, 0, 0, 0}}, {Dep: []int{1, 0}}, {Dep: []int{0, 1}}}
	acts = append(acts, impl.Act{R: 1, N: 1}, impl.Act{R: 11}, impl.Act{N: 11}, impl.Act{R: 1}, impl.Act{R: -1}, impl.Act{N: 1})
	for _, a := range goodActs() {
		acts = append(acts, a)
		acts = append(acts, changes(a)...)
	}
	texts, lines := map[string]impl.Act{}, map[string]impl.Act{}
	for _, a := range acts {
		text, line := impl.ActText(a), impl.LineOf(a)
		if b, is := texts[text]; is && !impl.SameAct(a, b) {
			t.Fatal("unlike acts of one text", a, b, text)
		}
		if b, is := lines[line]; is && !impl.SameAct(a, b) {
			t.Fatal("unlike acts of one line", a, b, line)
		}
		texts[text], lines[line] = a, a
		checkText(t, a, plainText(a))
	}
	if len(texts) < 1500 || len(lines) != len(texts) {
		t.Fatal("this says little", len(texts), len(lines))
	}
}

func TestLogText(t *testing.T) {
	checkLog(t, nil, "")
	checkLog(t, []impl.Act{}, "")
	checkLog(t, []impl.Act{{}}, "0 0 0 0 0 0 0 0 0 0 0 "+strconv.Itoa(plainMark("0 0 0 0 0 0 0 0 0 0 0"))+"\n")
	var all []impl.Act
	log := ""
	for k, a := range goodActs() {
		bad := impl.Act{R: -k, Kind: k, Dep: make([]int, k), Mask: math.MinInt + k}
		all = append(all, a, bad, a)
		log += impl.LineOf(a) + impl.LineOf(bad) + impl.LineOf(a)
		checkLog(t, all[len(all)-3:], plainLog(all[len(all)-3:]))
	}
	checkLog(t, all, log)
	if strings.Count(log, "\n") != len(all) || len(all) < 3*impl.MaxActs {
		t.Fatal("this says little", len(all))
	}
	for n := 1; n <= impl.MaxPlaces; n++ {
		l := history(n, 20, 1)
		checkLog(t, l, plainLog(l))
	}
}

func TestMarkByHand(t *testing.T) {
	for _, c := range []struct {
		s    string
		want int
	}{
		{"", 7}, {"\x00", 1842}, {"\x01", 1843}, {"0", 1890}, {"a", 1939}, {"\x7f", 1969}, {"\x80", 1970}, {"\xff", 2097},
		{" ", 1874}, {"\n", 1852}, {"aa", 1939*263 + 98}, {"\x00\x00", 1842*263 + 1}, {"\xff\xff", 2097*263 + 256},
		{"ab", 1939*263 + 99}, {"ba", 1940*263 + 98},
		{"aaa", ((1939*263+98)*263 + 98) % 1000003},
	} {
		if plainMark(c.s) != c.want {
			t.Fatal("the plain function has another mark", c.s, plainMark(c.s))
		}
		checkMark(t, c.s, c.want)
	}
}

// TestMarkGoesByBytes: also where they are no characters, and where characters
// have more than one.
func TestMarkGoesByBytes(t *testing.T) {
	for b := range 256 {
		checkMark(t, string([]byte{byte(b)}), 7*263+b+1)
		for c := range 256 {
			s := string([]byte{byte(b), byte(c)})
			checkMark(t, s, ((7*263+b+1)*263+c+1)%1000003)
		}
	}
	for _, s := range []string{"é", "\xc3\xa9", "\xa9\xc3", "€uro", "0 1 ٣", "\U0001F600", "\xf0\x9f\x98", "\xed\xa0\x80", "\ufffd", "\xef\xbf\xbd", "a\xffb", "\xff\xfe\xfd", "\xc0\x80", "\u2028", "\u00a0"} {
		checkMark(t, s, plainMark(s))
		checkMark(t, s+s+"0", plainMark(s+s+"0"))
	}
	if impl.Mark("\xff") == impl.Mark("\xfe") || impl.Mark("\xff") == impl.Mark("\ufffd") || impl.Mark("é") == impl.Mark("e") {
		t.Fatal("bytes that are no characters are taken for one another")
	}
	rnd := rand.New(rand.NewPCG(10, 7))
	for length := range 600 {
		var s []byte
		for range length {
			s = append(s, byte(rnd.IntN(256)))
		}
		checkMark(t, string(s), plainMark(string(s)))
	}
	// the mark of a long text, put together from those of its parts
	m := 7
	for range 1000 {
		for b := range 256 {
			m = (m*263 + b + 1) % 1000003
		}
	}
	var long []byte
	for b := range 256 {
		long = append(long, byte(b))
	}
	checkMark(t, strings.Repeat(string(long), 1000), m)
}

// TestMarkTellsOneByte: no one byte can change without the mark.
func TestMarkTellsOneByte(t *testing.T) {
	text := plainText(aTxn())
	for i := range text {
		for b := range 256 {
			other := text[:i] + string([]byte{byte(b)}) + text[i+1:]
			if (impl.Mark(other) == impl.Mark(text)) != (other == text) {
				t.Fatal("one mark", text, other)
			}
		}
	}
}

func TestLineByHand(t *testing.T) {
	for _, c := range []struct {
		act  impl.Act
		want string
	}{
		{impl.Act{}, "0 0 0 0 0 0 0 0 0 0 0 580768\n"},
		{aGrant(), "1 3 3 4 2 7 2 1 4 1 9 0 0 0 394840\n"},
		{aTxn(), "1 3 3 4 2 7 5 4 0 0 0 0 0 4 1 0 1 8 2 1 2 -3 3 2 3 0 4 0 0 8 364125\n"},
	} {
		if got := impl.LineOf(c.act); got != c.want {
			t.Fatalf("LineOf(%+v): %q", c.act, got)
		}
	}
}

// TestReadBack: an act comes back from its text where it is good, and nowhere else.
func TestReadBack(t *testing.T) {
	acts := goodActs()
	for n := 1; n <= impl.MaxPlaces; n++ {
		acts = append(acts, history(n, 40, 2)...)
	}
	for _, a := range acts {
		text := plainText(a)
		for n := -1; n <= impl.MaxPlaces+2; n++ {
			if n == numberOfPlaces(a) {
				checkRead(t, text, n, a, true)
			} else {
				checkUnread(t, text, n)
			}
		}
		checkUnread(t, text, math.MinInt)
		checkUnread(t, text, math.MaxInt)
		checkUnread(t, impl.LineOf(a), numberOfPlaces(a))
		checkUnread(t, text+"\n", numberOfPlaces(a))
		if b, ok := plainRead(text, numberOfPlaces(a)); !ok || !impl.SameAct(a, b) {
			t.Fatal("the plain function reads another act", b)
		}
	}
	if len(acts) < 200 {
		t.Fatal("this says little", len(acts))
	}
}

// TestReadUnfit: the text of an act that is not good is nobody's.
func TestReadUnfit(t *testing.T) {
	good, bad := 0, 0
	for _, a := range goodActs() {
		n := numberOfPlaces(a)
		for _, b := range append(changes(a), impl.Act{}, impl.Act{Dep: a.Dep}) {
			if plainActOk(b, n) {
				checkRead(t, plainText(b), n, b, true)
				good++
			} else {
				checkUnread(t, plainText(b), n)
				bad++
			}
		}
	}
	if good < 200 || bad < 1000 {
		t.Fatal("this says little", good, bad)
	}
	for _, f := range numberFields {
		for _, number := range []int{math.MinInt, math.MaxInt, -1, 100, top + 1} {
			for _, a := range oneOfEach() {
				*f.of(&a) = number
				checkUnread(t, plainText(a), 3)
			}
		}
	}
	for _, a := range []impl.Act{aTxn(), longestAct()} {
		n := numberOfPlaces(a)
		for count := range 40 {
			a.Ups = slices.Repeat([]impl.Up{toSet(5)}, count)
			checkRead(t, plainText(a), n, map[bool]impl.Act{true: a}[count <= impl.MaxUps], count <= impl.MaxUps)
		}
	}
	for count := range 40 {
		a := impl.Act{N: 1, Dep: make([]int, count), Kind: impl.KdTxn}
		for n := range impl.MaxPlaces + 2 {
			isGood := n == count && n >= 1 && n <= impl.MaxPlaces
			checkRead(t, plainText(a), n, map[bool]impl.Act{true: a}[isGood], isGood)
		}
	}
}

// TestReadLongest: the longest text of all that are good is well within MaxLine.
func TestReadLongest(t *testing.T) {
	text := plainText(longestAct())
	if len(text) != 188 {
		t.Fatal(len(text))
	}
	checkRead(t, text, 4, longestAct(), true)
	for _, s := range []string{text + " ", text + "0", text + " 0", " " + text, "0" + text, text[1:], text[:len(text)-1] + "9"} {
		checkUnread(t, s, 4)
	}
	val := longestAct()
	val.Ups[4].Val = -922337203685477580
	checkRead(t, text[:len(text)-1], 4, val, true)
	for _, a := range goodActs() {
		if len(plainText(a)) > len(text) {
			t.Fatal("a longer one", a)
		}
	}
}

// actOfLength gives an act that has too many ups to be good, and a text of that length.
func actOfLength(t *testing.T, length int) impl.Act {
	t.Helper()
	a := writeAll(does(0))[0]
	a.Ups = slices.Repeat([]impl.Up{toSet(1)}, (length-len(plainText(a))-5)/len(" 1 0 0 1"))
	for len(plainText(a)) < length {
		a.Ups[0].Val *= 10
	}
	if len(plainText(a)) != length || len(impl.ActText(a)) != length {
		t.Fatal("another length", a)
	}
	return a
}

// longTexts gives texts of that length: none of a good act, for these are shorter.
func longTexts(t *testing.T, length int) []string {
	t.Helper()
	text := plainText(chain(0, 1, 1)[0])
	fill := func(s string) string { return strings.Repeat(s, length)[:length-len(text)] }
	texts := []string{plainText(actOfLength(t, length)), text + fill(" "), fill(" ") + text, fill("0") + text, text + fill("0"), text + fill(" 0"), fill("0 ") + text, fill("-") + text, text + fill("\n"), text + fill("\x00"), text + fill("\xff")}
	for _, s := range []string{" ", "0", "-", "9", "0 ", "1 ", "-1 ", "\n", "é", "\xff"} {
		texts = append(texts, strings.Repeat(s, length)[:length])
	}
	return texts
}

func TestReadLongTexts(t *testing.T) {
	for _, length := range []int{impl.MaxLine - 1, impl.MaxLine, impl.MaxLine + 1, impl.MaxLine + 2, 2 * impl.MaxLine, 100000} {
		for _, s := range longTexts(t, length) {
			if len(s) != length {
				t.Fatal("another length", len(s), length)
			}
			for n := 1; n <= impl.MaxPlaces; n++ {
				checkUnread(t, s, n)
			}
		}
	}
}

// wrongWords gives words that are not the number, but not far from it: some of
// them come round to it, where numbers wrap.
func wrongWords(number int) []string {
	word := strconv.Itoa(number)
	words := []string{"", "-", "+", "--", "0" + word, "00" + word, "+" + word, "--" + word, "-0" + word, word + "-", word + "+", word + ".", word + ".0", word + "e0", word + "_", "_" + word, word + ",", "0x" + word, "0o" + word, "x", word + "l"}
	for _, space := range []string{" ", "\t", "\n", "\r", "\v", "\f", "\x00", "\u00a0", "\u0085", "\u2003", "\ufeff", "\xff", "\x80"} {
		words = append(words, space+word, word+space)
	}
	bare := strings.TrimPrefix(word, "-")
	for _, zero := range []rune{0x0660, 0x06f0, 0x0966, 0xff10, 0x1d7ce} { // digits of other scripts
		other := ""
		for _, digit := range bare {
			other += string(zero + digit - '0')
		}
		words = append(words, other, "-"+other)
	}
	for _, shift := range []string{"18446744073709551616", "-18446744073709551616", "36893488147419103232", "184467440737095516160", "340282366920938463463374607431768211456"} {
		turn, _ := new(big.Int).SetString(shift, 10)
		words = append(words, turn.Add(turn, big.NewInt(int64(number))).String())
	}
	if number >= 10 || number < 0 && number >= -'0' {
		words = append(words, string(rune('0'+number))) // as if it were a digit
	}
	if number >= 10 {
		words = append(words, fmt.Sprintf("%d%c", number/10-1, '0'+number%10+10))
	}
	if number == 0 {
		words = append(words, "-0")
	}
	return words
}

func TestReadWrongWords(t *testing.T) {
	asked := 0
	for _, a := range append(oneOfEach(), longestAct(), chain(0, 17, 1)[16]) {
		text := plainText(a)
		words := strings.Split(text, " ")
		for i, word := range words {
			number, _ := strconv.Atoi(word)
			for _, wrong := range wrongWords(number) {
				other := slices.Clone(words)
				other[i] = wrong
				checkUnread(t, strings.Join(other, " "), numberOfPlaces(a))
				asked++
			}
			if number > 0 {
				other := slices.Clone(words)
				other[i] = "-" + word
				want, ok := plainRead(strings.Join(other, " "), numberOfPlaces(a))
				checkRead(t, strings.Join(other, " "), numberOfPlaces(a), want, ok)
			}
		}
		checkRead(t, text, numberOfPlaces(a), a, true)
	}
	if asked < 5000 {
		t.Fatal("this says little", asked)
	}
}

// TestReadVals: the one number of a good act that has no limits of its own.
func TestReadVals(t *testing.T) {
	for word, want := range map[string]bool{
		"0": true, "7": true, "-7": true, "10": true, "-10": true, "1000000": true, "-100": true,
		"9223372036854775807": true, "9223372036854775808": false, "9223372036854775817": false, "9223372036854775800": true,
		"-9223372036854775808": true, "-9223372036854775809": false, "-9223372036854775818": false, "-9223372036854775807": true,
		"18446744073709551615": false, "18446744073709551616": false, "18446744073709551623": false, "-18446744073709551623": false,
		"10000000000000000000": false, "-10000000000000000000": false, "99999999999999999999": false, "100000000000000000000000000000000000000": false,
		"-0": false, "00": false, "07": false, "-07": false, "+7": false, "- 7": false, "7-": false, "-": false, "": false, "--7": false, "7-7": false, "-7-": false, " 7": false, "7 ": false,
	} {
		a := aTxn()
		a.Ups = []impl.Up{toSet(0), toAdd(0)}
		for place := range a.Ups {
			vals := []string{"0", "0"}
			vals[place] = word
			s := fmt.Sprintf("1 3 3 4 2 7 5 4 0 0 0 0 0 2 1 0 0 %s 2 0 0 %s", vals[0], vals[1])
			b := impl.Act{}
			if want {
				b = copyAct(a)
				b.Ups[place].Val, _ = strconv.Atoi(word)
			}
			checkRead(t, s, 3, b, want)
		}
	}
}

// TestReadOtherCounts: one number too many or too few, and counts of the lists
// that are not those of what follows.
func TestReadOtherCounts(t *testing.T) {
	counts := []int{math.MinInt, math.MinInt + 1, -100, -3, -2, -1, 0, 1, 2, 3, 4, 5, 6, 7, 8, 16, 100, math.MaxInt32, 1 << 32, 1<<32 + 3, 1 << 62, math.MaxInt - 1, math.MaxInt}
	inTime(t, func() {
		for _, a := range goodActs() {
			n := numberOfPlaces(a)
			words := strings.Split(plainText(a), " ")
			for i, word := range words {
				checkUnread(t, strings.Join(slices.Delete(slices.Clone(words), i, i+1), " "), n)
				checkUnread(t, strings.Join(slices.Insert(slices.Clone(words), i, word), " "), n)
				checkUnread(t, strings.Join(words[:i], " "), n)
				checkUnread(t, strings.Join(words[i+1:], " "), n)
			}
			checkUnread(t, strings.Join(words, " ")+" 0", n)
			checkUnread(t, strings.Join(slices.Repeat(words, 2), " "), n)
			for _, place := range []int{2, 10 + n} {
				for _, count := range counts {
					other := slices.Clone(words)
					if other[place] = strconv.Itoa(count); other[place] != words[place] {
						checkUnread(t, strings.Join(other, " "), n)
					}
				}
			}
		}
	})
}

// TestReadTexts that are far from being any act's.
func TestReadTexts(t *testing.T) {
	var zeros []string
	for count := range 60 {
		zeros = append(zeros, strings.TrimSpace(strings.Repeat("0 ", count)), strings.Repeat(" ", count), strings.TrimSpace(strings.Repeat("1 ", count)))
	}
	for n := -1; n <= impl.MaxPlaces+1; n++ {
		for _, s := range append(zeros, "", "-", "--", "+", "a", "\x00", "\xff", "é", "null", "{}", "0 1", "-1", "9223372036854775808", "\n", "0\n", "- - - - - - - - - - - -") {
			checkUnread(t, s, n)
		}
		for b := range 256 {
			checkUnread(t, string([]byte{byte(b)}), n)
			checkUnread(t, strings.Repeat(string([]byte{byte(b)}), 12), n)
		}
	}
}

// spoiledTexts gives each text that has one of the bytes more than s, one byte
// less, or one of the bytes instead of another.
func spoiledTexts(s string, bytes []byte) iter.Seq[string] {
	return func(yield func(string) bool) {
		for i := range len(s) + 1 {
			behind := s[min(i+1, len(s)):]
			texts := []string{s[:i] + behind}
			for _, b := range bytes {
				here := s[:i] + string([]byte{b})
				texts = append(texts, here+s[i:], here+behind)
			}
			for _, text := range texts {
				if text != s && !yield(text) {
					return
				}
			}
		}
	}
}

func allBytes() []byte {
	var bytes []byte
	for b := range 256 {
		bytes = append(bytes, byte(b))
	}
	return bytes
}

func TestReadSpoiledTexts(t *testing.T) {
	asked, good := 0, 0
	for _, a := range append(oneOfEach(), chain(0, 17, 1)[16]) {
		n := numberOfPlaces(a)
		for s := range spoiledTexts(plainText(a), allBytes()) {
			want, wantOk := plainRead(s, n)
			if got, ok := impl.ReadAct(s, n); ok != wantOk || !impl.SameAct(got, want) {
				t.Fatalf("ReadAct(%q, %d): %+v, %v", s, n, got, ok)
			}
			asked++
			if wantOk {
				good++
			}
		}
	}
	if asked < 50000 || good < 50 {
		t.Fatal("this says little", asked, good)
	}
}

// recoverStory is a log of acts of each kind, some of which stand beside others.
func recoverStory() []impl.Act {
	d := newDiary(2)
	grant := d.write(0, gives(0, 1, 0, allRights))
	d.write(1, limits(0, 1, read))
	d.hear(1, 0)
	d.write(1, does(1, toSet(-5), toAdd(math.MinInt)))
	d.write(0, does(0))
	d.hear(0, 1)
	d.write(0, takes(0, grant))
	return d.list()
}

func TestRecoverByHand(t *testing.T) {
	l := recoverStory()
	log := plainLog(l)
	checkRecover(t, log, 2, l, len(log))
	for count := range len(l) + 1 {
		checkRecovered(t, plainLog(l[:count]), 2, l[:count])
	}
	for n := 1; n <= impl.MaxPlaces; n++ {
		for _, s := range []string{"", "\n", "\n\n", " \n", " 7\n", "7\n", "0 7\n", " ", "0", "\x00", "\xff\n", "\n" + log} {
			checkRecover(t, s, n, nil, 0)
		}
		for r := range n {
			l := chain(r, 3, n)
			checkRecovered(t, plainLog(l), n, l)
		}
	}
	for _, n := range []int{math.MinInt, -2, -1, 0, 1, 3, 4, impl.MaxPlaces + 1, impl.MaxPlaces + 2, math.MaxInt} {
		checkRecover(t, log, n, nil, 0)
		checkRecover(t, "", n, nil, 0)
	}
	// lines of acts that would be good for as many places as no n has
	for _, count := range []int{0, impl.MaxPlaces + 1} {
		line := markedText(plainText(impl.Act{N: 1, Dep: make([]int, count), Kind: impl.KdTxn}))
		for n := range impl.MaxPlaces + 3 {
			checkRecover(t, line, n, nil, 0)
		}
	}
}

// TestRecoverCutOff cuts a log off at each of its bytes.
func TestRecoverCutOff(t *testing.T) {
	for n := 1; n <= impl.MaxPlaces; n++ {
		l := history(n, 12, 1)
		log := plainLog(l)
		whole := 0
		for i := range len(log) + 1 {
			if i == len(plainLog(l[:whole+1])) {
				whole++
			}
			checkRecovered(t, log[:i], n, l[:whole])
			whole = min(whole, len(l)-1)
		}
		if len(log) < 400 {
			t.Fatal("this says little", len(log))
		}
	}
}

// TestRecoverSpoiled: the lines ahead of the first one that is not right come back.
func TestRecoverSpoiled(t *testing.T) {
	l := recoverStory()[:4]
	log := plainLog(l)
	var ends []int
	for count := range len(l) + 1 {
		ends = append(ends, len(plainLog(l[:count])))
	}
	back := map[int]int{}
	for s := range spoiledTexts(log, allBytes()) {
		whole := 0
		for whole < len(l) && strings.HasPrefix(s, log[:ends[whole+1]]) {
			whole++
		}
		got, length := impl.Recover(s, 2)
		if length != ends[whole] || !sameActs(got, l[:whole]) {
			t.Fatalf("Recover(%q): %+v, %d", s, got, length)
		}
		back[whole]++
	}
	for whole := range len(l) {
		if back[whole] < 10000 {
			t.Fatal("this says little", back)
		}
	}
}

// TestRecoverSpoiledAgainstThePlainOne asks for all of the answer again, with
// fewer bytes.
func TestRecoverSpoiledAgainstThePlainOne(t *testing.T) {
	l := recoverStory()
	for s := range spoiledTexts(plainLog(l), []byte("\x00\n\r -09\x80\xff")) {
		want, length := plainRecover(s, 2)
		checkRecover(t, s, 2, want, length)
	}
}

// TestRecoverWrongLines has a line that is not right behind so many good ones,
// and good ones behind it.
func TestRecoverWrongLines(t *testing.T) {
	l := recoverStory()
	for k, a := range l {
		text := plainText(a)
		mark := plainMark(text)
		wrong := []string{
			"\n", text + "\n", text + " \n", fmt.Sprintf("%s %d", text, mark), fmt.Sprintf("%s %d\r\n", text, mark),
			fmt.Sprintf("%s 0%d\n", text, mark), fmt.Sprintf("%s +%d\n", text, mark), fmt.Sprintf("%s -%d\n", text, mark), fmt.Sprintf("%s %d \n", text, mark), fmt.Sprintf("%s  %d\n", text, mark), fmt.Sprintf(" %s %d\n", text, mark),
			fmt.Sprintf("%s%d\n", text, mark), fmt.Sprintf("%s\t%d\n", text, mark), fmt.Sprintf("%s %d\x00\n", text, mark), fmt.Sprintf("%s %x\n", text, mark+1000003), fmt.Sprintf("%d %s\n", mark, text), fmt.Sprintf("%d\n", mark), fmt.Sprintf(" %d\n", mark),
			fmt.Sprintf("%s %d %d\n", text, mark, plainMark(fmt.Sprintf("%s %d", text, mark))),
			fmt.Sprintf("%s %d\n", text, plainMark(text+" ")), fmt.Sprintf("%s %d\n", text, plainMark(text+"\n")),
			markedText(" " + text), markedText(text + " "), markedText("0" + text), markedText("+" + text), markedText(text + " 0"), markedText(text + "\r"), markedText(""), markedText("0"),
			markedText(strings.Replace(text, " ", "  ", 1)), markedText(strings.Replace(text, " ", "\n", 1)), markedText(strings.Replace(text, " ", " 0", 1)),
		}
		for _, other := range []int{0, 7, mark - 1, mark + 1, -mark, mark + 1000003, mark - 1000003, mark * 10, math.MaxInt, math.MinInt} {
			wrong = append(wrong, fmt.Sprintf("%s %d\n", text, other))
		}
		for _, line := range wrong {
			log := plainLog(l[:k]) + line + plainLog(l[k+1:])
			checkRecovered(t, log, 2, l[:k])
			checkRecovered(t, plainLog(l[:k])+line+plainLog(l[k:]), 2, l[:k])
		}
		for _, b := range changes(a) {
			if !plainActOk(b, 2) {
				checkRecovered(t, plainLog(l[:k])+markedText(plainText(b))+plainLog(l[k:]), 2, l[:k])
			}
		}
		for n := 1; n <= impl.MaxPlaces; n++ {
			if n != 2 {
				other := impl.Act{N: 1, Dep: make([]int, n), Kind: impl.KdTxn}
				checkRecovered(t, plainLog(l[:k])+plainLog([]impl.Act{other})+plainLog(l[k:]), 2, l[:k])
			}
		}
	}
}

// TestRecoverLongLines: a line that is too long for any good act, marked as it should be.
func TestRecoverLongLines(t *testing.T) {
	l := recoverStory()
	for k := range len(l) + 1 {
		for _, length := range []int{impl.MaxLine - 7, impl.MaxLine - 1, impl.MaxLine, impl.MaxLine + 1, 3 * impl.MaxLine} {
			for _, s := range longTexts(t, length) {
				checkRecovered(t, plainLog(l[:k])+markedText(s)+plainLog(l[k:]), 2, l[:k])
			}
			checkRecovered(t, plainLog(l[:k])+strings.Repeat("0", length)+"\n"+plainLog(l[k:]), 2, l[:k])
		}
	}
	inTime(t, func() {
		for _, s := range []string{" ", "0", "0 ", "\n", "-", "é"} {
			checkRecovered(t, plainLog(l)+strings.Repeat(s, 1000000), 2, l)
		}
		checkRecovered(t, plainLog(l)+strings.Repeat(plainLog(l), 10000), 2, l)
	})
}

// TestRecoverOtherLines has whole lines left out, twice there, or in another order:
// as long as AddAct takes them, they come back.
func TestRecoverOtherLines(t *testing.T) {
	a1, b1, a2, b2, a3 := twoPlaces()
	other := act(0, 1, 0, 0)
	other.Mask = 1
	for _, c := range []struct {
		what   string
		lines  []impl.Act
		taken  int
		places int
	}{
		{"as they stand", []impl.Act{a1, b1, a2, b2, a3}, 5, 2},
		{"the first one left out", []impl.Act{b1, a2, b2, a3}, 1, 2},
		{"the second one left out", []impl.Act{a1, a2, b2, a3}, 2, 2},
		{"the third one left out", []impl.Act{a1, b1, b2, a3}, 3, 2},
		{"the fourth one left out", []impl.Act{a1, b1, a2, a3}, 3, 2},
		{"the last one left out", []impl.Act{a1, b1, a2, b2}, 4, 2},
		{"all of one place", []impl.Act{a1, a2}, 2, 2},
		{"the other place ahead", []impl.Act{b1, a1, b2, a2, a3}, 5, 2},
		{"one place behind the other", []impl.Act{a1, a2, b1, b2, a3}, 5, 2},
		{"the last one first", []impl.Act{a3, a1, b1, a2, b2}, 0, 2},
		{"backwards", []impl.Act{a3, b2, a2, b1, a1}, 0, 2},
		{"a later one of the place too soon", []impl.Act{b1, a2, a1}, 1, 2},
		{"what it knows comes later", []impl.Act{b1, b2, a1}, 1, 2},
		{"the first one twice", []impl.Act{a1, a1, b1}, 1, 2},
		{"the second one twice", []impl.Act{a1, b1, b1, a2}, 2, 2},
		{"twice, but not at once", []impl.Act{a1, b1, a2, a1, b2}, 3, 2},
		{"the last one twice", []impl.Act{a1, b1, a2, b2, a3, a3}, 5, 2},
		{"all of it twice", []impl.Act{a1, b1, a2, a1, b1, a2}, 3, 2},
		{"another act of that name", []impl.Act{a1, b1, other, a2}, 2, 2},
		{"another act of that name first", []impl.Act{other, b1, a1, a2}, 2, 2},
		{"another act of that name, and no more of the first", []impl.Act{other, b1, a2, b2}, 4, 2},
		{"one that knows more than is there", []impl.Act{a1, act(0, 2, 1, 1), b1}, 1, 2},
		{"one that knows a, but not what a knew", []impl.Act{a1, b1, b2, act(0, 2, 1, 2), a2}, 4, 2},
		{"one that knows less than another one knew of it", []impl.Act{act(0, 1, 0, 0, 0), act(1, 1, 1, 0, 0), act(2, 1, 0, 1, 0), act(0, 2, 1, 0, 0)}, 2, 3},
	} {
		t.Run(c.what, func(t *testing.T) {
			log := plainLog(c.lines)
			want := inOrder(c.lines[:c.taken])
			plain, length := plainRecover(log, c.places)
			if length != len(plainLog(c.lines[:c.taken])) || !sameActs(plain, want) {
				t.Fatal("the plain function reads others", plain, length)
			}
			checkRecover(t, log, c.places, want, length)
		})
	}
}

// orders gives all orders of the acts.
func orders(l []impl.Act) [][]impl.Act {
	if len(l) == 0 {
		return [][]impl.Act{nil}
	}
	var all [][]impl.Act
	for k, a := range l {
		for _, rest := range orders(slices.Delete(slices.Clone(l), k, k+1)) {
			all = append(all, append([]impl.Act{a}, rest...))
		}
	}
	return all
}

func TestRecoverInAllOrders(t *testing.T) {
	taken := map[int]int{}
	for _, l := range [][]impl.Act{recoverStory(), history(3, 5, 0), manyActs(5), chain(1, 5, 2)} {
		n := numberOfPlaces(l[0])
		for _, lines := range orders(l) {
			log := plainLog(lines)
			want, length := plainRecover(log, n)
			checkRecover(t, log, n, want, length)
			taken[len(want)]++
		}
	}
	for count := range 6 {
		if taken[count] < 5 && count != 4 {
			t.Fatal("this says little", taken)
		}
	}
}

// TestRecoverMaxActs: MaxActs are read, and not one more.
func TestRecoverMaxActs(t *testing.T) {
	inTime(t, func() {
		for n := 1; n <= impl.MaxPlaces; n++ {
			for _, l := range [][]impl.Act{chain(n-1, impl.MaxActs, n), history(n, impl.MaxActs, 1)} {
				log := plainLog(l)
				checkRecover(t, log, n, l, len(log))
				checkRecovered(t, log[:len(log)-1], n, l[:len(l)-1])
				for place := range n {
					checkRecovered(t, plainLog(append(l, nextOf(l, n, place, does(0)))), n, l)
					most := append(slices.Clone(l[:len(l)-1]), nextAlone(l[:len(l)-1], n, place, gives(0, 0, 0, 0)))
					checkRecovered(t, plainLog(most), n, inOrder(most))
				}
				checkRecovered(t, log+log, n, l)
			}
			checkRecovered(t, plainLog(chain(0, impl.MaxActs+1, n)), n, chain(0, impl.MaxActs, n))
			checkRecovered(t, plainLog(chain(0, 500, n)), n, chain(0, impl.MaxActs, n))
		}
	})
}

// TestRecoverAgainstThePlainOne spoils logs in all ways, more than once.
func TestRecoverAgainstThePlainOne(t *testing.T) {
	rnd := rand.New(rand.NewPCG(10, 31))
	some, none, all := 0, 0, 0
	for turn := range 1500 {
		n := 1 + turn%impl.MaxPlaces
		l := thingStory(rnd, n, 1+turn%12)
		lines := hearing(rnd, l)
		for range rnd.IntN(3) {
			k, m := rnd.IntN(len(lines)), rnd.IntN(len(lines))
			switch rnd.IntN(4) {
			case 0:
				lines[k], lines[m] = lines[m], lines[k]
			case 1:
				lines = slices.Insert(lines, k, lines[m])
			case 2:
				lines = append(slices.Delete(lines, k, k+1), lines[k])
			case 3:
				lines[k] = copyAct(lines[k])
				*numberFields[rnd.IntN(len(numberFields))].of(&lines[k]) += rnd.IntN(3) - 1
			}
		}
		log := plainLog(lines)
		if rnd.IntN(2) == 0 {
			i, b := rnd.IntN(len(log)), string([]byte{"\n -019\xff"[rnd.IntN(7)]})
			log = []string{log[:i], log[:i] + b + log[i:], log[:i] + log[i+1:], log[:i] + b + log[i+1:], log[i:]}[rnd.IntN(5)]
		}
		want, length := plainRecover(log, n)
		checkRecover(t, log, n, want, length)
		switch {
		case length == 0:
			none++
		case length == len(log):
			all++
		default:
			some++
		}
	}
	if none < 100 || some < 300 || all < 200 {
		t.Fatal("this says little", none, some, all)
	}
}

// TestPromise10: acts come back from their lines, in whatever order they were
// heard; cut off anywhere, what was whole comes back, and more can be put behind it.
func TestPromise10(t *testing.T) {
	rnd := rand.New(rand.NewPCG(10, 1))
	lost, negative := 0, 0
	for turn := range 120 {
		n := 1 + turn%impl.MaxPlaces
		story := []func(*rand.Rand, int, int) []impl.Act{randomStory, thingStory}[turn/4%2]
		heard := hearing(rnd, story(rnd, n, 4+turn%24))
		for _, a := range heard {
			checkRead(t, impl.ActText(a), n, a, true)
			negative += strings.Count(impl.ActText(a), "-")
		}
		log := impl.LogText(heard)
		checkRecover(t, log, n, inOrder(heard), len(log))
		for range 10 {
			cut := rnd.IntN(len(log) + 1)
			l, length := impl.Recover(log[:cut], n)
			if length > cut || strings.Contains(log[length:cut], "\n") || !sameActs(l, inOrder(heard[:len(l)])) || impl.LogText(heard[:len(l)]) != log[:length] {
				t.Fatal("something else comes back", log[:cut], l, length)
			}
			lost += len(heard) - len(l)
			behind := log[:length]
			for range 3 {
				a := nextOf(l, n, rnd.IntN(n), gives(0, 1, 0, rnd.IntN(16)))
				behind += impl.LineOf(a)
				l = inOrder(append(slices.Clone(l), a))
			}
			checkRecover(t, behind, n, l, len(behind))
			again := impl.LogText(l)
			checkRecover(t, again, n, l, len(again))
		}
	}
	if lost < 5000 || negative < 500 {
		t.Fatal("this says little", lost, negative)
	}
}
