package zone

import (
	"math"
	"slices"
	"testing"
)

// least and greatest are the ends of Go's ints: what is worked out with them goes round.
const least, greatest = math.MinInt, math.MaxInt

// rests are zones, each with its rest by 4.
var rests = []struct{ zone, rest int }{
	{0, 0}, {1, 1}, {2, 2}, {3, 3},
	{4, 0}, {5, 1}, {6, 2}, {7, 3},
	{-1, 3}, {-2, 2}, {-3, 1}, {-4, 0}, {-5, 3}, {-6, 2}, {-7, 1}, {-8, 0},
	{1 << 40, 0}, {1<<40 + 1, 1}, {-1<<40 - 1, 3},
	{greatest, 3}, {greatest - 1, 2}, {greatest - 2, 1}, {greatest - 3, 0},
	{least, 0}, {least + 1, 1}, {least + 2, 2}, {least + 3, 3},
}

// places are those of the zones 0 to 3, part by part.
var places = [4][2]int{{1, 0}, {0, 1}, {-1, 0}, {0, -1}}

// below is the nought below 0, which no constant gives.
var below = math.Copysign(0, -1)

// wholes are parts that a plain number may have.
var wholes = []float64{0, below, 1, -1, 2, -2, 3, 7, -31, 500, -501, 999, -999, 1000, -1000}

// notWholes are parts that none has.
var notWholes = []float64{
	0.5, -0.5, 1.5, 999.5, -999.5, 1000.5, -1000.5, 1001, -1001, 1002, 1 << 40, -1 << 40, 1 << 63, -1 << 63, 1e300, -1e300,
	math.MaxFloat64, math.SmallestNonzeroFloat64, -math.SmallestNonzeroFloat64,
	math.Nextafter(1000, 1001), math.Nextafter(1000, 0), math.Nextafter(-1000, -1001), math.Nextafter(-1000, 0), math.Nextafter(1, 2),
	math.Inf(1), math.Inf(-1), math.NaN(),
}

// of answers the number of two whole parts.
func of(re, im int) complex128 {
	return complex(float64(re), float64(im))
}

// exactly tells whether a and b are the same, noughts of either sign being two.
func exactly(a, b complex128) bool {
	return a == b && math.Signbit(real(a)) == math.Signbit(real(b)) && math.Signbit(imag(a)) == math.Signbit(imag(b))
}

// pullOf works out the pull of zones, part by part, as whole numbers.
func pullOf(zones []int) (re, im int) {
	for _, z := range zones {
		p := places[z&3]
		re, im = re+p[0], im+p[1]
	}
	return re, im
}

// countsOf works out how many there are of each zone.
func countsOf(zones []int) (many [4]int) {
	for _, z := range zones {
		many[z&3]++
	}
	return many
}

// nextOf works out, by trying each, what Next is to answer.
func nextOf(zones []int) int {
	next, size := 0, greatest
	for z := range 4 {
		re, im := pullOf(append(slices.Clone(zones), z))
		if n := re*re + im*im; n < size {
			next, size = z, n
		}
	}
	return next
}

// rows tells all rows of at most so many zones from 0 to 3; who is told may not keep one.
func rows(long int) func(yield func([]int) bool) {
	return func(yield func([]int) bool) {
		for n := range long + 1 {
			row := make([]int, n)
			for i := range 1 << (2 * n) {
				for at := range row {
					row[at] = i >> (2 * at) & 3
				}
				if !yield(row) {
					return
				}
			}
		}
	}
}

// some answers so many zones of all kinds, some below 0 and some great, of one kind more than of the others.
func some(long int) []int {
	l := make([]int, long)
	for i := range l {
		l[i] = i*i*5/3 - i*7
		if i%3 == 0 {
			l[i] = long%4 - 4*i<<20
		}
	}
	return l
}

// longs are rows of one zone, and of several, about the edge at which no more of them count.
func longs() [][]int {
	var l [][]int
	for _, n := range []int{0, 1, 2, 3, 10, 500, 998, 999, 1000, 1001, 1002, 1003, 1004, 2000, 5000, 100000} {
		l = append(l, some(n))
		for z := -4; z < 8; z++ {
			l = append(l, slices.Repeat([]int{z}, n), append(slices.Repeat([]int{z}, n), some(n)...))
		}
	}
	return l
}

func TestP61At(t *testing.T) {
	for _, x := range rests {
		want := of(places[x.rest][0], places[x.rest][1])
		if z := At(x.zone); !exactly(z, want) {
			t.Errorf("At(%d) = %v, not %v", x.zone, z, want)
		}
	}
	for i, want := range []complex128{1, complex(0, 1), -1, complex(0, -1)} {
		if At(i) != want {
			t.Errorf("At(%d) = %v, not %v", i, At(i), want)
		}
	}
}

func TestP61TurnAndSizeOfPlain(t *testing.T) {
	for _, re := range wholes {
		for _, im := range wholes {
			z, a, b := complex(re, im), int(re), int(im)
			if got := Turn(z); !exactly(got, of(-b, a)) {
				t.Errorf("Turn(%v) = %v, not %v", z, got, of(-b, a))
			}
			if got := Size(z); got != a*a+b*b {
				t.Errorf("Size(%v) = %d, not %d", z, got, a*a+b*b)
			}
		}
	}
	for a := -1000; a <= 1000; a++ {
		for _, b := range []int{-1000, -3, 0, a, -a, 999} {
			if z := of(a, b); Size(z) != a*a+b*b || !exactly(Turn(z), of(-b, a)) {
				t.Fatalf("of %v: Size %d, Turn %v", z, Size(z), Turn(z))
			}
		}
	}
}

func TestP61TurnAndSizeOfNotPlain(t *testing.T) {
	for _, x := range notWholes {
		for _, y := range append(slices.Clone(wholes), notWholes...) {
			for _, z := range []complex128{complex(x, y), complex(y, x)} {
				if got := Turn(z); !exactly(got, 0) {
					t.Errorf("Turn(%v) = %v, not 0", z, got)
				}
				if got := Size(z); got != -1 {
					t.Errorf("Size(%v) = %d, not -1", z, got)
				}
			}
		}
	}
}

func TestP62Examples(t *testing.T) {
	for _, x := range []struct {
		l    []int
		pull complex128
		many [4]int
		next int
	}{
		{nil, 0, [4]int{}, 0},
		{[]int{}, 0, [4]int{}, 0},
		{[]int{0}, 1, [4]int{1, 0, 0, 0}, 2},
		{[]int{1}, 1i, [4]int{0, 1, 0, 0}, 3},
		{[]int{2}, -1, [4]int{0, 0, 1, 0}, 0},
		{[]int{3}, -1i, [4]int{0, 0, 0, 1}, 1},
		{[]int{0, 2}, 0, [4]int{1, 0, 1, 0}, 0},
		{[]int{0, 1}, 1 + 1i, [4]int{1, 1, 0, 0}, 2},
		{[]int{1, 2}, -1 + 1i, [4]int{0, 1, 1, 0}, 0},
		{[]int{2, 3}, -1 - 1i, [4]int{0, 0, 1, 1}, 0},
		{[]int{3, 0}, 1 - 1i, [4]int{1, 0, 0, 1}, 1},
		{[]int{0, 1, 1}, 1 + 2i, [4]int{1, 2, 0, 0}, 3},
		{[]int{4, -1, -5, -9}, 1 - 3i, [4]int{1, 0, 0, 3}, 1},
		{[]int{0, 1, 2, 3}, 0, [4]int{1, 1, 1, 1}, 0},
		{[]int{greatest, least}, 1 - 1i, [4]int{1, 0, 0, 1}, 1},
	} {
		if p, many, next := Pull(x.l...), Counts(x.l...), Next(x.l...); !exactly(p, x.pull) || many != x.many || next != x.next {
			t.Errorf("of %v: Pull %v, Counts %v, Next %d, not %v, %v, %d", x.l, p, many, next, x.pull, x.many, x.next)
		}
	}
}

func TestP62AllShortRows(t *testing.T) {
	for row := range rows(7) {
		re, im := pullOf(row)
		if p := Pull(row...); !exactly(p, of(re, im)) || Size(p) != re*re+im*im {
			t.Fatalf("Pull(%v) = %v, not %v", row, p, of(re, im))
		}
		if many := Counts(row...); many != countsOf(row) {
			t.Fatalf("Counts(%v) = %v, not %v", row, many, countsOf(row))
		}
		if next := Next(row...); next != nextOf(row) {
			t.Fatalf("Next(%v) = %d, not %d", row, next, nextOf(row))
		}
	}
}

func TestP62ZonesCountByTheirRests(t *testing.T) {
	var all []int
	for _, x := range rests {
		all = append(all, x.zone)
		l := []int{x.zone, 1, 1}
		same := []int{x.rest, 1, 1}
		if Pull(l...) != Pull(same...) || Counts(l...) != Counts(same...) || Next(l...) != Next(same...) {
			t.Errorf("%d does not count as %d", x.zone, x.rest)
		}
	}
	if many := Counts(all...); many != countsOf(all) {
		t.Errorf("Counts(%v) = %v", all, many)
	}
}

func TestP62OfLong(t *testing.T) {
	for _, l := range longs() {
		told := l[:min(1000, len(l))]
		re, im := pullOf(told)
		if p := Pull(l...); !exactly(p, of(re, im)) || Size(p) != re*re+im*im {
			t.Errorf("Pull of %d zones = %v, not %v", len(l), p, of(re, im))
		}
		if many := Counts(l...); many != countsOf(told) {
			t.Errorf("Counts of %d zones = %v, not %v", len(l), many, countsOf(told))
		}
		// The document bounds Pull and Counts alone.
		if next := Next(l...); next != nextOf(l) {
			t.Errorf("Next of %d zones = %d, not %d", len(l), next, nextOf(l))
		}
	}
	l := append(slices.Repeat([]int{0}, 1000), slices.Repeat([]int{1}, 3000)...)
	if p, many, next := Pull(l...), Counts(l...), Next(l...); p != 1000 || many != [4]int{1000} || next != 3 {
		t.Errorf("of 4000 zones: Pull %v, Counts %v, Next %d", p, many, next)
	}
}

func TestP62LeavesWhatItIsGiven(t *testing.T) {
	room := some(40)
	was := slices.Clone(room)
	l := room[:30]
	Pull(l...)
	Next(l...)
	many := Counts(l...)
	many[0] = 99
	if !slices.Equal(room, was) || Counts(l...) != countsOf(was[:30]) {
		t.Error("what was handed in is another now:", room)
	}
}

func TestP63TurnedAboutFourTimes(t *testing.T) {
	for _, x := range rests {
		z := At(x.zone)
		for n := range 4 {
			if !exactly(z, At(x.rest+n)) {
				t.Errorf("At(%d), turned %d times, is %v", x.zone, n, z)
			}
			z = Turn(z)
		}
		if !exactly(z, At(x.zone)) {
			t.Errorf("At(%d), turned four times, is %v", x.zone, z)
		}
	}
}

func TestP63ToldByNextAllStandEven(t *testing.T) {
	var l []int
	for range 1100 {
		l = append(l, Next(l...))
		n := countsOf(l)
		re, im := pullOf(l)
		if d := n[0] - n[2]; d < -1 || d > 1 {
			t.Fatalf("behind %d zones there are %v", len(l), n)
		}
		if d := n[1] - n[3]; d < -1 || d > 1 {
			t.Fatalf("behind %d zones there are %v", len(l), n)
		}
		if re*re+im*im > 2 || len(l) <= 1000 && (Size(Pull(l...)) > 2 || Counts(l...) != n) {
			t.Fatalf("behind %d zones the pull is %d, %d", len(l), re, im)
		}
	}
}

func TestP63NextNeverMakesItWorse(t *testing.T) {
	for row := range rows(6) {
		before := Size(Pull(row...))
		after := Size(Pull(append(slices.Clone(row), Next(row...))...))
		if before > 0 && after > before || after < 0 || before == 0 && after != 1 {
			t.Fatalf("behind %v, of size %d, Next leads to %d", row, before, after)
		}
	}
}
