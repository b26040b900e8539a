package construct

import (
	"math"
	"math/rand"
	"testing"

	"talisman/api"
)

// someStep returns a rule with numbers of any permitted size.
func someStep(random *rand.Rand) api.Step {
	number := func() int {
		if random.Intn(2) == 0 {
			return random.Intn(41) - 20
		}
		return random.Intn(2*api.MaxNumber+1) - api.MaxNumber
	}
	return step(random.Intn(16)+1, number(), number(), number(), number(), number(), number())
}

// placeOf computes the place of a number, as the definition says it.
func placeOf(s api.Step, x int) (int, int) {
	a, b := int64((x-1)%s.N), int64((x-1)/s.N)
	var place [2]int64
	for k := range 2 {
		place[k] = (int64(s.Start[k]) + a*int64(s.Next[k]) + b*int64(s.Break[k])) % int64(s.N)
		if place[k] < 0 {
			place[k] += int64(s.N)
		}
	}
	return int(place[0]), int(place[1])
}

func TestCheckStep(t *testing.T) { // P3.1
	const most = api.MaxNumber
	for _, s := range []api.Step{
		step(1, 0, 0, 0, 0, 0, 0), step(16, 0, 0, 0, 0, 0, 0), siameseStep(3),
		step(3, most, most, most, most, most, most), step(16, -most, -most, -most, -most, -most, -most),
	} {
		want(t, "CheckStep", CheckStep(s), api.OK)
	}
	for what, s := range badSteps() {
		want(t, "CheckStep of "+what, CheckStep(s), api.ErrRange)
		i, j, e := Place(s, 1)
		want(t, "Place of "+what, []any{i, j, e}, []any{0, 0, api.ErrRange})
		g, e := Uniform(s)
		wantGrid(t, "Uniform of "+what, g, e, api.Grid{}, api.ErrRange)
	}
}

func TestPlace(t *testing.T) { // P3.1
	for _, row := range []struct {
		s            api.Step
		number, i, j int
		e            api.Errno
	}{
		{siameseStep(3), 1, 0, 1, api.OK}, {siameseStep(3), 2, 2, 2, api.OK}, {siameseStep(3), 4, 2, 0, api.OK}, {siameseStep(3), 9, 2, 1, api.OK},
		{siameseStep(3), 0, 0, 0, api.ErrRange}, {siameseStep(3), 10, 0, 0, api.ErrRange}, {siameseStep(3), -1, 0, 0, api.ErrRange},
		{siameseStep(3), math.MinInt, 0, 0, api.ErrRange}, {siameseStep(3), math.MaxInt, 0, 0, api.ErrRange},
		{step(4, 0, 0, 1, 0, 2, 0), 3, 2, 0, api.OK}, {step(4, 0, 0, 1, 0, 2, 0), 5, 2, 0, api.OK}, // they meet
		{step(5, 0, 0, 1, 2, 2, 1), 2, 1, 2, api.OK}, {step(5, 0, 0, 1, 2, 2, 1), 6, 2, 1, api.OK},
		{step(1, 7, -7, 5, 6, 7, 8), 1, 0, 0, api.OK}, {step(1, 7, -7, 5, 6, 7, 8), 2, 0, 0, api.ErrRange},
		{step(16, -1, -17, 0, 0, 0, 0), 256, 15, 15, api.OK}, {step(16, 0, 0, 0, 1, 1, 0), 257, 0, 0, api.ErrRange},
	} {
		i, j, e := Place(row.s, row.number)
		want(t, "Place", []any{i, j, e}, []any{row.i, row.j, row.e})
	}
	random := rand.New(rand.NewSource(1))
	for range 3000 {
		s := someStep(random)
		x := random.Intn(s.N*s.N) + 1
		i, j, e := Place(s, x)
		wantedI, wantedJ := placeOf(s, x)
		want(t, "Place", []any{i, j, e}, []any{wantedI, wantedJ, api.OK})
	}
}

// squareOf puts all numbers on their cells, and tells whether two of them meet.
func squareOf(s api.Step) (cells []int, meet bool) {
	cells = make([]int, s.N*s.N)
	for x := 1; x <= s.N*s.N; x++ {
		i, j := placeOf(s, x)
		meet = meet || cells[s.N*i+j] > 0
		cells[s.N*i+j] = x
	}
	return cells, meet
}

func TestUniform(t *testing.T) { // P3.1
	g, e := Uniform(siameseStep(3))
	wantGrid(t, "a siamese square", g, e, grid(3, 8, 1, 6, 3, 5, 7, 4, 9, 2), api.OK)
	g, e = Uniform(step(4, 0, 0, 1, 0, 0, 1))
	wantGrid(t, "columns in their order", g, e, grid(4, 1, 5, 9, 13, 2, 6, 10, 14, 3, 7, 11, 15, 4, 8, 12, 16), api.OK)
	g, e = Uniform(step(4, 0, 0, 1, 0, 2, 0))
	wantGrid(t, "numbers that meet", g, e, api.Grid{}, api.ErrSingular)
	g, e = Uniform(step(2, 0, 0, 0, 0, 0, 0))
	wantGrid(t, "no steps", g, e, api.Grid{}, api.ErrSingular)
	g, e = Uniform(step(1, 3, 4, 0, 0, 0, 0))
	wantGrid(t, "the order 1", g, e, grid(1, 1), api.OK)

	random := rand.New(rand.NewSource(2))
	squares := 0
	for range 2000 {
		s := someStep(random)
		g, e := Uniform(s)
		if cells, meet := squareOf(s); meet {
			wantGrid(t, "Uniform", g, e, api.Grid{}, api.ErrSingular)
		} else {
			squares++
			wantGrid(t, "Uniform", g, e, grid(s.N, cells...), api.OK)
		}
	}
	want(t, "many of them are squares", squares > 500, true)
}
