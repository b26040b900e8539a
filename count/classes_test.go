package count

import (
	"math/rand"
	"slices"
	"testing"

	"talisman/api"
	"talisman/group"
)

func TestKeyExamples(t *testing.T) { // P7.4
	k, e := Key(square(), loShu())
	wantList(t, "Key of the Lo Shu", k, e, []int{2, 3, 2, 3, 4, 3, 2, 3, 2}, api.OK)
	star := system(3, []int{0, 1}, []int{0, 2})
	k, e = Key(star, []int{1, 2, 3})
	wantList(t, "Key from N to 1", k, e, []int{1, 1, 2}, api.OK)
	k, e = Key(star, []int{3, 1, 2})
	wantList(t, "Key from 1 to N", k, e, []int{1, 1, 2}, api.OK)
	k, e = Key(star, []int{2, 1, 3})
	wantList(t, "Key with the centre in the middle", k, e, []int{1, 2, 1}, api.OK)
	k, e = Key(system(3), []int{2, 1, 3})
	wantList(t, "Key without lines", k, e, []int{0, 0, 0}, api.OK)
	k, e = Key(system(4, []int{0, 1}, []int{0, 3}), []int{2, 3, 1, 4})
	wantList(t, "Key of a system of 4 cells", k, e, []int{0, 2, 1, 1}, api.OK)
	large := system(256, []int{0})
	f := upTo(256)
	for i := range f {
		f[i]++
	}
	k, e = Key(large, f)
	want(t, "Key of 256 cells", []any{len(k), k[0], k[255], e}, []any{256, 0, 1, api.OK})
}

func TestKeyErrors(t *testing.T) { // P7.4
	for name, b := range badSystems() {
		k, e := Key(b.s, []int{1 << 40})
		wantList(t, "Key of "+name, k, e, nil, b.e)
	}
	for name, bad := range map[string]struct {
		f []int
		e api.Errno
	}{
		"no numbers":              {nil, api.ErrShape},
		"too few":                 {[]int{1, 2, 1000000000}, api.ErrShape},
		"too many":                {[]int{1, 2, 3, 4, 5}, api.ErrShape},
		"one too great":           {[]int{1, 2, 2, 1000000000}, api.ErrRange},
		"one too small":           {[]int{1, -1000000000, 3, 4}, api.ErrRange},
		"the greatest that may":   {[]int{1, 2, 3, 999999999}, api.ErrForm},
		"the least that may":      {[]int{1, 2, 3, -999999999}, api.ErrForm},
		"one twice":               {[]int{1, 2, 3, 3}, api.ErrForm},
		"from 0 on":               {[]int{0, 1, 2, 3}, api.ErrForm},
		"a number above the last": {[]int{1, 2, 3, 5}, api.ErrForm},
	} {
		k, e := Key(pairs(), bad.f)
		wantList(t, "Key with "+name, k, e, nil, bad.e)
	}
}

// someClosed returns groups of 1 to 5 cells, each with a list that has all images of its elements.
func someClosed() []closed {
	random := rand.New(rand.NewSource(76))
	var all []closed
	for range 60 {
		cells := 1 + random.Intn(5)
		var makers []api.Symmetry
		for range random.Intn(3) {
			makers = append(makers, api.Symmetry{Cells: random.Perm(cells), Complement: random.Intn(2) == 0})
		}
		l, _ := group.Closure(makers, cells)
		var list [][]int
		for range random.Intn(8) {
			f := make([]int, cells)
			for i := range f {
				f[i] = random.Intn(4) - random.Intn(2)
			}
			list = append(list, imagesOf(l, f)...)
		}
		slices.SortFunc(list, slices.Compare)
		all = append(all, closed{l, slices.CompactFunc(list, slices.Equal)})
	}
	return all
}

// closed is a group with a list that has all images of its elements.
type closed struct {
	l    []api.Symmetry
	list [][]int
}

func TestClassExamples(t *testing.T) { // P7.4
	list, _ := Fillings(square(), 15)
	eight, _ := group.Dihedral(3)
	wantClasses(t, closed{eight, list}, Class{loShu(), 8})
	turns := grouped(plain(0, 1, 2, 3, 4, 5, 6, 7, 8), plain(8, 7, 6, 5, 4, 3, 2, 1, 0))
	wantClasses(t, closed{turns, list}, Class{list[0], 2}, Class{list[1], 2}, Class{list[2], 2}, Class{list[3], 2})
	complements := grouped(plain(0, 1, 2, 3, 4, 5, 6, 7, 8), flip(8, 7, 6, 5, 4, 3, 2, 1, 0))
	f, e := Fixed(complements, list)
	wantList(t, "Fixed by the half turn with complements", f, e, []int{8, 8}, api.OK)
	swap := grouped(plain(0, 1), plain(1, 0))
	wantClasses(t, closed{swap, [][]int{{1, 2}, {2, 1}, {3, 3}}}, Class{[]int{1, 2}, 2}, Class{[]int{3, 3}, 1})
	f, e = Fixed(swap, [][]int{{1, 2}, {2, 1}, {3, 3}})
	wantList(t, "Fixed", f, e, []int{3, 1}, api.OK)
	wantClasses(t, closed{swap, nil})
	f, e = Fixed(swap, nil)
	wantList(t, "Fixed of nothing", f, e, []int{0, 0}, api.OK)
	wantClasses(t, closed{grouped(plain(), flip()), [][]int{{}}}, Class{nil, 1})
	wantClasses(t, closed{grouped(plain(0), flip(0)), [][]int{{-4}, {1}, {6}}}, Class{[]int{-4}, 2}, Class{[]int{1}, 1})
}

// wantClasses compares Classes and ClassCount with classes.
func wantClasses(t *testing.T, x closed, wanted ...Class) {
	t.Helper()
	classes, e := Classes(x.l, x.list)
	for i := range classes {
		classes[i].Filling = append([]int{}, classes[i].Filling...)
	}
	for i := range wanted {
		wanted[i].Filling = append([]int{}, wanted[i].Filling...)
	}
	wantList(t, "Classes", classes, e, wanted, api.OK)
	n, e := ClassCount(x.l, x.list)
	wantNumber(t, "ClassCount", n, e, len(wanted), api.OK)
}

func TestClasses(t *testing.T) { // P7.4: compared with the images of each element
	for _, x := range someClosed() {
		var wanted []Class
		for _, f := range x.list {
			images := imagesOf(x.l, f)
			if slices.Equal(images[0], f) {
				wanted = append(wanted, Class{f, len(images)})
			}
		}
		wantClasses(t, x, wanted...)
		var fixed []int
		for _, a := range x.l {
			number := 0
			for _, f := range x.list {
				if slices.Equal(moved(a, f), f) {
					number++
				}
			}
			fixed = append(fixed, number)
		}
		f, e := Fixed(x.l, x.list)
		wantList(t, "Fixed", f, e, fixed, api.OK)
	}
}

// wantClassError compares the errors of Classes, Fixed and ClassCount with one.
func wantClassError(t *testing.T, what string, l []api.Symmetry, list [][]int, wanted api.Errno) {
	t.Helper()
	classes, e := Classes(l, list)
	wantList(t, "Classes with "+what, classes, e, nil, wanted)
	fixed, e := Fixed(l, list)
	wantList(t, "Fixed with "+what, fixed, e, nil, wanted)
	n, e := ClassCount(l, list)
	wantNumber(t, "ClassCount with "+what, n, e, 0, wanted)
}

func TestGroupErrors(t *testing.T) { // P7.4: they come before those of the list
	one := plain(0, 1, 2)
	for name, bad := range map[string]struct {
		l []api.Symmetry
		e api.Errno
	}{
		"no symmetries":                       {nil, api.ErrEmpty},
		"257 cells":                           {grouped(plain(upTo(257)...)), api.ErrRange},
		"1537 symmetries":                     {slices.Repeat(grouped(one), 1537), api.ErrMany},
		"other cells behind the first":        {grouped(one, plain(0, 1)), api.ErrShape},
		"other cells before a wrong one":      {grouped(one, plain(0), plain(1, 1, 1)), api.ErrShape},
		"one that is no permutation":          {grouped(plain(0, 1, 1), plain(0)), api.ErrPerm},
		"one twice":                           {grouped(one, one), api.ErrOrder},
		"a complement before the other":       {grouped(flip(0, 1, 2), one), api.ErrOrder},
		"no identity":                         {grouped(plain(1, 0, 2)), api.ErrConflict},
		"a composition that is not there":     {grouped(one, plain(1, 2, 0)), api.ErrConflict},
		"a composition with the complement":   {grouped(one, flip(1, 2, 0)), api.ErrConflict},
		"a first one without cells, and more": {grouped(plain(), one), api.ErrShape},
	} {
		wantClassError(t, name, bad.l, nil, bad.e)
		wantClassError(t, name+" and a wrong list", bad.l, make([][]int, 1025), bad.e)
	}
}

func TestListErrors(t *testing.T) { // P7.4
	swap := grouped(plain(0, 1), plain(1, 0))
	both := grouped(plain(0), flip(0))
	const most = api.MaxNumber
	for name, bad := range map[string]struct {
		l    []api.Symmetry
		list [][]int
		e    api.Errno
	}{
		"1025 elements":                           {swap, make([][]int, 1025), api.ErrMany},
		"1024 elements":                           {swap, make([][]int, 1024), api.ErrShape},
		"too few numbers":                         {swap, [][]int{{1, 1}, {most + 1}, {0, 0}}, api.ErrShape},
		"too many numbers":                        {swap, [][]int{{most + 1, 1, 1}}, api.ErrShape},
		"a number too great":                      {swap, [][]int{{1, most + 1}, {1}}, api.ErrRange},
		"a number too small":                      {swap, [][]int{{-most - 1, 1}}, api.ErrRange},
		"a number too small, in a wrong order":    {swap, [][]int{{1, 1}, {0, -most - 1}}, api.ErrRange},
		"a wrong order, before a number too much": {swap, [][]int{{1, 1}, {0, 0}, {0, 0, 0}}, api.ErrOrder},
		"an element twice":                        {swap, [][]int{{1, 1}, {1, 1}}, api.ErrOrder},
		"no numbers twice":                        {grouped(plain()), [][]int{{}, {}}, api.ErrOrder},
		"an image that is not there":              {swap, [][]int{{1, 2}, {3, 3}}, api.ErrNone},
		"an image missing before a wrong order":   {swap, [][]int{{1, 2}, {3, 3}, {2, 2}}, api.ErrOrder},
		"the last image missing":                  {swap, [][]int{{1, 1}, {1, 2}, {2, 1}, {3, 4}}, api.ErrNone},
		"a complement that is not there":          {both, [][]int{{0}}, api.ErrNone},
		"a complement beyond the range":           {both, [][]int{{-most}}, api.ErrNone},
		"a complement beyond both":                {both, [][]int{{-most}, {most}}, api.ErrNone},
	} {
		wantClassError(t, name, bad.l, bad.list, bad.e)
	}
}

func TestGreatestLists(t *testing.T) { // P7.4: the limits themselves
	both := grouped(plain(0), flip(0))
	wantClasses(t, closed{both, [][]int{{2 - api.MaxNumber}, {api.MaxNumber}}}, Class{[]int{2 - api.MaxNumber}, 2})
	var list [][]int
	var wanted []Class
	for x := range 1024 {
		list = append(list, repeat(x-api.MaxNumber, 256))
		wanted = append(wanted, Class{list[x], 1})
	}
	wantClasses(t, closed{grouped(plain(upTo(256)...)), list}, wanted...)
	f, e := Fixed(grouped(plain(upTo(256)...)), list)
	wantList(t, "Fixed", f, e, []int{1024}, api.OK)
}
