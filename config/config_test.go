package config_test

import (
	"math"
	"math/rand"
	"strings"
	"testing"

	"signet/api"
	"signet/config"
)

const (
	last    = math.MaxUint32
	longest = 1 << 24
)

// settings: ones that may be, each time another.
func settings() api.Config {
	return api.Config{
		Apex:   api.Name{"Zone", "example"},
		KeyTtl: 10, Prop: 2, DsTtl: 8, DsProp: 1,
		Valid: 300, Lead: 100, Gap: 20, MaxTtl: 60,
		Salt: []byte{0xaa, 0xbb}, Iter: 3, H: 6, Size: 1232,
	}
}

// sized: a name whose wire form has size bytes (at least 3), of labels that
// are as long as they may be.
func sized(size int) api.Name {
	var n api.Name
	for left := size - 1; left > 0; {
		take := min(left, 64)
		if left-take == 1 {
			take--
		}
		n = append(n, strings.Repeat("l", take-1))
		left -= take
	}
	return n
}

// wireSize: how many bytes n has on the wire.
func wireSize(n api.Name) int { return len(strings.Join(n, ".")) + 2 }

// rightName: whether n may be an apex, in the chapter's words.
func rightName(n api.Name) bool {
	for _, l := range n {
		if len(l) < 1 || len(l) > 63 {
			return false
		}
	}
	return len(n) > 0 && wireSize(n) <= 200
}

// right: what Check must take, of whole numbers that don't come round.
func right(c api.Config) bool {
	for _, time := range []uint32{c.KeyTtl, c.Prop, c.DsTtl, c.DsProp, c.MaxTtl, c.Gap, c.Lead, c.Valid} {
		if time > longest {
			return false
		}
	}
	key, most, gap, lead, valid := int64(c.KeyTtl), int64(c.MaxTtl), int64(c.Gap), int64(c.Lead), int64(c.Valid)
	return rightName(c.Apex) &&
		1 <= key && key <= most &&
		lead > most+gap && valid > lead+gap &&
		len(c.Salt) <= 16 && c.Iter <= 50 && 0 <= c.H && c.H <= 10 && c.Size >= 512
}

// checked: what Check answers must be OK, or ErrConfig, as it is told.
func checked(t *testing.T, c api.Config, ok bool) {
	t.Helper()
	want := api.ErrConfig
	if ok {
		want = api.OK
	}
	if e := config.Check(c); e != want {
		t.Errorf("P14.1: Check(%+v): %v, not %v", c, e, want)
	}
}

// TestErrNumber (P14.1): the chapter's number of the error.
func TestErrNumber(t *testing.T) {
	if e := config.Check(api.Config{}); int(e) != 100 {
		t.Errorf("P14.1: %d", int(e))
	}
}

// TestExample (P14.1): the chapter's, and one more of Lead.
func TestExample(t *testing.T) {
	c := settings()
	c.KeyTtl, c.Lead, c.MaxTtl, c.Gap = 5, 10, 5, 5
	checked(t, c, false)
	c.Lead = 11
	checked(t, c, true)
}

// TestCheckApex (P14.1): lengths at the limits and one past them.
func TestCheckApex(t *testing.T) {
	rows := []struct {
		n  api.Name
		ok bool
	}{
		{nil, false}, {api.Name{}, false}, {api.Name{""}, false}, {api.Name{"a", ""}, false}, {api.Name{"", "a"}, false},
		{api.Name{"a"}, true}, {api.Name{"A"}, true}, {api.Name{"*", "a"}, true}, {api.Name{"\x00.\xff", "\\"}, true},
		{api.Name{strings.Repeat("a", 63)}, true}, {api.Name{strings.Repeat("a", 64)}, false},
		{api.Name{strings.Repeat("a", 199)}, false}, {api.Name{strings.Repeat("a", 256)}, false}, {api.Name{strings.Repeat("a", 257)}, false},
		{sized(199), true}, {sized(200), true}, {sized(201), false}, {sized(255), false}, {sized(256), false}, {sized(1 << 16), false},
	}
	for _, r := range rows {
		c := settings()
		c.Apex = r.n
		checked(t, c, r.ok)
	}
	for size := 3; size <= 600; size++ {
		c := settings()
		c.Apex = sized(size)
		if wireSize(c.Apex) != size {
			t.Fatalf("the test's name of %d bytes has %d", size, wireSize(c.Apex))
		}
		checked(t, c, size <= 200)
	}
	many := make(api.Name, 100)
	for i := range many {
		many[i] = "a"
	}
	c := settings()
	c.Apex = many
	checked(t, c, false)
	c.Apex = many[:99]
	checked(t, c, true)
}

// TestCheckTimes (P14.1): each time at the greatest and one past it, and
// where a sum of 32 bits would come round.
func TestCheckTimes(t *testing.T) {
	wide := func() api.Config {
		c := settings()
		c.Gap, c.MaxTtl, c.Lead, c.Valid = 0, longest-2, longest-1, longest
		return c
	}
	checked(t, wide(), true)
	rows := []struct {
		change func(c *api.Config, x uint32)
		most   uint32
	}{
		{func(c *api.Config, x uint32) { c.KeyTtl = x }, longest - 2},
		{func(c *api.Config, x uint32) { c.Prop = x }, longest},
		{func(c *api.Config, x uint32) { c.DsTtl = x }, longest},
		{func(c *api.Config, x uint32) { c.DsProp = x }, longest},
		{func(c *api.Config, x uint32) { c.MaxTtl = x }, longest - 2},
		{func(c *api.Config, x uint32) { c.Gap = x }, 0},
		{func(c *api.Config, x uint32) { c.Lead = x }, longest - 1},
		{func(c *api.Config, x uint32) { c.Valid = x }, longest},
	}
	for _, r := range rows {
		c := wide()
		r.change(&c, r.most)
		checked(t, c, true)
		for _, x := range []uint32{r.most + 1, longest + 1, 1 << 31, last - 1, last} {
			c := wide()
			r.change(&c, x)
			checked(t, c, false)
		}
	}
	for _, gap := range []uint32{last, last - 50, last - 59, last - 60, last - 80, last - 100, 1 << 31} {
		c := settings()
		c.Gap = gap
		checked(t, c, false)
		c.MaxTtl = -gap
		checked(t, c, false)
		c = settings()
		c.MaxTtl = gap
		checked(t, c, false)
		c = settings()
		c.Lead = gap
		checked(t, c, false)
	}
}

// TestCheckRules (P14.1): times held against one another, at the edge and one
// past it.
func TestCheckRules(t *testing.T) {
	rows := []struct {
		change func(c *api.Config)
		ok     bool
	}{
		{func(c *api.Config) {}, true},
		{func(c *api.Config) { c.KeyTtl = 0 }, false},
		{func(c *api.Config) { c.KeyTtl = 1 }, true},
		{func(c *api.Config) { c.KeyTtl = 60 }, true},
		{func(c *api.Config) { c.KeyTtl = 61 }, false},
		{func(c *api.Config) { c.KeyTtl, c.MaxTtl = 0, 0 }, false},
		{func(c *api.Config) { c.KeyTtl, c.MaxTtl = 1, 0 }, false},
		{func(c *api.Config) { c.KeyTtl, c.MaxTtl = 1, 1 }, true},
		{func(c *api.Config) { c.Lead = 79 }, false},
		{func(c *api.Config) { c.Lead = 80 }, false},
		{func(c *api.Config) { c.Lead = 81 }, true},
		{func(c *api.Config) { c.Valid = 119 }, false},
		{func(c *api.Config) { c.Valid = 120 }, false},
		{func(c *api.Config) { c.Valid = 121 }, true},
		{func(c *api.Config) { c.Gap = 0 }, true},
		{func(c *api.Config) { c.Gap, c.Lead, c.Valid = 0, 61, 62 }, true},
		{func(c *api.Config) { c.Gap, c.Lead, c.Valid = 0, 60, 62 }, false},
		{func(c *api.Config) { c.Gap, c.Lead, c.Valid = 0, 61, 61 }, false},
		{func(c *api.Config) { c.Gap = 39 }, true},
		{func(c *api.Config) { c.Gap = 40 }, false},
		{func(c *api.Config) { c.Prop, c.DsTtl, c.DsProp = 0, 0, 0 }, true},
	}
	for _, r := range rows {
		c := settings()
		r.change(&c)
		checked(t, c, r.ok)
	}
}

// TestCheckOthers (P14.1): salt, iterations, height and size, at the limits
// and one past them.
func TestCheckOthers(t *testing.T) {
	for size := range 600 {
		c := settings()
		c.Salt = make([]byte, size)
		checked(t, c, size <= 16)
	}
	for i := range 1 << 16 {
		c := settings()
		c.Iter = uint16(i)
		checked(t, c, i <= 50)
		c = settings()
		c.Size = uint16(i)
		checked(t, c, i >= 512)
	}
	for h := -600; h <= 600; h++ {
		c := settings()
		c.H = h
		checked(t, c, 0 <= h && h <= 10)
	}
	for _, h := range []int{math.MinInt, math.MinInt + 6, -1 << 32, 1 << 32, 1<<32 + 6, math.MaxInt} {
		c := settings()
		c.H = h
		checked(t, c, false)
	}
}

// some: one of the numbers, or one that is near to it.
func some(r *rand.Rand, numbers ...uint32) uint32 {
	return numbers[r.Intn(len(numbers))] + uint32(r.Intn(5)) - 2
}

// TestCheckAny (P14.1): settings at and about all edges at once, against the
// chapter's words.
func TestCheckAny(t *testing.T) {
	r := rand.New(rand.NewSource(14))
	taken := 0
	for range 200000 {
		c := settings()
		c.MaxTtl = some(r, 5, 60, 60, longest/2, longest, last)
		c.KeyTtl = some(r, 1, 10, c.MaxTtl, longest)
		c.Gap = some(r, 2, 20, longest/4, longest, last)
		c.Lead = some(r, c.MaxTtl+c.Gap, c.MaxTtl+c.Gap+9, longest, last)
		c.Valid = some(r, c.Lead+c.Gap, c.Lead+c.Gap+9, longest, last)
		if r.Intn(4) == 0 {
			c.Prop, c.DsTtl, c.DsProp = some(r, 2, longest), some(r, 2, longest), some(r, 2, longest)
			c.H = r.Intn(14) - 2
			c.Salt = make([]byte, 14+r.Intn(4))
			c.Iter, c.Size = uint16(some(r, 48)), uint16(some(r, 513))
			c.Apex = sized(196 + r.Intn(6))
		}
		ok := right(c)
		if ok {
			taken++
		}
		checked(t, c, ok)
		if t.Failed() {
			return
		}
	}
	if taken < 1000 {
		t.Errorf("of the test's settings %d alone are right", taken)
	}
}
