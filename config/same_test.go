package config_test

import (
	"math/rand/v2"
	"reflect"
	"strings"
	"testing"

	"lodestar/api"
	"lodestar/config"
)

// otherwise: v holds another value.
func otherwise(v reflect.Value) {
	switch v.Kind() {
	case reflect.Bool:
		v.SetBool(!v.Bool())
	case reflect.String:
		v.SetString(v.String() + "x")
	case reflect.Int:
		v.SetInt(v.Int() + 1)
	default:
		v.SetUint(v.Uint() ^ 1)
	}
}

func wantSame(t *testing.T, what string, a, b api.Config, want bool) {
	t.Helper()
	if config.Same(a, b) != want || config.Same(b, a) != want {
		t.Errorf("P9.2: %s: Same: %v, turned round %v; want %v", what, config.Same(a, b), config.Same(b, a), want)
	}
}

func TestSame(t *testing.T) {
	wantSame(t, "full", full(), full(), true)
	wantSame(t, "nothing", api.Config{}, api.Config{}, true)
	wantSame(t, "nothing and full", api.Config{}, full(), false)
	wrong := api.Config{Limit: -1, Ifaces: []api.Iface{{Name: "?"}}}
	wantSame(t, "what may not be", wrong, config.Copy(wrong), true)
}

func TestSameFieldByField(t *testing.T) {
	asked := map[string]int{}
	c := full()
	leaves(reflect.ValueOf(&c).Elem(), "", func(path string, v reflect.Value) {
		if strings.HasPrefix(path, ".Opaques[4].Data[") && path != ".Opaques[4].Data[1399]" {
			return
		}
		kept := reflect.New(v.Type()).Elem()
		kept.Set(v)
		otherwise(v)
		wantSame(t, path+" otherwise", full(), c, false)
		v.Set(kept)
		asked[path]++
	})
	wantSame(t, "all put back", full(), c, true)
	if len(asked) < 150 {
		t.Errorf("P9.2: %d fields alone were asked", len(asked))
	}
}

func TestSameListByList(t *testing.T) {
	c := full()
	lists(reflect.ValueOf(&c).Elem(), "", func(path string, v reflect.Value) {
		kept := reflect.New(v.Type()).Elem()
		kept.Set(v)
		v.Set(reflect.Append(v.Slice3(0, v.Len(), v.Len()), reflect.Zero(v.Type().Elem())))
		wantSame(t, path+" longer", full(), c, false)
		if n := kept.Len(); n > 0 {
			v.Set(kept.Slice(0, n-1))
			wantSame(t, path+" shorter", full(), c, false)
			v.SetZero()
			wantSame(t, path+" nil", full(), c, false)
		} else {
			v.SetZero()
			wantSame(t, path+" nil", full(), c, true)
			v.Set(reflect.MakeSlice(v.Type(), 0, 4))
			wantSame(t, path+" without elements", full(), c, true)
		}
		v.Set(kept)
	})
	wantSame(t, "all put back", full(), c, true)
}

func TestSameOrder(t *testing.T) {
	c := full()
	lists(reflect.ValueOf(&c).Elem(), "", func(path string, v reflect.Value) {
		if v.Len() < 2 || reflect.DeepEqual(v.Index(0).Interface(), v.Index(1).Interface()) {
			return
		}
		swap := reflect.Swapper(v.Interface())
		swap(0, 1)
		wantSame(t, path+" turned round", full(), c, false)
		swap(0, 1)
	})
	wantSame(t, "all put back", full(), c, true)
}

func TestCopy(t *testing.T) {
	r := rand.New(rand.NewPCG(9, 2))
	for range 3000 {
		c := shaken(r)
		d := config.Copy(c)
		if !likes(c, d) || !config.Same(c, d) {
			t.Fatalf("P9.2: Copy of %+v: %+v", c, d)
		}
	}
	if d := config.Copy(api.Config{}); !likes(d, api.Config{}) {
		t.Errorf("P9.2: Copy of nothing: %+v", d)
	}
}

// roomy: the full configuration, with spare room behind each list.
func roomy() api.Config {
	c := full()
	lists(reflect.ValueOf(&c).Elem(), "", func(_ string, v reflect.Value) {
		l := reflect.MakeSlice(v.Type(), v.Len(), v.Len()+3)
		reflect.Copy(l, v)
		v.Set(l)
	})
	return c
}

// spoil changes each field of c, and all spare room.
func spoil(c *api.Config) {
	lists(reflect.ValueOf(c).Elem(), "", func(_ string, v reflect.Value) {
		room := v.Slice(v.Len(), v.Cap())
		leaves(room, "", func(_ string, v reflect.Value) { otherwise(v) })
	})
	leaves(reflect.ValueOf(c).Elem(), "", func(_ string, v reflect.Value) { otherwise(v) })
}

func TestCopyMemory(t *testing.T) {
	c := roomy()
	d := config.Copy(c)
	spoil(&d)
	if !likes(c, full()) {
		t.Errorf("R5: Copy: what is done to the answer changes the argument: %+v", c)
	}
	lists(reflect.ValueOf(c), "", func(path string, v reflect.Value) {
		leaves(v.Slice(v.Len(), v.Cap()), path, func(path string, v reflect.Value) {
			if !v.IsZero() {
				t.Errorf("R5: Copy: what is done to the answer's spare room changes the argument's: %s", path)
			}
		})
	})
	d = config.Copy(c)
	spoil(&c)
	if !likes(d, full()) {
		t.Errorf("R5: Copy: what is done to the argument changes the answer: %+v", d)
	}
}

func TestAreaOf(t *testing.T) {
	c := full()
	for i, a := range c.Areas {
		if n := config.AreaOf(c, a.ID); n != i {
			t.Errorf("P9.2: AreaOf %d: %d; want %d", a.ID, n, i)
		}
	}
	for _, id := range []uint32{4, 9, 0xFFFFFFFE} {
		if n := config.AreaOf(c, id); n != -1 {
			t.Errorf("P9.2: AreaOf %d: %d; want -1", id, n)
		}
	}
	c.Areas[3].ID, c.Areas[4].ID = 2, 2
	if n := config.AreaOf(c, 2); n != 2 {
		t.Errorf("P9.2: AreaOf of several: %d; want the first", n)
	}
	if n := config.AreaOf(api.Config{}, 0); n != -1 {
		t.Errorf("P9.2: AreaOf of nothing: %d; want -1", n)
	}
}

func TestIfaceOf(t *testing.T) {
	c := full()
	for i, f := range c.Ifaces {
		if n := config.IfaceOf(c, f.Name); n != i {
			t.Errorf("P9.2: IfaceOf %s: %d; want %d", f.Name, n, i)
		}
	}
	for _, name := range []string{"", "e", "e00", "E0", "m", "b "} {
		if n := config.IfaceOf(c, name); n != -1 {
			t.Errorf("P9.2: IfaceOf %q: %d; want -1", name, n)
		}
	}
	c.Ifaces[1].Name, c.Ifaces[2].Name, c.Ifaces[3].Name = "", "", "e0"
	if a, b := config.IfaceOf(c, ""), config.IfaceOf(c, "e0"); a != 1 || b != 0 {
		t.Errorf("P9.2: IfaceOf of several: %d, %d; want the first, 1 and 0", a, b)
	}
	if n := config.IfaceOf(api.Config{}, ""); n != -1 {
		t.Errorf("P9.2: IfaceOf of nothing: %d; want -1", n)
	}
}

func TestBorder(t *testing.T) {
	in := func(areas ...uint32) api.Config {
		c := api.Config{}
		for _, a := range areas {
			c.Ifaces = append(c.Ifaces, api.Iface{Area: a})
		}
		return c
	}
	linked := func(c api.Config) api.Config {
		c.Virtuals = []api.Virtual{{Area: 7}}
		return c
	}
	twice := func(c api.Config) api.Config {
		c.Virtuals = []api.Virtual{{Area: 7}, {Area: 8}}
		return c
	}
	idle := in(1, 1)
	idle.Areas = []api.Area{{}, {ID: 1}, {ID: 2}}
	idle.Ranges = []api.Range{{Area: 2}}
	idle.Opaques = []api.Opaque{{Area: 2}}
	for i, row := range []struct {
		c    api.Config
		want bool
	}{
		{api.Config{}, false}, {in(0), false}, {in(5), false}, {in(0, 0), false}, {in(5, 5, 5), false},
		{in(0, 1), true}, {in(1, 0), true}, {in(5, 5, 6), true}, {in(5, 6, 5), true}, {in(1, 2, 3), true},
		{linked(in()), false}, {linked(in(0)), false}, {linked(in(0, 0)), false}, {linked(in(7)), true}, {linked(in(7, 7)), true}, {linked(in(0, 7)), true},
		{twice(in()), false}, {twice(in(0)), false}, {twice(in(7)), true},
		{idle, false}, {full(), true},
	} {
		if got := config.Border(row.c); got != row.want {
			t.Errorf("P9.2: Border, row %d: %v; want %v", i, got, row.want)
		}
	}
}

func TestArgumentsStayAsTheyAre(t *testing.T) {
	c := roomy()
	config.Check(c)
	config.Text(c)
	config.Copy(c)
	config.Same(c, c)
	config.AreaOf(c, 3)
	config.IfaceOf(c, "b")
	config.Border(c)
	if !likes(c, full()) {
		t.Errorf("R5: an argument is changed: %+v", c)
	}
	lists(reflect.ValueOf(c), "", func(path string, v reflect.Value) {
		leaves(v.Slice(v.Len(), v.Cap()), path, func(path string, v reflect.Value) {
			if !v.IsZero() {
				t.Errorf("R5: an argument's spare room is changed: %s", path)
			}
		})
	})
}
