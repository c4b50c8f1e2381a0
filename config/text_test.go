package config_test

import (
	"bytes"
	"math/rand/v2"
	"strings"
	"testing"

	"lodestar/api"
	"lodestar/config"
)

func wantText(t *testing.T, what string, c api.Config, want string) {
	t.Helper()
	if s, e := config.Text(c); s != want || e != api.OK {
		t.Errorf("P9.3: %s: Text: %q, %d; want %q", what, s, e, want)
	}
}

func TestTextOfFull(t *testing.T) {
	s, e := config.Text(full())
	if e != api.OK {
		t.Fatalf("P9.3: %d", e)
	}
	got, want := strings.Split(s, "\n"), strings.Split(textOfFull(), "\n")
	for i := range max(len(got), len(want)) {
		if i >= len(got) || i >= len(want) || got[i] != want[i] {
			t.Fatalf("P9.3: from line %d on: %q; want %q", i+1, got[min(i, len(got)):], want[min(i, len(want)):])
		}
	}
}

func TestTextOfLittle(t *testing.T) {
	wantText(t, "a router alone", api.Config{Router: 0x01020304}, "router 1.2.3.4\n")
	wantText(t, "limit 1", api.Config{Router: 0xFFFFFFFF, Limit: 1}, "router 255.255.255.255\nlimit 1\n")
	wantText(t, "limit 4096", api.Config{Router: 1, Limit: 4096}, "router 0.0.0.1\nlimit 4096\n")
	wantText(t, "stub-router", api.Config{Router: 1, StubOnly: true}, "router 0.0.0.1\nstub-router\n")
	wantText(t, "an area", api.Config{Router: 1, Areas: []api.Area{{ID: 5, Kind: 2, Translate: 2}}}, "router 0.0.0.1\narea 0.0.0.5 nssa translate never\n")
}

func TestTextOfEachByte(t *testing.T) {
	var all []byte
	want := "opaque 11 0 "
	for i := range 256 {
		all = append(all, byte(i))
		want += string("0123456789abcdef"[i/16]) + string("0123456789abcdef"[i%16])
	}
	c := api.Config{Router: 1, Opaques: []api.Opaque{{Type: 11, Data: all}}}
	wantText(t, "each byte", c, "router 0.0.0.1\n"+want+"\n")
	wantParsed(t, "router 0.0.0.1\n"+want, c)
}

func TestTextRefuses(t *testing.T) {
	r := rand.New(rand.NewPCG(9, 3))
	refused := 0
	for range 5000 {
		c := shaken(r)
		e, _, _ := verdict(c)
		s, f := config.Text(c)
		if f != e || (e != api.OK) != (s == "") {
			t.Fatalf("P9.3: Text of %+v: %q, %d; want %d", c, s, f, e)
		}
		if e != api.OK {
			refused++
		}
	}
	if refused < 1000 || refused > 4000 {
		t.Errorf("P9.3: %d of 5000 were refused: chance asks too little", refused)
	}
	if s, e := config.Text(crowd(17, 0, 0, 0, 0, 0)); s != "" || e != api.ErrMany {
		t.Errorf("P9.3: Text of too many areas: %q, %d", s, e)
	}
}

func TestThereAndBack(t *testing.T) {
	r := rand.New(rand.NewPCG(9, 4))
	count := 0
	back := func(c api.Config) {
		s, e := config.Text(c)
		if e != api.OK {
			return
		}
		count++
		d, e, line := config.Parse([]byte(s))
		if e != api.OK || line != 0 || !likes(c, d) {
			t.Fatalf("W7: Parse of %q: %d at %d: %+v; want %+v", s, e, line, d, c)
		}
		if again, e := config.Text(d); again != s || e != api.OK {
			t.Fatalf("W7: Text of what Parse reads: %q, %d; want %q", again, e, s)
		}
	}
	back(full())
	for range 10000 {
		back(shaken(r))
	}
	if count < 2000 {
		t.Errorf("W7: %d alone may be: chance asks too little", count)
	}
	most := crowd(16, 256, 32, 32, 900, 256)
	back(most)
}

// What has no room in MaxConfigText is told all the same, but not read again.
func TestTextMayBeTooLong(t *testing.T) {
	c := crowd(0, 0, 0, 0, 0, 256)
	for i := range c.Opaques {
		c.Opaques[i].Data = bytes.Repeat([]byte{7}, 1400)
	}
	s, e := config.Text(c)
	if e != api.OK || strings.Count(s, "\n") != 257 || strings.Count(s, "07") < 256*1400 {
		t.Errorf("P9.3: Text of much: %d bytes, %d", len(s), e)
	}
	if _, e, line := config.Parse([]byte(s)); e != api.ErrMany || line != 0 {
		t.Errorf("P9.4: Parse of much: %d at %d; want ErrMany at 0", e, line)
	}
}
