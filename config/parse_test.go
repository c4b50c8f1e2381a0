package config_test

import (
	"math"
	"math/rand/v2"
	"slices"
	"strings"
	"testing"

	"lodestar/api"
	"lodestar/config"
)

const (
	top = "router 1.1.1.1\narea 0.0.0.0 normal\n"
	e0  = "iface e0 10.0.0.1/24 area 0.0.0.0 broadcast\n"
	n0  = "iface n0 10.0.0.1/24 area 0.0.0.0 nbma\n"
	a1  = "area 0.0.0.1 normal\n"
	v2  = "virtual 0.0.0.1 2.2.2.2\n"
)

// little: what top and e0 say.
func little() api.Config {
	return api.Config{Router: 0x01010101, Areas: []api.Area{{}}, Ifaces: []api.Iface{{Name: "e0", Addr: 0x0A000001, Bits: 24, Cost: 10, Priority: 1, Times: times, MTU: 1500}}}
}

func TestExamples(t *testing.T) {
	wantParsed(t, top+e0, little())
	wantRefused(t, top+e0+"iface e1 10.0.0.1/24 area 0.0.0.0 point", api.ErrTwice, 4)
	wantRefused(t, top+e0+"iface e1 10.0.0.2/24 area 0.0.0.1 point", api.ErrArea, 4)
	wantRefused(t, "", api.ErrConfig, 0)
	wantRefused(t, "router 1.1.1.1\nrouter 1.1.1.1", api.ErrTwice, 2)
	wantRefused(t, "router 1.1.1", api.ErrText, 1)
	wantRefused(t, "router 1.1.1.1\npeer e0 10.0.0.2 1", api.ErrNone, 2)
	wantRefused(t, "router 1.1.1.1\nouter 10.0.0.1/8 metric 5", api.ErrPrefix, 2)
}

func TestParseFull(t *testing.T) {
	wantParsed(t, textOfFull(), full())
	wantParsed(t, strings.TrimSuffix(textOfFull(), "\n"), full())
}

func TestParseBlanks(t *testing.T) {
	for _, src := range []string{
		"\n\n" + top + "\n \t\r\n" + e0 + "\n\n",
		strings.ReplaceAll(top+e0, "\n", "\r\n"),
		strings.ReplaceAll(top+e0, " ", "\t \r \t"),
		strings.ReplaceAll(top+e0, "\n", " \t\n\t "),
		"# nothing\n" + strings.ReplaceAll(top+e0, "\n", " # router 2.2.2.2\n#"+"\n"),
		strings.ReplaceAll(top+e0, "\n", "#behind a word, and ## more\n"),
		top + e0 + "#",
		strings.TrimSuffix(top+e0, "\n"),
	} {
		wantParsed(t, src, little())
	}
	for _, mark := range []string{"\v", "\f", "\x00", "\u00a0", "\u2003", "\xff", ","} {
		wantRefused(t, "\nrouter"+mark+"1.1.1.1", api.ErrText, 2)
		wantRefused(t, "router 1.1.1.1"+mark, api.ErrText, 1)
		wantRefused(t, "router 1.1.1.1\n"+mark, api.ErrText, 2)
	}
	wantRefused(t, "router 1.1.1.1#\nstub-#router", api.ErrText, 2)
	wantRefused(t, "router #1.1.1.1", api.ErrText, 1)
}

func TestParseLong(t *testing.T) {
	src := top + e0
	src += "#" + strings.Repeat("x", 1<<16-1-len(src))
	wantParsed(t, src, little())
	wantRefused(t, src+"x", api.ErrMany, 0)
	wantRefused(t, strings.Repeat("?", 1<<16), api.ErrText, 1)
	wantRefused(t, strings.Repeat("?", 1<<16+1), api.ErrMany, 0)
	wantRefused(t, strings.Repeat("\n", 1<<16), api.ErrConfig, 0)
	wantRefused(t, strings.Repeat("\n", 1<<16-1)+"?", api.ErrText, 1<<16)
}

func TestParseLeftOut(t *testing.T) {
	src := "router 1.1.1.1\narea 0.0.0.0 normal\narea 0.0.0.1 nssa\narea 0.0.0.2 normal\nrange 0.0.0.1 10.0.0.0/8\niface e0 10.0.0.1/24 area 0.0.0.0 nbma\nvirtual 0.0.0.2 2.2.2.2\nouter 9.0.0.0/8\nopaque 10 5 -\nopaque 11 5 -\n"
	wantParsed(t, src, api.Config{
		Router: 0x01010101,
		Areas:  []api.Area{{}, {ID: 1, Kind: 2}, {ID: 2}},
		Ranges: []api.Range{{Area: 1, Prefix: api.Prefix{Addr: 0x0A000000, Bits: 8}}},
		Ifaces: []api.Iface{{Name: "e0", Addr: 0x0A000001, Bits: 24, Kind: 1, Cost: 10, Priority: 1, Times: times, MTU: 1500}},
		Virtuals: []api.Virtual{
			{Area: 2, Router: 0x02020202, Times: times},
		},
		Outers:  []api.Outer{{Prefix: api.Prefix{Addr: 0x09000000, Bits: 8}}},
		Opaques: []api.Opaque{{Type: 10, ID: 5}, {Type: 11, ID: 5}},
	})
	wantRefused(t, top+e0+"opaque 9 5 -", api.ErrNone, 4)
}

// options: of each line that has some: all of them, each of which may be moved and left out.
func TestParseOptions(t *testing.T) {
	rest := "router 1.1.1.1\narea 0.0.0.0 normal\narea 0.0.0.9 nssa\narea 0.0.0.2 normal\niface x0 10.9.0.1/24 area 0.0.0.0 point\n"
	r := rand.New(rand.NewPCG(9, 5))
	for _, row := range []struct {
		head string
		l    []string
	}{
		{"area 0.0.0.1 nssa", []string{"no-summary", "cost 5", "translate always"}},
		{"range 0.0.0.9 10.0.0.0/8", []string{"outer", "hide"}},
		{"iface e0 10.0.0.1/24 area 0.0.0.0 multi", []string{"cost 3", "priority 4", "hello 5", "dead 60", "poll 7", "again 8", "delay 9", "mtu 1000", "passive", "demand"}},
		{"virtual 0.0.0.2 2.2.2.2", []string{"hello 5", "dead 60", "poll 7", "again 8", "delay 9"}},
		{"outer 9.0.0.0/8", []string{"metric 5", "type 2", "forward 1.2.3.4", "tag 6"}},
		{"opaque 9 1 -", []string{"iface x0"}},
		{"opaque 10 1 -", []string{"area 0.0.0.9"}},
	} {
		wantOption := func(l ...string) {
			t.Helper()
			if e := wantAsSaid(t, rest+row.head+" "+strings.Join(l, " ")); e != api.OK && row.head[:8] != "opaque 9" {
				t.Errorf("P9.4: %s %v: %d", row.head, l, e)
			}
		}
		for i, one := range row.l {
			wantOption(one)
			wantOption(slices.Concat(row.l[:i], row.l[i+1:])...)
			wantRefused(t, rest+row.head+" "+one+" "+one, api.ErrText, 6)
			wantRefused(t, rest+row.head+" "+strings.Join(row.l, " ")+" "+one, api.ErrText, 6)
			if name, _, has := strings.Cut(one, " "); has {
				wantRefused(t, rest+row.head+" "+name, api.ErrText, 6)
				wantRefused(t, rest+row.head+" "+name+" x$", wantOf(name == "iface", api.ErrNone, api.ErrText), 6)
			}
		}
		for range 50 {
			l := slices.Clone(row.l)
			r.Shuffle(len(l), func(i, j int) { l[i], l[j] = l[j], l[i] })
			wantOption(l...)
			wantOption(l[:r.IntN(len(l)+1)]...)
		}
	}
}

func wantOf(is bool, a, b api.Errno) api.Errno {
	if is {
		return a
	}
	return b
}

// The options of one line are not those of another one, nor what Text never writes.
func TestParseNoSuchOption(t *testing.T) {
	for _, line := range []string{
		"area 0.0.0.1 nssa translate candidate", "area 0.0.0.1 nssa hide", "area 0.0.0.1 nssa translate", "area 0.0.0.1 nssa always", "area 0.0.0.1 NSSA", "area 0.0.0.1", "area 0.0.0.1 broadcast", "area 1 normal", "area no-summary 0.0.0.1 nssa",
		"range 0.0.0.0 10.0.0.0/8 cost 5", "range 0.0.0.0 hide 10.0.0.0/8", "range 0.0.0.0", "range 10.0.0.0/8 0.0.0.0",
		"iface e0 10.0.0.1/24 broadcast", "iface e0 10.0.0.1/24 broadcast area 0.0.0.0", "iface e0 10.0.0.1/24 area 0.0.0.0", "iface e0 10.0.0.1/24 area 0.0.0.0 cost 5 point", "iface e0 10.0.0.1/24 area 0.0.0.0 point type 1", "iface e0 10.0.0.1 area 0.0.0.0 point", "iface e0 10.0.0.1/ area 0.0.0.0 point", "iface e0 10.0.0.1/24/ area 0.0.0.0 point", "iface e0 /24 area 0.0.0.0 point", "iface e0 10.0.0.1/024 area 0.0.0.0 point", "iface e0 10.0.0.1/256 area 0.0.0.0 point", "iface e0 10.0.0.1/-1 area 0.0.0.0 point", "iface e0 10.0.0/24 area 0.0.0.0 point", "iface e0 10.0.0.1/24 areas 0.0.0.0 point", "iface e0 10.0.0.1/24 area 0 point", "iface e0 10.0.0.1/24 area 0.0.0.0 normal", "iface e0 10.0.0.1/24 area 0.0.0.0 3",
		"virtual 0.0.0.1 2.2.2.2 cost 5", "virtual 0.0.0.1 2.2.2.2 mtu 1500", "virtual 0.0.0.1 2.2.2.2 passive", "virtual 0.0.0.1", "virtual 0.0.0.1 hello 10", "virtual 0.0.0.1 2.2.2.2/32",
		"outer 9.0.0.0/8 cost 5", "outer 9.0.0.0/8 type 0", "outer 9.0.0.0/8 type 3", "outer 9.0.0.0/8 type 01", "outer 9.0.0.0/8 type", "outer 9.0.0.0/8 forward 1", "outer 9.0.0.0", "outer", "outer metric 5",
		"opaque 11 1", "opaque 11", "opaque 11 1 - - ", "opaque 11 1 -- ", "opaque 11 0.0.0.1 -", "opaque 11 1 - hide", "opaque 10 1 - area 0", "opaque 9 1 - iface",
		"peer e0 10.0.0.2", "peer e0 10.0.0.2 1 1", "peer e0 1 10.0.0.2", "peer e0", "peer",
		"key e0 1 plain 61 0 9 0", "key e0 1 plain 61 0 9 0 9 9", "key e0 1 null 61 0 9 0 9", "key e0 1 1 61 0 9 0 9", "key e0 1 plain 0 9 0 9", "key e0", "vkey 0.0.0.1 2.2.2.2 1 plain 61 0 9 0", "vkey 0.0.0.1 2.2.2.2 1 plain 61 0 9 0 9 9", "vkey 0.0.0.1 1 plain 61 0 9 0 9",
		"router", "router 1.1.1.1 1.1.1.1", "router 1", "limit", "limit 1 2", "limit x", "stub-router 1", "stub-router on", "stub", "Router 1.1.1.1", "routers 1.1.1.1", "-", "0",
	} {
		wantRefused(t, "\n"+line, api.ErrText, 2)
	}
}

// Numbers are read just as they are told, up to what their field holds.
func TestParseNumbers(t *testing.T) {
	forms := map[string]struct{ most, more string }{
		"limit N":                                        {"9223372036854775807", "9223372036854775808"},
		"area 0.0.0.1 nssa cost N":                       {"4294967295", "4294967296"},
		"iface x 1.1.1.1/N area 0.0.0.0 nbma":            {"255", "256"},
		"iface x 1.1.1.1/8 area 0.0.0.0 nbma cost N":     {"65535", "65536"},
		"iface x 1.1.1.1/8 area 0.0.0.0 nbma priority N": {"255", "256"},
		"iface x 1.1.1.1/8 area 0.0.0.0 nbma hello N":    {"65535", "65536"},
		"iface x 1.1.1.1/8 area 0.0.0.0 nbma dead N":     {"65535", "65536"},
		"iface x 1.1.1.1/8 area 0.0.0.0 nbma poll N":     {"65535", "65536"},
		"iface x 1.1.1.1/8 area 0.0.0.0 nbma again N":    {"65535", "65536"},
		"iface x 1.1.1.1/8 area 0.0.0.0 nbma delay N":    {"65535", "65536"},
		"iface x 1.1.1.1/8 area 0.0.0.0 nbma mtu N":      {"65535", "65536"},
		"peer n0 10.0.0.2 N":                             {"255", "256"},
		"key n0 N plain 61 0 9 0 9":                      {"255", "256"},
		"key n0 1 plain 61 N 9 0 9":                      {"9223372036854775807", "9223372036854775808"},
		"key n0 1 plain 61 0 N 0 9":                      {"9223372036854775807", "9223372036854775808"},
		"key n0 1 plain 61 0 9 N 9":                      {"9223372036854775807", "9223372036854775808"},
		"key n0 1 plain 61 0 9 0 N":                      {"9223372036854775807", "9223372036854775808"},
		"vkey 0.0.0.1 2.2.2.2 N plain 61 0 9 0 9":        {"255", "256"},
		"vkey 0.0.0.1 2.2.2.2 1 plain 61 0 9 0 N":        {"9223372036854775807", "9223372036854775808"},
		"virtual 0.0.0.1 3.3.3.3 hello N":                {"65535", "65536"},
		"virtual 0.0.0.1 3.3.3.3 delay N":                {"65535", "65536"},
		"outer 9.0.0.0/8 metric N":                       {"4294967295", "4294967296"},
		"outer 9.0.0.0/8 tag N":                          {"4294967295", "4294967296"},
		"opaque N 1 -":                                   {"255", "256"},
		"opaque 11 N -":                                  {"4294967295", "4294967296"},
	}
	head := top + a1 + n0 + v2
	for form, row := range forms {
		line := func(n string) string { return head + strings.Replace(form, "N", n, 1) }
		for _, n := range []string{"0", "1", "9", row.most} {
			if e := wantAsSaid(t, line(n)); e == api.ErrText {
				t.Errorf("P9.4: %s of %s: ErrText", form, n)
			}
		}
		for _, n := range []string{row.more, "00", "01", "+1", "-1", "-0", "1.", "0x1", "1_0", "1e1", "a", "-", "18446744073709551616", "18446744073709551617", strings.Repeat("9", 5000), "٣"} {
			wantRefused(t, line(n), api.ErrText, 6)
		}
	}
}

func TestParseBytes(t *testing.T) {
	for _, w := range []string{"6", "616", "6A", "A6", "6g", "g6", "0x61", "--", "-6", "6-", "61-", "+1", "6.", "  ", "61 62", "é"} {
		wantRefused(t, top+"opaque 11 1 "+w, api.ErrText, 3)
		wantRefused(t, top+e0+"key e0 1 plain "+w+" 0 9 0 9", api.ErrText, 4)
	}
	wantRefused(t, top+e0+"key e0 1 plain - 0 9 0 9", api.ErrKey, 3)
	c, e, _ := config.Parse([]byte(top + e0 + "key e0 1 digest 00abcdef0123456789ff 0 9 0 9"))
	if want := "\x00\xab\xcd\xef\x01\x23\x45\x67\x89\xff"; e != api.OK || string(c.Ifaces[0].Keys[0].Secret) != want {
		t.Errorf("P9.4: %+v, %d; want the secret %q", c, e, want)
	}
}

func TestParseRightWordsFirst(t *testing.T) {
	for src, want := range map[string]struct {
		e    api.Errno
		line int
	}{
		"range 0.0.0 10.0.0.1/8":                                               {api.ErrText, 1},
		"range 0.0.0.0 10.0.0.1/8 what":                                        {api.ErrPrefix, 1},
		"range 0.0.0.0 10.0.0.1/8 hide hide":                                   {api.ErrPrefix, 1},
		"range 0.0.0.0 10.0.0.0/8 hide hide":                                   {api.ErrText, 1},
		"range 0.0.0.0 10.0.0.1/33":                                            {api.ErrText, 1},
		"range 0.0.0.0 10.0.0.1/08":                                            {api.ErrText, 1},
		"range 0.0.0.0 10.0.0.1":                                               {api.ErrText, 1},
		"range 0.0.0.0 0.0.0.1/0":                                              {api.ErrPrefix, 1},
		"range 0.0.0.0 0.0.0.1/31":                                             {api.ErrPrefix, 1},
		"outer 10.0.0.1/8 metric x":                                            {api.ErrPrefix, 1},
		"outer 10.0.0.0/8 metric x":                                            {api.ErrText, 1},
		"outer 10.0.0.1/8\nouter":                                              {api.ErrPrefix, 1},
		"outer\nouter 10.0.0.1/8":                                              {api.ErrText, 1},
		"router 1.1.1.1\nrouter 1.1.1":                                         {api.ErrText, 2},
		"router 1.1.1.1\nrouter 1.1.1.1 x":                                     {api.ErrText, 2},
		"router 0.0.0.0\nrouter 1.1.1.1":                                       {api.ErrTwice, 2},
		"limit 0\nlimit 0":                                                     {api.ErrTwice, 2},
		"limit 1\nlimit 1 1":                                                   {api.ErrText, 2},
		"limit 5000\n\nlimit 5":                                                {api.ErrTwice, 3},
		"stub-router\n#\nstub-router":                                          {api.ErrTwice, 3},
		"stub-router\nstub-router 1":                                           {api.ErrText, 2},
		"router 1.1.1.1\nlimit 1\nstub-router\nlimit 1":                        {api.ErrTwice, 4},
		"peer e0 10.0.0 1":                                                     {api.ErrText, 1},
		"peer e0 10.0.0.1 1":                                                   {api.ErrNone, 1},
		"peer e0 10.0.0.1 1 1":                                                 {api.ErrText, 1},
		"key e0 1 plain 61 0 9 0 x":                                            {api.ErrText, 1},
		"key e0 1 plain 61 0 9 0 9":                                            {api.ErrNone, 1},
		"vkey 0.0.0.1 2.2.2.2 1 plain 61 0 9 0 9":                              {api.ErrNone, 1},
		"vkey 0.0.0.1 2.2.2.2 1 plain 61 0 9 0 9 9":                            {api.ErrText, 1},
		"peer e0 10.0.0.1 1\n" + e0:                                            {api.ErrNone, 1},
		e0 + "peer e1 10.0.0.1 1":                                              {api.ErrNone, 2},
		e0 + "key e 1 plain 61 0 9 0 9":                                        {api.ErrNone, 2},
		v2 + "vkey 0.0.0.2 2.2.2.2 1 plain 61 0 9 0 9":                         {api.ErrNone, 2},
		v2 + "vkey 0.0.0.1 1.2.2.2 1 plain 61 0 9 0 9":                         {api.ErrNone, 2},
		"vkey 0.0.0.1 2.2.2.2 1 plain 61 0 9 0 9\n" + v2:                       {api.ErrNone, 1},
		"area 0.0.0.0 stub\nhop":                                               {api.ErrText, 2},
		"limit 4097\narea 0.0.0.0 stub\nouter 9.0.0.0/8\nouter 9.0.0.1/8\nhop": {api.ErrPrefix, 4},
	} {
		wantRefused(t, src, want.e, want.line)
	}
}

// At the end the item that Check names is told by its own line, whatever stands between.
func TestParseLineOfTheItem(t *testing.T) {
	for src, want := range map[string]struct {
		e    api.Errno
		line int
	}{
		"#\nrouter 0.0.0.0\narea 0.0.0.0 stub":                               {api.ErrConfig, 0},
		"area 0.0.0.0 stub":                                                  {api.ErrConfig, 0},
		"limit 4097\nrouter 1.1.1.1":                                         {api.ErrConfig, 0},
		"\n\narea 0.0.0.0 stub\nrouter 1.1.1.1":                              {api.ErrConfig, 3},
		"outer 9.0.0.0/8\n" + top + "\nouter 9.0.0.0/8":                      {api.ErrTwice, 5},
		"opaque 8 1 -\nrange 0.0.0.0 9.0.0.0/8 outer\n" + top:                {api.ErrConfig, 2},
		"opaque 8 1 -\n" + top + e0 + "iface e0 1.1.1.1/8 area 0.0.0.0 nbma": {api.ErrTwice, 5},
		top + e0 + "\n\npeer e0 10.0.0.2 1":                                  {api.ErrConfig, 3},
		top + n0 + "peer n0 10.0.0.2 1\npeer n0 10.0.0.2 2":                  {api.ErrConfig, 3},
		top + n0 + "peer n0 0.0.0.0 1":                                       {api.ErrConfig, 3},
		top + e0 + "key e0 1 plain 61 0 9 0 9\nkey e0 1 plain 62 0 9 0 9":    {api.ErrKey, 3},
		top + e0 + "key e0 1 plain 61 9 8 0 9":                               {api.ErrKey, 3},
		top + a1 + v2 + "vkey 0.0.0.1 2.2.2.2 1 plain - 0 9 0 9":             {api.ErrKey, 4},
		top + a1 + v2 + "virtual 0.0.0.1 2.2.2.2":                            {api.ErrTwice, 5},
		top + "virtual 0.0.0.1 0.0.0.0":                                      {api.ErrArea, 3},
		top + a1 + "virtual 0.0.0.1 0.0.0.0":                                 {api.ErrConfig, 4},
		top + "iface e0 10.0.0.1/33 area 0.0.0.0 nbma":                       {api.ErrConfig, 3},
		top + "iface e0 0.0.0.0/8 area 0.0.0.0 nbma":                         {api.ErrConfig, 3},
		top + "iface E0 10.0.0.1/8 area 0.0.0.0 nbma":                        {api.ErrConfig, 3},
		top + "iface e0 10.0.0.1/8 area 0.0.0.0 nbma mtu 575":                {api.ErrConfig, 3},
		top + "outer 9.0.0.0/8 metric 16777216":                              {api.ErrConfig, 3},
		top + "area 0.0.0.1 stub cost 16777216":                              {api.ErrConfig, 3},
		top + "area 0.0.0.1 normal no-summary":                               {api.ErrConfig, 3},
		top + "area 0.0.0.1 stub translate always":                           {api.ErrConfig, 3},
		top + "opaque 12 1 -":                                                {api.ErrConfig, 3},
		top + "opaque 11 1 616263":                                           {api.ErrConfig, 3},
		top + "opaque 11 1 " + strings.Repeat("00", 1404):                    {api.ErrConfig, 3},
		top + e0 + "opaque 11 1 - iface e0":                                  {api.ErrConfig, 4},
		top + e0 + "opaque 10 1 - iface e0":                                  {api.ErrConfig, 4},
		top + a1 + "opaque 11 1 - area 0.0.0.1":                              {api.ErrConfig, 4},
		top + a1 + e0 + "opaque 9 1 - iface e0 area 0.0.0.1":                 {api.ErrConfig, 5},
		top + "opaque 10 1 - area 0.0.0.7":                                   {api.ErrArea, 3},
		top + "opaque 9 1 - iface e0":                                        {api.ErrNone, 3},
	} {
		wantRefused(t, src, want.e, want.line)
	}
}

// Of several with one name, what stands behind them is of the last one.
func TestParseOfSeveralTheLast(t *testing.T) {
	wantRefused(t, top+e0+e0+"peer e0 10.0.0.2 1", api.ErrConfig, 4)
	wantRefused(t, top+e0+"peer e0 10.0.0.2 1\n"+e0, api.ErrConfig, 3)
	wantRefused(t, top+e0+e0+"key e0 1 plain - 0 9 0 9", api.ErrTwice, 4)
	wantRefused(t, top+e0+"key e0 1 plain - 0 9 0 9\n"+e0, api.ErrKey, 3)
	wantRefused(t, top+a1+v2+v2+"vkey 0.0.0.1 2.2.2.2 1 plain - 0 9 0 9", api.ErrTwice, 5)
	wantRefused(t, top+a1+v2+"vkey 0.0.0.1 2.2.2.2 1 plain - 0 9 0 9\n"+v2, api.ErrKey, 4)
	// of one that is another area's, or another router's, it is none
	src := top + a1 + "area 0.0.0.2 normal\n" + v2 + "virtual 0.0.0.2 2.2.2.2\nvirtual 0.0.0.1 3.3.3.3\nvkey 0.0.0.1 2.2.2.2 1 plain 61 0 9 0 9"
	c, e, _ := config.Parse([]byte(src))
	if e != api.OK || len(c.Virtuals[0].Keys) != 1 || len(c.Virtuals[1].Keys) != 0 || len(c.Virtuals[2].Keys) != 0 {
		t.Errorf("P9.4: %+v, %d; want a key of the first virtual link", c, e)
	}
}

func TestParseMany(t *testing.T) {
	text := func(item string, n int) string {
		return top + strings.Join(repeat(n, func(i int) string {
			num := strings.NewReplacer("HIGH", tens(i/256), "LOW", tens(i%256), "MORE", tens(i/256+1), "NUMBER", tens(i))
			return num.Replace(item)
		}), "\n#\n")
	}
	for item, most := range map[string]int{
		"range 0.0.0.0 10.HIGH.LOW.0/24":                 256,
		"iface e-NUMBER 10.0.0.LOW/24 area 0.0.0.9 nbma": 32,
		"virtual 0.0.0.1 2.2.2.LOW":                      32,
		"outer 10.HIGH.LOW.0/24":                         1024,
		"opaque 11 NUMBER -":                             256,
		"area 0.0.MORE.LOW stub":                         15,
	} {
		if e := wantAsSaid(t, text(item, most)); e == api.ErrMany {
			t.Errorf("P9.4: %d of %s: ErrMany", most, item)
		}
		wantRefused(t, text(item, most+1), api.ErrMany, 3+2*most)
		wantRefused(t, text(item, most+5), api.ErrMany, 3+2*most)
		wantRefused(t, text(item, most+5)+"\nhop", api.ErrText, 3+2*(most+4)+1)
	}
}

func tens(n int) string {
	s := string(rune('0' + n%10))
	for n /= 10; n > 0; n /= 10 {
		s = string(rune('0'+n%10)) + s
	}
	return s
}

// Lines of unlike parts may change places, if a peer's, a key's stay behind what they are of.
func TestLinesChangePlaces(t *testing.T) {
	r := rand.New(rand.NewPCG(9, 6))
	for range 300 {
		heaps := map[string][]string{} // what must stay in order
		var names []string
		for _, line := range strings.Split(strings.TrimSuffix(textOfFull(), "\n"), "\n") {
			name, _, _ := strings.Cut(line, " ")
			switch name {
			case "peer", "key":
				name = "iface"
			case "vkey":
				name = "virtual"
			}
			heaps[name] = append(heaps[name], line)
			names = append(names, name)
		}
		r.Shuffle(len(names), func(i, j int) { names[i], names[j] = names[j], names[i] })
		var l []string
		for _, name := range names {
			l = append(l, heaps[name][0])
			heaps[name] = heaps[name][1:]
		}
		wantParsed(t, strings.Join(l, "\n"), full())
	}
	apart := top + n0 + "iface n1 10.0.0.2/24 area 0.0.0.0 nbma\nkey n0 1 plain 61 0 9 0 9\npeer n1 10.0.0.3 1\npeer n0 10.0.0.4 2\npeer n1 10.0.0.5 3\n"
	c, e, _ := config.Parse([]byte(apart))
	if s, _ := config.Text(c); e != api.OK || !strings.HasSuffix(s, "peer n1 10.0.0.3 1\npeer n1 10.0.0.5 3\n") || !strings.Contains(s, "peer n0 10.0.0.4 2\nkey n0 1 plain 61 0 9 0 9\niface n1") {
		t.Errorf("P9.4: Text of %q: %q, %d", apart, s, e)
	}
}

// pool: words that may stand anywhere.
var pool = []string{
	"router", "limit", "stub-router", "area", "range", "iface", "peer", "key", "virtual", "vkey", "outer", "opaque",
	"normal", "stub", "nssa", "no-summary", "cost", "translate", "always", "never", "candidate", "hide", "broadcast", "nbma", "multi", "point", "priority", "hello", "dead", "poll", "again", "delay", "mtu", "passive", "demand", "plain", "digest", "metric", "type", "forward", "tag",
	"e0", "p0", "m-0", "b", "B", "-", "#", "\t", "0", "1", "2", "3", "9", "10", "11", "12", "61", "6162", "255", "256", "00", "65535", "65536", "16777216", "4294967295", "4294967296", "-1",
	"0.0.0.0", "0.0.0.1", "0.0.0.2", "0.0.0.9", "1.1.1.1", "2.2.2.2", "10.0.0.1", "0.0.0.0/0", "10.0.0.0/8", "10.0.0.1/8", "10.0.0.1/24", "10.0.0.1/33",
}

// shift changes words, or lines, of a text that are picked by chance.
func shift(r *rand.Rand, lines [][]string) [][]string {
	i := r.IntN(len(lines))
	j := r.IntN(len(lines[i]))
	k := r.IntN(len(lines))
	switch r.IntN(8) {
	case 0, 1:
		lines[i][j] = pool[r.IntN(len(pool))]
	case 2:
		lines[i] = slices.Insert(lines[i], j, pool[r.IntN(len(pool))])
	case 3:
		lines[i] = append(lines[i], lines[i][j:]...)
	case 4:
		if len(lines[i]) > 1 {
			lines[i] = slices.Delete(lines[i], j, j+1)
		}
	case 5:
		m := r.IntN(len(lines[i]))
		lines[i][j], lines[i][m] = lines[i][m], lines[i][j]
	case 6:
		lines[i], lines[k] = lines[k], lines[i]
	case 7:
		lines = slices.Insert(lines, k, slices.Clone(lines[i]))
	}
	return lines
}

func TestParseByChance(t *testing.T) {
	r := rand.New(rand.NewPCG(9, 7))
	seen := map[api.Errno]int{}
	src, _ := config.Text(shakeless())
	for range 20000 {
		var lines [][]string
		for _, line := range strings.Split(strings.TrimSuffix(src, "\n"), "\n") {
			lines = append(lines, strings.Fields(line))
		}
		for range 1 + r.IntN(3) {
			lines = shift(r, lines)
		}
		seen[wantAsSaid(t, joined(lines))]++
	}
	for range 10000 {
		b := []byte(src)
		for range 1 + r.IntN(3) {
			b[r.IntN(len(b))] = " \n#0129af./-e\t\xff"[r.IntN(15)]
		}
		seen[wantAsSaid(t, string(b))]++
	}
	for _, e := range []api.Errno{api.OK, api.ErrText, api.ErrPrefix, api.ErrTwice, api.ErrNone, api.ErrArea, api.ErrConfig, api.ErrKey} {
		if seen[e] < 20 {
			t.Errorf("P9.4: %d came %d times alone: chance asks too little", e, seen[e])
		}
	}
}

// shakeless: the full configuration, without its many bytes.
func shakeless() api.Config {
	c := full()
	c.Opaques[4].Data = c.Opaques[4].Data[:4]
	return c
}

func joined(lines [][]string) string {
	var l []string
	for _, words := range lines {
		l = append(l, strings.Join(words, " "))
	}
	return strings.Join(l, "\n")
}

// R1: each row of bytes is answered.
func TestParseAnyBytes(t *testing.T) {
	r := rand.New(rand.NewPCG(9, 8))
	for range 5000 {
		b := make([]byte, r.IntN(40))
		for i := range b {
			b[i] = byte(r.Uint32())
		}
		wantAsSaid(t, string(b))
	}
	for range 20000 {
		l := repeat(r.IntN(9), func(int) string { return pool[r.IntN(len(pool))] })
		wantAsSaid(t, top+strings.Join(l, " "))
	}
	wantRefused(t, string([]byte(nil)), api.ErrConfig, 0)
}

func TestParseMemory(t *testing.T) {
	src := []byte(textOfFull())
	kept := slices.Clone(src)
	c, e, _ := config.Parse(src)
	if e != api.OK || !slices.Equal(src, kept) {
		t.Fatalf("R5: Parse: %d; its argument is changed: %v", e, !slices.Equal(src, kept))
	}
	for i := range src {
		src[i] = '?'
	}
	if !likes(c, full()) {
		t.Errorf("R5: Parse keeps its argument: %+v", c)
	}
	spoil(&c)
	if d, e, _ := config.Parse(kept); e != api.OK || !likes(d, full()) {
		t.Errorf("R6: Parse hangs on what was done to another answer: %+v, %d", d, e)
	}
}

// R5: no two lists of one answer share memory, spare room neither.
func TestParseListsApart(t *testing.T) {
	c, _, _ := config.Parse([]byte(textOfFull()))
	f := c.Ifaces
	f[0].Peers = append(f[0].Peers, api.Peer{Addr: math.MaxUint32})
	f[0].Keys = append(f[0].Keys, api.AuthKey{ID: 99})
	f[0].Keys[0].Secret = append(f[0].Keys[0].Secret, 99)
	f[0].Peers, f[0].Keys[0].Secret, f[0].Keys = f[0].Peers[:2], f[0].Keys[0].Secret[:2], f[0].Keys[:2]
	for i := range c.Opaques {
		c.Opaques[i].Data = append(c.Opaques[i].Data, 99)[:len(c.Opaques[i].Data)]
	}
	if !likes(c, full()) {
		t.Errorf("R5: lists share memory: %+v", c)
	}
}
