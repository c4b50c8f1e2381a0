package config_test

import (
	"bytes"
	"math/big"
	"math/bits"
	"reflect"
	"regexp"
	"slices"
	"strconv"
	"strings"
	"testing"

	"lodestar/api"
	"lodestar/config"
)

// What the document says, told once more, so that the package is held against it.

// times: as they are where a line says nothing else.
var times = api.Times{Hello: 10, Dead: 40, Poll: 120, Again: 5, Delay: 1}

func key(id uint8, kind uint16, secret string) api.AuthKey {
	return api.AuthKey{ID: id, Kind: kind, Secret: []byte(secret), SendUntil: 9, TakeFrom: 1, TakeUntil: 8}
}

// full: a configuration with something of everything.
func full() api.Config {
	return api.Config{
		Router:   0x01010101,
		Limit:    9,
		StubOnly: true,
		Areas: []api.Area{
			{},
			{ID: 1, Kind: 2, NoSummary: true, Cost: 5, Translate: 1},
			{ID: 2},
			{ID: 3, Kind: 1, Cost: 0xFFFFFF},
			{ID: 0xFFFFFFFF, Kind: 2, Translate: 2},
		},
		Ranges: []api.Range{
			{Area: 1, Prefix: api.Prefix{Addr: 0x0A000000, Bits: 8}, Outer: true, Hide: true},
			{Area: 1, Prefix: api.Prefix{Addr: 0x0A010000, Bits: 16}},
			{Area: 2, Prefix: api.Prefix{Addr: 0x0A010000, Bits: 16}, Hide: true},
			{Area: 0xFFFFFFFF, Prefix: api.Prefix{}, Outer: true},
		},
		Ifaces: []api.Iface{
			{Name: "e0", Addr: 0x0A000001, Bits: 24, Kind: 1, Cost: 7, Times: api.Times{Hello: 1, Dead: 2, Poll: 3, Again: 4, Delay: 5}, MTU: 1400, Passive: true,
				Peers: []api.Peer{{Addr: 0x0A000002, Priority: 1}, {Addr: 0x0A000003, Priority: 255}},
				Keys:  []api.AuthKey{key(1, 2, "ab"), key(2, 2, "\x00\xff\x10")}},
			{Name: "p0", Addr: 0x0A010001, Bits: 30, Area: 2, Kind: 3, Cost: 1, Priority: 1, Times: times, MTU: 1500, Demand: true},
			{Name: "m-0", Addr: 0x0A020001, Bits: 32, Area: 3, Kind: 2, Cost: 65535, Priority: 255, Times: times, MTU: 576, Passive: true, Demand: true,
				Peers: []api.Peer{{Addr: 1, Priority: 0}}},
			{Name: "b", Addr: 0xFFFFFFFF, Bits: 0, Area: 1, Kind: 0, Cost: 10, Priority: 1, Times: times, MTU: 65535,
				Keys: []api.AuthKey{key(0, 1, "12345678")}},
		},
		Virtuals: []api.Virtual{
			{Area: 2, Router: 0x02020202, Times: times, Keys: []api.AuthKey{key(3, 1, "a"), key(255, 1, "b")}},
			{Area: 2, Router: 0x03030303, Times: api.Times{Hello: 65534, Dead: 65535, Poll: 0, Again: 65535, Delay: 65535}},
		},
		Outers: []api.Outer{
			{Prefix: api.Prefix{Addr: 0xC0A80000, Bits: 16}, Type2: true, Metric: 20, Forward: 0x0A000009, Tag: 7},
			{Prefix: api.Prefix{}, Metric: 0xFFFFFF, Tag: 0xFFFFFFFF},
			{Prefix: api.Prefix{Addr: 0xC0A80000, Bits: 17}},
		},
		Opaques: []api.Opaque{
			{Type: 9, ID: 1, Iface: "e0", Data: []byte("abcd")},
			{Type: 9, ID: 1, Iface: "p0"},
			{Type: 10, ID: 1, Area: 1, Data: []byte{0, 0xFF, 0x0A, 0xA0}},
			{Type: 10, ID: 1},
			{Type: 11, ID: 1, Data: bytes.Repeat([]byte{0x5A}, 1400)},
			{Type: 11, ID: 0xFFFFFFFF},
		},
	}
}

// fullText: its text.
const fullText = `router 1.1.1.1
limit 9
stub-router
area 0.0.0.0 normal
area 0.0.0.1 nssa no-summary cost 5 translate always
area 0.0.0.2 normal
area 0.0.0.3 stub cost 16777215
area 255.255.255.255 nssa translate never
range 0.0.0.1 10.0.0.0/8 outer hide
range 0.0.0.1 10.1.0.0/16
range 0.0.0.2 10.1.0.0/16 hide
range 255.255.255.255 0.0.0.0/0 outer
iface e0 10.0.0.1/24 area 0.0.0.0 nbma cost 7 priority 0 hello 1 dead 2 poll 3 again 4 delay 5 mtu 1400 passive
peer e0 10.0.0.2 1
peer e0 10.0.0.3 255
key e0 1 digest 6162 0 9 1 8
key e0 2 digest 00ff10 0 9 1 8
iface p0 10.1.0.1/30 area 0.0.0.2 point cost 1 priority 1 hello 10 dead 40 poll 120 again 5 delay 1 mtu 1500 demand
iface m-0 10.2.0.1/32 area 0.0.0.3 multi cost 65535 priority 255 hello 10 dead 40 poll 120 again 5 delay 1 mtu 576 passive demand
peer m-0 0.0.0.1 0
iface b 255.255.255.255/0 area 0.0.0.1 broadcast cost 10 priority 1 hello 10 dead 40 poll 120 again 5 delay 1 mtu 65535
key b 0 plain 3132333435363738 0 9 1 8
virtual 0.0.0.2 2.2.2.2 hello 10 dead 40 poll 120 again 5 delay 1
vkey 0.0.0.2 2.2.2.2 3 plain 61 0 9 1 8
vkey 0.0.0.2 2.2.2.2 255 plain 62 0 9 1 8
virtual 0.0.0.2 3.3.3.3 hello 65534 dead 65535 poll 0 again 65535 delay 65535
outer 192.168.0.0/16 metric 20 type 2 forward 10.0.0.9 tag 7
outer 0.0.0.0/0 metric 16777215 type 1 tag 4294967295
outer 192.168.0.0/17 metric 0 type 1
opaque 9 1 61626364 iface e0
opaque 9 1 - iface p0
opaque 10 1 00ff0aa0 area 0.0.0.1
opaque 10 1 - area 0.0.0.0
opaque 11 1 DATA
opaque 11 4294967295 -
`

func textOfFull() string { return strings.Replace(fullText, "DATA", strings.Repeat("5a", 1400), 1) }

// firstOf: the first error whose condition holds, in the order in which they are named.
func firstOf(rows ...any) api.Errno {
	for i := 0; i < len(rows); i += 2 {
		if rows[i+1].(bool) {
			return rows[i].(api.Errno)
		}
	}
	return api.OK
}

func isPrefix(p api.Prefix) bool {
	return p.Bits <= 32 && (p.Addr == 0 || bits.TrailingZeros32(p.Addr) >= 32-int(p.Bits))
}

func overlap(p, q api.Prefix) bool {
	n := 32 - int(min(p.Bits, q.Bits))
	return uint64(p.Addr)>>n == uint64(q.Addr)>>n
}

func areaWith(c api.Config, id uint32) *api.Area {
	for _, a := range c.Areas {
		if a.ID == id {
			return &a
		}
	}
	return nil
}

func goodTimes(t api.Times) bool {
	return t.Hello != 0 && t.Dead != 0 && t.Again != 0 && t.Delay != 0 && t.Hello < t.Dead
}

func goodKeys(l []api.AuthKey) bool {
	ids := map[uint8]int{}
	for _, k := range l {
		ids[k.ID]++
		most := map[uint16]int{1: 8, 2: 16}[k.Kind]
		spans := k.SendFrom >= 0 && k.SendFrom <= k.SendUntil && k.TakeFrom >= 0 && k.TakeFrom <= k.TakeUntil
		if len(k.Secret) == 0 || len(k.Secret) > most || k.Kind != l[0].Kind || ids[k.ID] > 1 || !spans {
			return false
		}
	}
	return len(l) <= 16
}

var nameForm = regexp.MustCompile(`\A[a-z][a-z0-9-]{0,15}\z`)

func badIface(f api.Iface) bool {
	bad := !nameForm.MatchString(f.Name) || f.Addr == 0 || f.Bits > 32 || f.Kind > 3 || f.Cost == 0 || !goodTimes(f.Times) || f.MTU < 576
	bad = bad || f.Kind == 1 && f.Times.Poll == 0
	bad = bad || len(f.Peers) != 0 && f.Kind != 1 && f.Kind != 2
	bad = bad || f.Demand && f.Kind != 2 && f.Kind != 3
	for i, p := range f.Peers {
		for _, q := range f.Peers[:i] {
			bad = bad || p.Addr == q.Addr
		}
		bad = bad || p.Addr == 0
	}
	return bad
}

func areaVerdict(c api.Config, n int) api.Errno {
	a := c.Areas[n]
	twice := false
	for _, b := range c.Areas[:n] {
		twice = twice || a.ID == b.ID
	}
	bad := a.Kind > 2 || a.Translate > 2 || a.ID == 0 && a.Kind != 0 || a.Cost > 1<<24-1
	bad = bad || a.Kind == 0 && a.NoSummary || a.Kind == 0 && a.Cost != 0 || a.Kind != 2 && a.Translate != 0
	return firstOf(api.ErrTwice, twice, api.ErrConfig, bad)
}

func rangeVerdict(c api.Config, n int) api.Errno {
	r := c.Ranges[n]
	a := areaWith(c, r.Area)
	twice := false
	for _, q := range c.Ranges[:n] {
		twice = twice || r.Area == q.Area && r.Outer == q.Outer && overlap(r.Prefix, q.Prefix)
	}
	return firstOf(api.ErrArea, a == nil, api.ErrPrefix, !isPrefix(r.Prefix), api.ErrConfig, r.Outer && a != nil && a.Kind != 2, api.ErrTwice, twice)
}

func ifaceVerdict(c api.Config, n int) api.Errno {
	f := c.Ifaces[n]
	twice := false
	for _, g := range c.Ifaces[:n] {
		twice = twice || f.Name == g.Name || f.Addr == g.Addr
	}
	return firstOf(api.ErrConfig, badIface(f), api.ErrTwice, twice, api.ErrArea, areaWith(c, f.Area) == nil, api.ErrKey, !goodKeys(f.Keys))
}

func virtualVerdict(c api.Config, n int) api.Errno {
	v := c.Virtuals[n]
	a := areaWith(c, v.Area)
	twice := false
	for _, w := range c.Virtuals[:n] {
		twice = twice || v.Area == w.Area && v.Router == w.Router
	}
	return firstOf(
		api.ErrArea, a == nil || a.Kind != 0 || v.Area == 0 || areaWith(c, 0) == nil,
		api.ErrConfig, v.Router == 0 || v.Router == c.Router || !goodTimes(v.Times),
		api.ErrTwice, twice, api.ErrKey, !goodKeys(v.Keys))
}

func outerVerdict(c api.Config, n int) api.Errno {
	o := c.Outers[n]
	twice := false
	for _, p := range c.Outers[:n] {
		twice = twice || o.Prefix == p.Prefix
	}
	return firstOf(api.ErrPrefix, !isPrefix(o.Prefix), api.ErrConfig, o.Metric > 1<<24-1, api.ErrTwice, twice)
}

func opaqueVerdict(c api.Config, n int) api.Errno {
	o := c.Opaques[n]
	none, twice := true, false
	for _, f := range c.Ifaces {
		none = none && f.Name != o.Iface
	}
	for _, p := range c.Opaques[:n] {
		twice = twice || o.Type == p.Type && o.Iface == p.Iface && o.Area == p.Area && o.ID == p.ID
	}
	bad := o.Type < 9 || o.Type > 11 || len(o.Data) > 1400 || len(o.Data)%4 != 0 || o.Iface != "" && o.Type != 9 || o.Area != 0 && o.Type != 10
	return firstOf(api.ErrConfig, bad, api.ErrNone, o.Type == 9 && none, api.ErrArea, o.Type == 10 && areaWith(c, o.Area) == nil, api.ErrTwice, twice)
}

// verdict: what Check must answer, by the words.
func verdict(c api.Config) (api.Errno, int, int) {
	if c.Router == 0 || c.Limit < 0 || c.Limit > 4096 {
		return api.ErrConfig, 0, 0
	}
	counts := []int{0, len(c.Areas), len(c.Ranges), len(c.Ifaces), len(c.Virtuals), len(c.Outers), len(c.Opaques)}
	for part, most := range []int{0, 16, 256, 32, 32, 1024, 256} {
		if counts[part] > most {
			return api.ErrMany, part, most
		}
	}
	of := []func(api.Config, int) api.Errno{nil, areaVerdict, rangeVerdict, ifaceVerdict, virtualVerdict, outerVerdict, opaqueVerdict}
	for part, count := range counts {
		for n := range count {
			if e := of[part](c, n); e != api.OK {
				return e, part, n
			}
		}
	}
	return api.OK, 0, 0
}

// form: of a line: what each word must be that is always there, and what may follow, with what must stand behind it.
type form struct {
	must []string
	may  map[string]string
}

var timeForm = map[string]string{"hello": "16", "dead": "16", "poll": "16", "again": "16", "delay": "16"}

var ifaceForm = map[string]string{"cost": "16", "priority": "8", "hello": "16", "dead": "16", "poll": "16", "again": "16", "delay": "16", "mtu": "16", "passive": "", "demand": ""}

var forms = map[string]form{
	"router":      {must: []string{"address"}},
	"limit":       {must: []string{"63"}},
	"stub-router": {},
	"area":        {[]string{"address", "(normal|stub|nssa)"}, map[string]string{"no-summary": "", "cost": "32", "translate": "(always|never)"}},
	"range":       {[]string{"address", "prefix"}, map[string]string{"outer": "", "hide": ""}},
	"iface":       {[]string{"word", "host", "(area)", "address", "(broadcast|nbma|multi|point)"}, ifaceForm},
	"peer":        {must: []string{"word", "address", "8"}},
	"key":         {must: []string{"word", "8", "(plain|digest)", "bytes", "63", "63", "63", "63"}},
	"virtual":     {[]string{"address", "address"}, timeForm},
	"vkey":        {must: []string{"address", "address", "8", "(plain|digest)", "bytes", "63", "63", "63", "63"}},
	"outer":       {[]string{"prefix"}, map[string]string{"metric": "32", "type": "(1|2)", "forward": "address", "tag": "32"}},
	"opaque":      {[]string{"8", "32", "bytes"}, map[string]string{"iface": "word", "area": "address"}},
}

const (
	eight    = `(25[0-5]|2[0-4][0-9]|1[0-9][0-9]|[1-9][0-9]|[0-9])`
	numberRE = `(0|[1-9][0-9]*)`
	addrRE   = eight + `(\.` + eight + `){3}`
)

var wordForms = map[string]*regexp.Regexp{
	"number":  regexp.MustCompile(`\A` + numberRE + `\z`),
	"address": regexp.MustCompile(`\A` + addrRE + `\z`),
	"prefix":  regexp.MustCompile(`\A` + addrRE + `/(3[0-2]|[12][0-9]|[0-9])\z`),
	"host":    regexp.MustCompile(`\A` + addrRE + `/` + eight + `\z`),
	"bytes":   regexp.MustCompile(`\A(-|([0-9a-f][0-9a-f])+)\z`),
	"word":    regexp.MustCompile(`(?s)\A.+\z`),
}

// wordVerdict: what is wrong with a word that must be of a sort.
func wordVerdict(w, sort string) api.Errno {
	if sort[0] == '(' {
		if !slices.Contains(strings.Split(strings.Trim(sort, "()"), "|"), w) {
			return api.ErrText
		}
		return api.OK
	}
	if size, err := strconv.Atoi(sort); err == nil {
		n, _ := new(big.Int).SetString(w, 10)
		if !wordForms["number"].MatchString(w) || n.BitLen() > size {
			return api.ErrText
		}
		return api.OK
	}
	if !wordForms[sort].MatchString(w) {
		return api.ErrText
	}
	if sort == "prefix" && !isPrefix(prefixOf(w)) {
		return api.ErrPrefix
	}
	return api.OK
}

// said: what a line's words say: those that are always there, and, by their names, what follows.
type said struct {
	first string
	must  []string
	may   map[string]string
}

// lineVerdict: what a line says, or what is wrong with its words, from the left.
func lineVerdict(l []string) (said, api.Errno) {
	f, is := forms[l[0]]
	if !is {
		return said{}, api.ErrText
	}
	s := said{first: l[0], may: map[string]string{}}
	l = l[1:]
	for _, sort := range f.must {
		if len(l) == 0 {
			return said{}, api.ErrText
		}
		if e := wordVerdict(l[0], sort); e != api.OK {
			return said{}, e
		}
		s.must, l = append(s.must, l[0]), l[1:]
	}
	for len(l) > 0 {
		name := l[0]
		sort, is := f.may[name]
		_, again := s.may[name]
		if !is || again {
			return said{}, api.ErrText
		}
		s.may[name], l = "", l[1:]
		if sort == "" {
			continue
		}
		if len(l) == 0 || wordVerdict(l[0], sort) != api.OK {
			return said{}, api.ErrText
		}
		s.may[name], l = l[0], l[1:]
	}
	return s, api.OK
}

func addressOf(w string) uint32 {
	v := uint32(0)
	for _, s := range strings.Split(w, ".") {
		n, _ := strconv.Atoi(s)
		v = v<<8 + uint32(n)
	}
	return v
}

func prefixOf(w string) api.Prefix {
	a, b, _ := strings.Cut(w, "/")
	return api.Prefix{Addr: addressOf(a), Bits: uint8(numberOf(b))}
}

func numberOf(w string) int { n, _ := strconv.Atoi(w); return n }

func bytesOf(w string) []byte {
	var l []byte
	for ; len(w) > 1; w = w[2:] {
		n, _ := strconv.ParseUint(w[:2], 16, 8)
		l = append(l, byte(n))
	}
	return l
}

func place(l string, w string) int { return slices.Index(strings.Split(l, "|"), w) }

// number: what an option says; other, if it is left out.
func (s said) number(name string, other int) int {
	if w, is := s.may[name]; is {
		return numberOf(w)
	}
	return other
}

func (s said) address(name string) uint32 {
	if w, is := s.may[name]; is {
		return addressOf(w)
	}
	return 0
}

func (s said) has(name string) bool { _, is := s.may[name]; return is }

func (s said) times() api.Times {
	n := func(name string, other int) uint16 { return uint16(s.number(name, other)) }
	return api.Times{Hello: n("hello", 10), Dead: n("dead", 40), Poll: n("poll", 120), Again: n("again", 5), Delay: n("delay", 1)}
}

func (s said) key(at int) api.AuthKey {
	l := s.must[at:]
	return api.AuthKey{ID: uint8(numberOf(l[0])), Kind: uint16(1 + place("plain|digest", l[1])), Secret: bytesOf(l[2]),
		SendFrom: numberOf(l[3]), SendUntil: numberOf(l[4]), TakeFrom: numberOf(l[5]), TakeUntil: numberOf(l[6])}
}

// draft: what lines said so far; by part, the items' lines.
type draft struct {
	c     api.Config
	once  map[string]int
	lines [7][]int
}

// parsed: what Parse must answer, by the words.
func parsed(src string) (api.Config, api.Errno, int) {
	if len(src) > 65536 {
		return api.Config{}, api.ErrMany, 0
	}
	d := draft{once: map[string]int{}}
	for i, line := range strings.Split(src, "\n") {
		line, _, _ = strings.Cut(line, "#")
		l := strings.Split(strings.NewReplacer("\t", " ", "\r", " ").Replace(line), " ")
		l = slices.DeleteFunc(l, func(w string) bool { return w == "" })
		if len(l) == 0 {
			continue
		}
		s, e := lineVerdict(l)
		if e == api.OK {
			e = d.take(s, i+1)
		}
		if e != api.OK {
			return api.Config{}, e, i + 1
		}
	}
	e, part, n := verdict(d.c)
	switch {
	case e == api.OK:
		return d.c, e, 0
	case part == 0:
		return api.Config{}, e, 0
	}
	return api.Config{}, e, d.lines[part][n]
}

func (d *draft) take(s said, line int) api.Errno {
	part := place("|area|range|iface|virtual|outer|opaque", s.first)
	if part > 0 {
		d.lines[part] = append(d.lines[part], line)
	}
	m := s.must
	switch c := &d.c; s.first {
	case "router", "limit", "stub-router":
		return d.takeOnce(s)
	case "peer", "key", "vkey":
		return d.takeBehind(s)
	case "area":
		c.Areas = append(c.Areas, api.Area{ID: addressOf(m[0]), Kind: uint8(place("normal|stub|nssa", m[1])), NoSummary: s.has("no-summary"), Cost: uint32(s.number("cost", 0)), Translate: uint8(max(0, place("|always|never", s.may["translate"])))})
	case "range":
		c.Ranges = append(c.Ranges, api.Range{Area: addressOf(m[0]), Prefix: prefixOf(m[1]), Outer: s.has("outer"), Hide: s.has("hide")})
	case "iface":
		p := prefixOf(m[1])
		c.Ifaces = append(c.Ifaces, api.Iface{Name: m[0], Addr: p.Addr, Bits: p.Bits, Area: addressOf(m[3]), Kind: uint8(place("broadcast|nbma|multi|point", m[4])), Cost: uint16(s.number("cost", 10)), Priority: uint8(s.number("priority", 1)), Times: s.times(), MTU: uint16(s.number("mtu", 1500)), Passive: s.has("passive"), Demand: s.has("demand")})
	case "virtual":
		c.Virtuals = append(c.Virtuals, api.Virtual{Area: addressOf(m[0]), Router: addressOf(m[1]), Times: s.times()})
	case "outer":
		c.Outers = append(c.Outers, api.Outer{Prefix: prefixOf(m[0]), Metric: uint32(s.number("metric", 0)), Type2: s.may["type"] == "2", Forward: s.address("forward"), Tag: uint32(s.number("tag", 0))})
	case "opaque":
		c.Opaques = append(c.Opaques, api.Opaque{Type: uint8(numberOf(m[0])), ID: uint32(numberOf(m[1])), Data: bytesOf(m[2]), Iface: s.may["iface"], Area: s.address("area")})
	}
	return api.OK
}

func (d *draft) takeOnce(s said) api.Errno {
	if d.once[s.first]++; d.once[s.first] > 1 {
		return api.ErrTwice
	}
	switch s.first {
	case "router":
		d.c.Router = addressOf(s.must[0])
	case "limit":
		d.c.Limit = numberOf(s.must[0])
	case "stub-router":
		d.c.StubOnly = true
	}
	return api.OK
}

func (d *draft) takeBehind(s said) api.Errno {
	e, m := api.ErrNone, s.must
	for i := len(d.c.Ifaces) - 1; i >= 0 && e != api.OK && s.first != "vkey"; i-- {
		if f := &d.c.Ifaces[i]; f.Name == m[0] {
			e = api.OK
			if s.first == "peer" {
				f.Peers = append(f.Peers, api.Peer{Addr: addressOf(m[1]), Priority: uint8(numberOf(m[2]))})
			} else {
				f.Keys = append(f.Keys, s.key(1))
			}
		}
	}
	for i := len(d.c.Virtuals) - 1; i >= 0 && e != api.OK && s.first == "vkey"; i-- {
		if v := &d.c.Virtuals[i]; v.Area == addressOf(m[0]) && v.Router == addressOf(m[1]) {
			e = api.OK
			v.Keys = append(v.Keys, s.key(2))
		}
	}
	return e
}

// likes: are they the same, but that lists without elements are one?
func likes(a, b any) bool {
	return reflect.DeepEqual(tidy(reflect.ValueOf(a)).Interface(), tidy(reflect.ValueOf(b)).Interface())
}

// tidy: a copy whose lists without elements are nil.
func tidy(v reflect.Value) reflect.Value {
	w := reflect.New(v.Type()).Elem()
	switch v.Kind() {
	case reflect.Struct:
		for i := range v.NumField() {
			w.Field(i).Set(tidy(v.Field(i)))
		}
	case reflect.Slice:
		for i := range v.Len() {
			w.Set(reflect.Append(w, tidy(v.Index(i))))
		}
	default:
		w.Set(v)
	}
	return w
}

// leaves calls do for each field of a configuration that has no parts of its own, each item's too.
func leaves(v reflect.Value, path string, do func(path string, v reflect.Value)) {
	switch v.Kind() {
	case reflect.Struct:
		for i := range v.NumField() {
			leaves(v.Field(i), path+"."+v.Type().Field(i).Name, do)
		}
	case reflect.Slice:
		for i := range v.Len() {
			leaves(v.Index(i), path+"["+strconv.Itoa(i)+"]", do)
		}
	default:
		do(path, v)
	}
}

// lists calls do for each list of a configuration, each item's too.
func lists(v reflect.Value, path string, do func(path string, v reflect.Value)) {
	switch v.Kind() {
	case reflect.Struct:
		for i := range v.NumField() {
			lists(v.Field(i), path+"."+v.Type().Field(i).Name, do)
		}
	case reflect.Slice:
		for i := range v.Len() {
			lists(v.Index(i), path+"["+strconv.Itoa(i)+"]", do)
		}
		do(path, v)
	}
}

func wantCheck(t *testing.T, what string, c api.Config, want api.Errno, part, n int) {
	t.Helper()
	if e, p, m := config.Check(c); e != want || p != part || m != n {
		t.Errorf("P9.1: %s: Check: %d, %d, %d; want %d, %d, %d", what, e, p, m, want, part, n)
	}
	if e, p, m := verdict(c); e != want || p != part || m != n {
		t.Errorf("P9.1: %s: the words: %d, %d, %d; want %d, %d, %d", what, e, p, m, want, part, n)
	}
}

// wantRefused asks for an error, and nothing else.
func wantRefused(t *testing.T, src string, want api.Errno, line int) {
	t.Helper()
	c, e, n := config.Parse([]byte(src))
	if e != want || n != line || !likes(c, api.Config{}) {
		t.Errorf("P9.4: Parse of %q: %d at %d; want %d at %d, and nothing else", src, e, n, want, line)
	}
	if _, e, n := parsed(src); e != want || n != line {
		t.Errorf("P9.4: the words of %q: %d at %d; want %d at %d", src, e, n, want, line)
	}
}

func wantParsed(t *testing.T, src string, want api.Config) {
	t.Helper()
	c, e, n := config.Parse([]byte(src))
	if e != api.OK || n != 0 || !likes(c, want) {
		t.Errorf("P9.4: Parse of %q: %+v, %d at %d; want %+v", src, c, e, n, want)
	}
}

// wantAsSaid asks for what the words say, whatever that is.
func wantAsSaid(t *testing.T, src string) api.Errno {
	t.Helper()
	want, e, n := parsed(src)
	c, f, m := config.Parse([]byte(src))
	if f != e || m != n || !likes(c, want) {
		t.Fatalf("P9.4: Parse of %q: %+v, %d at %d; want %+v, %d at %d", src, c, f, m, want, e, n)
	}
	return e
}
