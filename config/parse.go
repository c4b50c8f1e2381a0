package config

import (
	"slices"
	"strconv"
	"strings"

	"lodestar/api"
	"lodestar/prefix"
)

// Parse: the configuration of a text; else why there is none, and in which line.
func Parse(src []byte) (c api.Config, e api.Errno, line int) {
	if len(src) > api.MaxConfigText {
		return api.Config{}, api.ErrMany, 0
	}
	r := &reader{came: map[string]int{}}
	if e := r.read(string(src)); e != api.OK {
		return api.Config{}, e, r.line
	}
	if e, part, n := Check(r.config); e != api.OK {
		return api.Config{}, e, r.lineOf(part, n)
	}
	return r.config, api.OK, 0
}

// reader: of a text, line by line.
type reader struct {
	config api.Config
	// line: the number of the one that is read.
	line int
	// words: those of it that are not taken yet.
	words []string
	// lines: by part, those of its items.
	lines [partCount][]int
	// came: the lines of words that may begin one line alone.
	came map[string]int
}

// flaw: what is wrong with a line; those who find it are far below those who answer it.
type flaw api.Errno

// need gives up with a flaw, unless all is as it must be.
func need(is bool, e api.Errno) {
	if !is {
		panic(flaw(e))
	}
}

// read: what is wrong with the first line with which something is; then line is its number.
func (r *reader) read(text string) (e api.Errno) {
	defer func() {
		if f, is := recover().(flaw); is {
			e = api.Errno(f)
		}
	}()
	readers := r.readers()
	for i, line := range strings.Split(text, "\n") {
		r.line = i + 1
		r.words = wordsOf(line)
		if len(r.words) == 0 {
			continue
		}
		read := readers[r.word()]
		need(read != nil, api.ErrText)
		read()
	}
	return api.OK
}

// readers: by a line's first word, what takes the others.
func (r *reader) readers() map[string]func() {
	return map[string]func(){
		"router":      r.router,
		"limit":       r.limit,
		"stub-router": r.stubRouter,
		"area":        r.area,
		"range":       r.scope,
		"iface":       r.iface,
		"peer":        r.peer,
		"key":         r.key,
		"virtual":     r.virtual,
		"vkey":        r.virtualKey,
		"outer":       r.outer,
		"opaque":      r.opaque,
	}
}

// wordsOf: those of a line, without what stands from a # on.
func wordsOf(line string) []string {
	line, _, _ = strings.Cut(line, "#")
	return strings.FieldsFunc(line, func(c rune) bool { return c == '\t' || c == '\r' || c == ' ' })
}

// lineOf: that of the n-th item of a part; of the whole 0.
func (r *reader) lineOf(part, n int) int {
	if part == partWhole {
		return 0
	}
	return r.lines[part][n]
}

// add lays an item behind those of its part that were read so far.
func add[T any](r *reader, part int, l *[]T, item T) {
	*l = append(*l, item)
	r.lines[part] = append(r.lines[part], r.line)
}

// last: of the items that are meant the one that was read last.
func last[T any](l []T, isMeant func(item T) bool) *T {
	for i, item := range slices.Backward(l) {
		if isMeant(item) {
			return &l[i]
		}
	}
	panic(flaw(api.ErrNone))
}

// once: a line with that first word must not have come yet.
func (r *reader) once(word string) {
	need(r.came[word] == 0, api.ErrTwice)
	r.came[word] = r.line
}

// word takes the next one.
func (r *reader) word() string {
	need(len(r.words) > 0, api.ErrText)
	w := r.words[0]
	r.words = r.words[1:]
	return w
}

// end: there must be no word more.
func (r *reader) end() { need(len(r.words) == 0, api.ErrText) }

// options takes all words that are left: each names one of those that may follow, which then takes what belongs to it, and may not follow again.
func (r *reader) options(may map[string]func()) {
	for len(r.words) > 0 {
		name := r.word()
		take := may[name]
		need(take != nil, api.ErrText)
		delete(may, name)
		take()
	}
}

// mark: an option that is a word alone.
func mark(field *bool) func() { return func() { *field = true } }

// count: an option that has a number.
func count[T number](r *reader, field *T) func() {
	return func() { *field = tensOf[T](r.word()) }
}

// place: an option that has an address.
func (r *reader) place(field *uint32) func() {
	return func() { *field = r.address() }
}

// times: the options for them, which are as usual if they are left out.
func (r *reader) times(t *api.Times) map[string]func() {
	*t = api.Times{Hello: 10, Dead: 40, Poll: 120, Again: 5, Delay: 1}
	return map[string]func(){
		"hello": count(r, &t.Hello),
		"dead":  count(r, &t.Dead),
		"poll":  count(r, &t.Poll),
		"again": count(r, &t.Again),
		"delay": count(r, &t.Delay),
	}
}

// tensOf: the number that the word tells, just as tens does, if there is room for it.
func tensOf[T number](w string) T {
	v, err := strconv.ParseUint(w, 10, 64)
	n := T(v)
	need(err == nil && n >= 0 && uint64(n) == v && tens(n) == w, api.ErrText)
	return n
}

func addressOf(w string) uint32 {
	addr, e := prefix.Address(w)
	need(e == api.OK, e)
	return addr
}

func (r *reader) address() uint32 { return addressOf(r.word()) }

func (r *reader) prefix() api.Prefix {
	p, e := prefix.Parse(r.word())
	need(e == api.OK, e)
	return p
}

// choice: the place of the next word among those that may stand there.
func (r *reader) choice(among []string) int {
	i := slices.Index(among, r.word())
	need(i >= 0, api.ErrText)
	return i
}

// bytes reads what hexOf tells.
func (r *reader) bytes() []byte {
	w := r.word()
	if w == noBytes {
		return nil
	}
	need(len(w)%2 == 0, api.ErrText)
	b := make([]byte, len(w)/2)
	for i := range b {
		b[i] = hexDigit(w[2*i])<<4 | hexDigit(w[2*i+1])
	}
	return b
}

func hexDigit(c byte) byte {
	v := strings.IndexByte(hexDigits, c)
	need(v >= 0, api.ErrText)
	return byte(v)
}

func (r *reader) router() {
	id := r.address()
	r.end()
	r.once("router")
	r.config.Router = id
}

func (r *reader) limit() {
	n := tensOf[int](r.word())
	r.end()
	r.once("limit")
	r.config.Limit = n
}

func (r *reader) stubRouter() {
	r.end()
	r.once("stub-router")
	r.config.StubOnly = true
}

func (r *reader) area() {
	a := api.Area{ID: r.address(), Kind: uint8(r.choice(areaKinds()))}
	r.options(map[string]func(){
		"no-summary": mark(&a.NoSummary),
		"cost":       count(r, &a.Cost),
		"translate":  func() { a.Translate = uint8(r.choice(translators())) },
	})
	add(r, partAreas, &r.config.Areas, a)
}

func (r *reader) scope() {
	g := api.Range{Area: r.address(), Prefix: r.prefix()}
	r.options(map[string]func(){"outer": mark(&g.Outer), "hide": mark(&g.Hide)})
	add(r, partRanges, &r.config.Ranges, g)
}

func (r *reader) iface() {
	f := api.Iface{Name: r.word(), Cost: 10, Priority: 1, MTU: api.MTU}
	addr, bits, _ := strings.Cut(r.word(), "/") // without a / there is nothing behind it, which is no number
	f.Addr, f.Bits = addressOf(addr), tensOf[uint8](bits)
	need(r.word() == "area", api.ErrText)
	f.Area, f.Kind = r.address(), uint8(r.choice(ifaceKinds()))
	may := r.times(&f.Times)
	may["cost"] = count(r, &f.Cost)
	may["priority"] = count(r, &f.Priority)
	may["mtu"] = count(r, &f.MTU)
	may["passive"] = mark(&f.Passive)
	may["demand"] = mark(&f.Demand)
	r.options(may)
	add(r, partIfaces, &r.config.Ifaces, f)
}

// named: the interface of that name.
func (r *reader) named(name string) *api.Iface {
	return last(r.config.Ifaces, func(f api.Iface) bool { return f.Name == name })
}

func (r *reader) peer() {
	name := r.word()
	p := api.Peer{Addr: r.address(), Priority: tensOf[uint8](r.word())}
	r.end()
	f := r.named(name)
	f.Peers = append(f.Peers, p)
}

func (r *reader) key() {
	name := r.word()
	k := r.authKey()
	f := r.named(name)
	f.Keys = append(f.Keys, k)
}

// authKey takes what a line says of a key, up to its end.
func (r *reader) authKey() api.AuthKey {
	k := api.AuthKey{
		ID:        tensOf[uint8](r.word()),
		Kind:      uint16(r.choice(keyKinds())),
		Secret:    r.bytes(),
		SendFrom:  tensOf[int](r.word()),
		SendUntil: tensOf[int](r.word()),
		TakeFrom:  tensOf[int](r.word()),
		TakeUntil: tensOf[int](r.word()),
	}
	r.end()
	return k
}

func (r *reader) virtual() {
	v := api.Virtual{Area: r.address(), Router: r.address()}
	r.options(r.times(&v.Times))
	add(r, partVirtuals, &r.config.Virtuals, v)
}

func (r *reader) virtualKey() {
	area, router := r.address(), r.address()
	k := r.authKey()
	v := last(r.config.Virtuals, func(v api.Virtual) bool { return v.Area == area && v.Router == router })
	v.Keys = append(v.Keys, k)
}

func (r *reader) outer() {
	o := api.Outer{Prefix: r.prefix()}
	r.options(map[string]func(){
		"metric":  count(r, &o.Metric),
		"type":    func() { o.Type2 = r.choice(outerTypes()) == 2 },
		"forward": r.place(&o.Forward),
		"tag":     count(r, &o.Tag),
	})
	add(r, partOuters, &r.config.Outers, o)
}

func (r *reader) opaque() {
	o := api.Opaque{Type: tensOf[uint8](r.word()), ID: tensOf[uint32](r.word()), Data: r.bytes()}
	r.options(map[string]func(){
		"iface": func() { o.Iface = r.word() },
		"area":  r.place(&o.Area),
	})
	add(r, partOpaques, &r.config.Opaques, o)
}
