package config

import (
	"slices"
	"strconv"
	"strings"

	"lodestar/api"
	"lodestar/prefix"
)

// hexDigits: those of BYTES, by what they stand for.
const hexDigits = "0123456789abcdef"

// noBytes: how no bytes at all are told, as a word can't be empty.
const noBytes = "-"

// The words that tell a number, each at its number's place. The empty text is none: a number that has it is not told by a word.
func areaKinds() []string   { return []string{"normal", "stub", "nssa"} }
func ifaceKinds() []string  { return []string{"broadcast", "nbma", "multi", "point"} }
func keyKinds() []string    { return []string{"", "plain", "digest"} }
func translators() []string { return []string{"", "always", "never"} }
func outerTypes() []string  { return []string{"", "1", "2"} }

// number: what a number's field may be.
type number interface{ uint8 | uint16 | uint32 | int }

// Text: c's lines.
func Text(c api.Config) (string, api.Errno) {
	if e, _, _ := Check(c); e != api.OK {
		return "", e
	}
	w := writer{}
	w.lines(c)
	return w.String(), api.OK
}

// writer: of lines.
type writer struct{ strings.Builder }

// line: its words may come in pieces.
func (w *writer) line(pieces ...[]string) {
	w.WriteString(strings.Join(slices.Concat(pieces...), " "))
	w.WriteByte('\n')
}

// words: a piece of a line.
func words(l ...string) []string { return l }

// told: a piece of a line that is there only if so.
func told(is bool, l ...string) []string {
	if !is {
		return nil
	}
	return l
}

func (w *writer) lines(c api.Config) {
	w.whole(c)
	for _, a := range c.Areas {
		w.area(a)
	}
	for _, r := range c.Ranges {
		w.line(words("range", prefix.Dotted(r.Area), prefix.Text(r.Prefix)), told(r.Outer, "outer"), told(r.Hide, "hide"))
	}
	for _, f := range c.Ifaces {
		w.iface(f)
	}
	for _, v := range c.Virtuals {
		w.virtual(v)
	}
	for _, o := range c.Outers {
		w.outer(o)
	}
	for _, o := range c.Opaques {
		w.opaque(o)
	}
}

func (w *writer) whole(c api.Config) {
	w.line(words("router", prefix.Dotted(c.Router)))
	if c.Limit != 0 {
		w.line(words("limit", tens(c.Limit)))
	}
	if c.StubOnly {
		w.line(words("stub-router"))
	}
}

func (w *writer) area(a api.Area) {
	w.line(
		words("area", prefix.Dotted(a.ID), areaKinds()[a.Kind]),
		told(a.NoSummary, "no-summary"),
		told(a.Cost != 0, "cost", tens(a.Cost)),
		told(a.Translate != api.TransCandidate, "translate", translators()[a.Translate]),
	)
}

func (w *writer) iface(f api.Iface) {
	w.line(
		words("iface", f.Name, prefix.Dotted(f.Addr)+"/"+tens(f.Bits), "area", prefix.Dotted(f.Area), ifaceKinds()[f.Kind]),
		words("cost", tens(f.Cost), "priority", tens(f.Priority)),
		timeWords(f.Times),
		words("mtu", tens(f.MTU)),
		told(f.Passive, "passive"),
		told(f.Demand, "demand"),
	)
	for _, p := range f.Peers {
		w.line(words("peer", f.Name, prefix.Dotted(p.Addr), tens(p.Priority)))
	}
	for _, k := range f.Keys {
		w.line(words("key", f.Name), keyWords(k))
	}
}

func (w *writer) virtual(v api.Virtual) {
	end := words(prefix.Dotted(v.Area), prefix.Dotted(v.Router))
	w.line(words("virtual"), end, timeWords(v.Times))
	for _, k := range v.Keys {
		w.line(words("vkey"), end, keyWords(k))
	}
}

func (w *writer) outer(o api.Outer) {
	kind := 1
	if o.Type2 {
		kind = 2
	}
	w.line(
		words("outer", prefix.Text(o.Prefix), "metric", tens(o.Metric), "type", outerTypes()[kind]),
		told(o.Forward != 0, "forward", prefix.Dotted(o.Forward)),
		told(o.Tag != 0, "tag", tens(o.Tag)),
	)
}

func (w *writer) opaque(o api.Opaque) {
	w.line(
		words("opaque", tens(o.Type), tens(o.ID), hexOf(o.Data)),
		told(o.Type == api.OpaqueLink, "iface", o.Iface),
		told(o.Type == api.OpaqueArea, "area", prefix.Dotted(o.Area)),
	)
}

func timeWords(t api.Times) []string {
	return words("hello", tens(t.Hello), "dead", tens(t.Dead), "poll", tens(t.Poll), "again", tens(t.Again), "delay", tens(t.Delay))
}

func keyWords(k api.AuthKey) []string {
	return words(tens(k.ID), keyKinds()[k.Kind], hexOf(k.Secret), tens(k.SendFrom), tens(k.SendUntil), tens(k.TakeFrom), tens(k.TakeUntil))
}

// tens: of a number that Check lets by, none of which is below 0.
func tens[T number](n T) string { return strconv.FormatUint(uint64(n), 10) }

// hexOf: BYTES.
func hexOf(b []byte) string {
	if len(b) == 0 {
		return noBytes
	}
	var w strings.Builder
	for _, c := range b {
		w.WriteByte(hexDigits[c>>4])
		w.WriteByte(hexDigits[c&15])
	}
	return w.String()
}
