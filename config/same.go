package config

import (
	"bytes"
	"slices"

	"lodestar/api"
)

// Copy: the same, in memory of its own.
func Copy(c api.Config) api.Config {
	c.Areas = slices.Clone(c.Areas)
	c.Ranges = slices.Clone(c.Ranges)
	c.Ifaces = copied(c.Ifaces, copyIface)
	c.Virtuals = copied(c.Virtuals, copyVirtual)
	c.Outers = slices.Clone(c.Outers)
	c.Opaques = copied(c.Opaques, copyOpaque)
	return c
}

// copied: a list of items that have lists of their own.
func copied[T any](l []T, item func(T) T) []T {
	l = slices.Clone(l)
	for i := range l {
		l[i] = item(l[i])
	}
	return l
}

func copyIface(f api.Iface) api.Iface {
	f.Peers = slices.Clone(f.Peers)
	f.Keys = copied(f.Keys, copyKey)
	return f
}

func copyVirtual(v api.Virtual) api.Virtual {
	v.Keys = copied(v.Keys, copyKey)
	return v
}

func copyKey(k api.AuthKey) api.AuthKey {
	k.Secret = bytes.Clone(k.Secret)
	return k
}

func copyOpaque(o api.Opaque) api.Opaque {
	o.Data = bytes.Clone(o.Data)
	return o
}

// Same: is each field, each item of each list the same?
func Same(a, b api.Config) bool {
	return a.Router == b.Router && a.Limit == b.Limit && a.StubOnly == b.StubOnly &&
		sameLists(a.Areas, b.Areas, equal) &&
		sameLists(a.Ranges, b.Ranges, equal) &&
		sameLists(a.Ifaces, b.Ifaces, sameIfaces) &&
		sameLists(a.Virtuals, b.Virtuals, sameVirtuals) &&
		sameLists(a.Outers, b.Outers, equal) &&
		sameLists(a.Opaques, b.Opaques, sameOpaques)
}

// sameLists: are they as long, and item by item the same?
func sameLists[T any](a, b []T, same func(a, b T) bool) bool {
	if len(a) != len(b) {
		return false
	}
	for i := range a {
		if !same(a[i], b[i]) {
			return false
		}
	}
	return true
}

func equal[T comparable](a, b T) bool { return a == b }

func sameIfaces(a, b api.Iface) bool {
	return a.Name == b.Name && a.Addr == b.Addr && a.Bits == b.Bits && a.Area == b.Area &&
		a.Kind == b.Kind && a.Cost == b.Cost && a.Priority == b.Priority &&
		a.Times == b.Times && a.MTU == b.MTU && a.Passive == b.Passive && a.Demand == b.Demand &&
		sameLists(a.Peers, b.Peers, equal) &&
		sameLists(a.Keys, b.Keys, sameKeys)
}

func sameVirtuals(a, b api.Virtual) bool {
	return a.Area == b.Area && a.Router == b.Router && a.Times == b.Times && sameLists(a.Keys, b.Keys, sameKeys)
}

func sameKeys(a, b api.AuthKey) bool {
	return a.ID == b.ID && a.Kind == b.Kind &&
		a.SendFrom == b.SendFrom && a.SendUntil == b.SendUntil &&
		a.TakeFrom == b.TakeFrom && a.TakeUntil == b.TakeUntil &&
		bytes.Equal(a.Secret, b.Secret)
}

func sameOpaques(a, b api.Opaque) bool {
	return a.Type == b.Type && a.Iface == b.Iface && a.Area == b.Area && a.ID == b.ID && bytes.Equal(a.Data, b.Data)
}
