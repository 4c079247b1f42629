package head

import (
	"slices"
	"strings"

	"polyglot/api"
)

// Same returns whether all fields of two packets are equal, those that their kinds do not use among them.
func Same(a, b api.Packet) bool {
	return numbers(a) == numbers(b) &&
		marks(a) == marks(b) &&
		texts(a) == texts(b) &&
		slices.EqualFunc(a.Codes, b.Codes, same[int]) &&
		slices.EqualFunc(a.Filters, b.Filters, same[api.Filter]) &&
		slices.EqualFunc(a.Props, b.Props, same[api.Prop]) &&
		slices.EqualFunc(a.Will.Props, b.Will.Props, same[api.Prop])
}

func same[T comparable](a, b T) bool {
	return a == b
}

// numbers, marks and texts return the fields of a packet that are no lists, by their types: an array can be compared as a whole, a packet can't.
func numbers(p api.Packet) [6]int {
	return [...]int{p.Kind, p.QoS, p.ID, p.KeepAlive, p.Code, p.Will.QoS}
}

func marks(p api.Packet) [8]bool {
	return [...]bool{p.Dup, p.Retain, p.Clean, p.HasUser, p.HasPass, p.HasWill, p.Session, p.Will.Retain}
}

func texts(p api.Packet) [7]string {
	return [...]string{p.Topic, p.Payload, p.Client, p.User, p.Pass, p.Will.Topic, p.Will.Payload}
}

// Copy returns a copy that shares no memory with p. Its texts are copied, too, so that who keeps it does not keep the bytes from which p was read.
func Copy(p api.Packet) api.Packet {
	renew(&p.Topic, &p.Payload, &p.Client, &p.User, &p.Pass, &p.Will.Topic, &p.Will.Payload)
	p.Will.Props = copyProps(p.Will.Props)
	p.Codes = fresh(p.Codes)
	p.Filters = copyFilters(p.Filters)
	p.Props = copyProps(p.Props)
	return p
}

func copyFilters(l []api.Filter) []api.Filter {
	l = fresh(l)
	for i := range l {
		renew(&l[i].Topic)
	}
	return l
}

func copyProps(l []api.Prop) []api.Prop {
	l = fresh(l)
	for i := range l {
		renew(&l[i].Text, &l[i].Value)
	}
	return l
}

// fresh returns the elements in new memory. slices.Clone would keep the array of an empty list.
func fresh[T any](l []T) []T {
	return append([]T(nil), l...)
}

// renew puts texts into new memory.
func renew(texts ...*string) {
	for _, text := range texts {
		*text = strings.Clone(*text)
	}
}
