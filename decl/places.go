package decl

import (
	"hoarstone/api"
	"hoarstone/wire"
)

// ConSum returns the digest of a constructor.
func ConSum(ref api.Sum, con int) (api.Sum, api.Errno) { return placeSum(conPlace, ref, con) }

// OpSum returns the digest of an operation.
func OpSum(ref api.Sum, op int) (api.Sum, api.Errno) { return placeSum(opPlace, ref, op) }

// FindCon returns the constructor that has a digest.
func FindCon(w api.World, s api.Sum) (api.Sum, int, api.Errno) {
	if e := CheckWorld(w); e != api.OK {
		return api.Sum{}, 0, e
	}
	for _, d := range w.Datas {
		if con, is := placed(conPlace, d.Sum, len(d.Data.Cons), s); is {
			return d.Sum, con, api.OK
		}
	}
	return api.Sum{}, 0, api.ErrNone
}

// FindOp returns the operation that has a digest.
func FindOp(w api.World, s api.Sum) (api.Sum, int, api.Errno) {
	if e := CheckWorld(w); e != api.OK {
		return api.Sum{}, 0, e
	}
	for _, a := range w.Abilities {
		if op, is := placed(opPlace, a.Sum, len(a.Ability.Ops), s); is {
			return a.Sum, op, api.OK
		}
	}
	return api.Sum{}, 0, api.ErrNone
}

// placed returns which one of so many constructors, or operations, has a digest, and whether one has.
func placed(kind int, ref api.Sum, many int, s api.Sum) (int, bool) {
	for n := range many {
		if x, e := placeSum(kind, ref, n); e == api.OK && x == s {
			return n, true
		}
	}
	return 0, false
}

// placeSum returns the digest of a constructor or of an operation.
func placeSum(kind int, ref api.Sum, n int) (api.Sum, api.Errno) {
	if n < 0 || n >= api.MaxCons {
		return api.Sum{}, api.ErrRange
	}
	return wire.Sum(api.Item{Kind: kind, Num: n, Text: string(ref[:])})
}
